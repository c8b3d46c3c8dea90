/-
  Texts beneath the proof.
-/
import Derived.Test.YtiddkgcafpaekaaGreatJq38
set_option linter.unusedVariables false
set_option linter.unusedSimpArgs false
set_option maxRecDepth 100000
set_option maxHeartbeats 8000000
open Go.ChangeShapes Go.WideShapes Go.ChangeAt Go.RowKit
namespace Go.Proofs.YtiddkgcafpaekaaGreat
namespace Jb
open Bytes8 Blk8 Own8 OwnE Rows2 Ga Gb Gf Gj Ma Na Np Ns Nt Nu Rc Rn Rp Rr Va Wa Ls Pr8
open Go1 (hcode)
open Yz (OwnE.farE)
structure FileAt (w:World)(gf gv:Nat)(h:HD)(A:Option Addr)(E c:Nat)(l:List Int)(P:Option Addr)(n cp:Nat)(out:List Int)(cd:Int):Prop where
 blk:Blk w gf [.pointer (some ⟨gv,0,none⟩),.slice P n cp,.int .i64 cd] 174
 view:ViewAt w gv h A E c l
 cm:c≤maxLen
 e8:E≤800000
 ints:InInts .u64 w P n (fun i=>out.getD i 0)
 len:out.length=n
 nn: ∀y∈out,0≤y∧y≤18446744073709551615
 nb:n≤800000
theorem FileAt.below {w w':World}{gf gv:Nat}{h:HD}{A:Option Addr}{E c:Nat}{l:List Int}{P:Option Addr}{n cp:Nat}{out:List Int}{cd:Int}(f:FileAt w gf gv h A E c l P n cp out cd)(hb:Below w.heap.size w w'):FileAt w' gf gv h A E c l P n cp out cd:=
 ⟨f.blk.below hb f.blk.lt,f.view.below hb,f.cm,f.e8,f.ints.below hb,f.len,f.nn,f.nb⟩
def JOpened (l:List Int)(E:Nat)(w:World)(e:Ending)(w':World):Prop:= ∃(gf gv:Nat) (A2:Option Addr) (c2:Nat) (P:Option Addr) (k cp:Nat),e= .returned (.tuple #[.pointer (some ⟨gf,0,none⟩),.int .i64 0])∧FileAt w' gf gv (hdOf l) A2 E c2 (l.take E) P k cp (chase (hdOf l) (l.take E) E ((hdOf l).N 8) 14 2 (E+1) [] ((hdOf l).N 11).toNat 0).1 (chase (hdOf l) (l.take E) E ((hdOf l).N 8) 14 2 (E+1) [] ((hdOf l).N 11).toNat 0).2∧Below w.heap.size w w'
attribute [local irreducible] HD.cells wpList Code.wp
theorem jopen_fine (l:List Int)(A:Option Addr)(n c:Nat)(w:World)(hb:Bytes w A l)(hL:l.length=n)(hn:n≤800000)(hc:n≤c)(hz:hcode l n=0)(E:Nat)(hE:endV (hdOf l)=(E:Int))(hEB:endB (hdOf l)=true)(hEn:E≤n)(hok:(hdOf l).Ok 21):
 Calls Tryz.prog 30 #[.slice A n c] w (JOpened l E w):=by
 have HOp:=yH (open_fine l A n c w hb hL hn hc hz E hE hEB hEn hok)
 unfold Opened at HOp
 have hAll:=hb.1
 have hlE:(l.take E).length≤800000:=by rw[List.length_take];omega
 have HAl:=yH (hAll.take E)
 have HF:=yH (chase_fit (h:=hdOf l) (hAll.take E) (E:=E) (n:=(hdOf l).N 8) (na:=14) (ni:=2) (E+1) [] ((hdOf l).N 11).toNat 0 (fit_nil E))
 have hE8:E≤800000:=by omega
 have HOk:=yH hok
 unfold JOpened
 clear hb hz hE hEB
 generalize hdOf l=H at*
 generalize l.take E=lE at*
 have HEn:=yH fun(W:World) (gv:Nat) (A2:Option Addr) (c2:Nat) (v:ViewAt W gv H A2 E c2 lE) (hcm:c2≤maxLen)=>Wl.entries_any W v hcm hE8 hlE HAl.out HOk.out
 unfold TellL at HEn
 generalize chase H lE E (H.N 8) 14 2 (E+1) [] (H.N 11).toNat 0=R at*
 obtain⟨out,cd⟩:=R
 dsimp only at*
 go_enter Tryz.func30,Tryz.ntmps30
 go_upto_region 5 with(first
  |(go_at_call 24;((refine HOp.out.mono ?_);rintro e w1 ⟨gv,A2,c2,rfl,_,hv,hc2,hb1⟩;have HV:=yH hv;have B1:=yH hb1;have HC2:=yH hc2;clear hv hb1 hc2))
  |fail)
 have R2:=yH (Blk.new w1 [.pointer (some ⟨gv,0,none⟩),.slice none 0 0,.int .i64 0] 174)
 have b2:=yH ((Below.refl w1.heap.size w1).alloc (yR _) (.cells #[.pointer (some ⟨gv,0,none⟩),.slice none 0 0,.int .i64 0] 174))
 have hs2:(w1.alloc (.cells #[.pointer (some ⟨gv,0,none⟩),.slice none 0 0,.int .i64 0] 174)).heap.size=w1.heap.size+1:=by simp
 have HV2:=yH (HV.out.below b2.out)
 have HE2:=yH (HEn.out _ gv A2 c2 HV2.out HC2.out)
 have hs1:=B1.out.size
 clear HOp HEn
 generalize (w1.alloc (.cells #[.pointer (some ⟨gv,0,none⟩),.slice none 0 0,.int .i64 0] 174))=w2 at*
 have B2:=yH (B1.out.trans (b2.out.mono B1.out.size))
 obtain⟨g1,hg1⟩: ∃g,w1.heap.size=g:=⟨_,rfl⟩
 rw[hg1]at R2 hs2 b2 hs1
 clear B1
 go_upto_region 6 with(first
  |(go_at_call 83;((refine HE2.out.mono ?_);rintro e w3 ⟨hb3,P,k,cp,rfl,ho3,hl3⟩;have B3:=yH hb3;have O3:=yH ho3;have L3:=yH hl3;have R3:=R2.out.below hb3 R2.out.lt;have k1:=R3.cell (i:=1) rfl;have k2:=R3.cell (i:=2) rfl;have z1:=R3.frozen 1;have z2:=R3.frozen 2;clear hb3 ho3 hl3))
  |fail)
 have BF:=yH (((b2.out.trans (B3.out.mono (by omega))).setCell (p:=⟨g1,1,none⟩) (yR _) (.slice P k cp)).setCell (p:=⟨g1,2,none⟩) (yR _) (.int .i64 cd))
 have BB:=yH (((B2.out.trans (B3.out.mono B2.out.size)).setCell (p:=⟨g1,1,none⟩) hs1 (.slice P k cp)).setCell (p:=⟨g1,2,none⟩) hs1 (.int .i64 cd))
 have RF:=yH ((R3.set_ 1 (.slice P k cp)).set_ 2 (.int .i64 cd))
 have OF:=yH (OwnE.farE (OwnE.farE O3.out (a:=⟨g1,1,none⟩) (by show g1<_;omega) (.slice P k cp)) (a:=⟨g1,2,none⟩) (by show g1<_;omega) (.int .i64 cd))
 have L5:=L3.out
 have F5:=HF.out
 have HVF:=yH (HV.out.below (by rw[hg1];exact BF.out))
 clear k1 k2 z1 z2 R3
 go_wp2
 go_ret2
 refine⟨g1,gv,A2,c2,P,k,cp,rfl,⟨RF.out,HVF.out,HC2.out,hE8,tell_ints OF.out L5 F5.2,L5,F5.2,?_⟩,BB.out⟩
 have h6:=F5.1
 unfold Up at h6
 omega
theorem len_any {w:World}{gf gv:Nat}{h:HD}{A:Option Addr}{E c:Nat}{l:List Int}{P:Option Addr}{n cp:Nat}{out:List Int}{cd:Int}(f:FileAt w gf gv h A E c l P n cp out cd):Calls Tryz.prog 35 #[.pointer (some ⟨gf,0,none⟩)] w fun e w'=>e= .returned (.int .i64 (n:Int))∧w=w':=by
 have k1:=f.blk.cell (i:=1) rfl
 clear f
 go_enter Tryz.func35,Tryz.ntmps35
 go_wp2
 go_ret
 exact⟨rfl,rfl⟩
theorem code_any {w:World}{gf gv:Nat}{h:HD}{A:Option Addr}{E c:Nat}{l:List Int}{P:Option Addr}{n cp:Nat}{out:List Int}{cd:Int}(f:FileAt w gf gv h A E c l P n cp out cd):Calls Tryz.prog 74 #[.pointer (some ⟨gf,0,none⟩)] w fun e w'=>e= .returned (.int .i64 cd)∧w=w':=by
 have k2:=f.blk.cell (i:=2) rfl
 clear f
 go_enter Tryz.func74,Tryz.ntmps74
 go_wp2
 go_ret
 exact⟨rfl,rfl⟩
theorem view_any {w:World}{gf gv:Nat}{h:HD}{A:Option Addr}{E c:Nat}{l:List Int}{P:Option Addr}{n cp:Nat}{out:List Int}{cd:Int}(f:FileAt w gf gv h A E c l P n cp out cd):Calls Tryz.prog 31 #[.pointer (some ⟨gf,0,none⟩)] w fun e w'=>e= .returned (.pointer (some ⟨gv,0,none⟩))∧w=w':=by
 have k0:=f.blk.cell (i:=0) rfl
 clear f
 go_enter Tryz.func31,Tryz.ntmps31
 go_wp2
 go_ret
 exact⟨rfl,rfl⟩
theorem at_in {w:World}{gf gv:Nat}{h:HD}{A:Option Addr}{E c:Nat}{l:List Int}{P:Option Addr}{n cp:Nat}{out:List Int}{cd:Int}(f:FileAt w gf gv h A E c l P n cp out cd)(x:Nat)(hx:x<n):Calls Tryz.prog 141 #[.pointer (some ⟨gf,0,none⟩),.int .i64 (x:Int)] w fun e w'=>e= .returned (.tuple #[.int .u64 (out.getD x 0),.int .i64 0])∧w=w':=by
 have k1:=f.blk.cell (i:=1) rfl
 have d1:decide ((x:Int)<0)=false:=by simp
 have d2:decide ((n:Int)≤(x:Int))=false:=by simp;omega
 obtain⟨b,off,rfl,_,hc,_⟩:=f.ints x hx
 dsimp only at hc
 generalize out.getD x 0=y at*
 clear f
 go_enter Tryz.func141,Tryz.ntmps141
 go_wp2
 go_ret2
 exact⟨rfl,rfl⟩
end Jb
namespace Jc
open Bytes8 Blk8 Own8 OwnE Rows2 Ga Gb Ma Na Np Nr Ns Nt Rc Rn Rr Va Wa Pr8 Jb Ro
open Go1 (hcode)
open Nh (intE)
open Dc (wpList_append_elt_at)
open Yg (NewIn)
open Yg (res_row)
def TellRN (B:Nat)(p:RecP)(cd:Int)(w:World)(e:Ending)(w':World):Prop:= ∃F c,e= .returned (.tuple #[p.v F c,.int .i64 cd])∧Prs w' F p.pl∧NewIn B F∧Below w.heap.size w w'
theorem recTellN {gv:Nat}{h:HD}{A:Option Addr}{n c:Nat}{l:List Int}(a:Nat)(w:World)(v:ViewAt w gv h A n c l)(hcm:c≤maxLen)(h8:n≤800000):
 Calls Tryz.prog 142 #[.pointer (some ⟨gv,0,none⟩),.int .u64 (a:Int)] w (TellRN w.heap.size (recP h l n a) (rcode h l n a) w):=by
 refine(recAsk a w v hcm h8).mono ?_
 rintro e w' ⟨hb,⟨hz,rfl⟩|⟨hz,F,c2,rfl,hp,hn⟩⟩
 ·unfold TellRN recP
  rw[if_neg hz]
  exact⟨none,0,rfl,Prs.nil _ _,none_new _,hb⟩
 ·unfold TellRN recP
  rw[if_pos hz,hz]
  exact⟨F,c2,rfl,hp,hn,hb⟩
attribute [local irreducible] HD.cells wpList Code.wp
theorem rec_in {w:World}{gf gv:Nat}{h:HD}{A:Option Addr}{E c:Nat}{l:List Int}{P:Option Addr}{n cp:Nat}{out:List Int}{cd:Int}(f:FileAt w gf gv h A E c l P n cp out cd)(x:Nat)(hx:x<n):Calls Tryz.prog 85 #[.pointer (some ⟨gf,0,none⟩),.int .i64 (x:Int)] w (TellRN w.heap.size (recP h l E (out.getD x 0).toNat) (rcode h l E (out.getD x 0).toNat) w):=by
 have k0:=f.blk.cell (i:=0) rfl
 have HA:=yH fun(W:World) (hW:Below w.heap.size w W)=>at_in (f.below hW) x hx
 have b1:=yH ((Below.refl w.heap.size w).alloc (yR _) (.cells zR 74))
 obtain⟨a,ha⟩: ∃a:Nat,out.getD x 0=(a:Int):=by
  have hx2:x<out.length:=by rw[f.len];exact hx
  have e:out.getD x 0=out[x]:=by simp[List.getElem?_eq_getElem hx2]
  have:=f.nn _ (List.getElem_mem hx2)
  exact⟨out[x].toNat,by rw[e];omega⟩
 rw[ha]at HA⊢
 rw[Int.toNat_natCast]
 have HR:=yH fun(W:World) (hW:Below w.heap.size w W)=>recTellN a W (f.view.below hW) f.cm f.e8
 have k0':(w.alloc (.cells zR 74)).cell? ⟨gf,0,none⟩=some (.pointer (some ⟨gv,0,none⟩)):=(b1.out.cell (p:=⟨gf,0,none⟩) f.blk.lt).trans k0
 have Z1:=yH (heap_alloc_new w (.cells zR 74))
 have hs1:(w.alloc (.cells zR 74)).heap.size=w.heap.size+1:=by simp
 unfold TellRN at HR⊢
 clear f k0
 generalize recP h l E a=R at*
 generalize rcode h l E a=cd2 at*
 obtain⟨rs,rr,rm,rK,rn,rpl⟩:=R
 dsimp only at*
 go_enter Tryz.func85,Tryz.ntmps85
 go_wp2_with(first
  |(go_at_call 141;(refine(HA.out _ b1.out).mono ?_);rintro e w1 ⟨rfl,rfl⟩)
  |(go_at_call 142;(refine(HR.out _ b1.out).mono ?_);rintro e w2 ⟨F,c2,rfl,hp,hnw,hb2⟩;have HP:=yH hp;have HN:=yH hnw;have B2:=yH (b1.out.trans (hb2.mono b1.out.size));have Z2:=yH ((hb2.block w.heap.size (by rw[hs1];exact Nat.lt_succ_self _)).trans Z1.out);clear hp hnw hb2)
  |((with_reducible apply at_store (.tmp 4) (.tmp 24));refine wpList_store_row rfl 74 (.tmp 4) (.tmp 24) rfl w.heap.size (recL rs rr rm rK (.slice F rn c2)).toArray rfl rfl 74 zR Z2.out (recInfo _ _ _ _ _) rfl (by simp[Value.oneCell']) ?_)
  |fail)
 refine bodyPost_ret (v:= .tuple #[.agg (recL rs rr rm rK (.slice F rn c2)).toArray,.int .i64 cd2]) (by exact res_row Tryz.results85 _ _ w.heap.size 74 _ (0,0) _ _ rfl rfl (setRow_heap _ _ _ _ _ (0,0) Z2.out) Tryz.underlying74 rfl (recInfo _ _ _ _ _)) rfl ?_
 have B3:=below_setRow B2.out (yR w.heap.size) (recL rs rr rm rK (.slice F rn c2)).toArray
 refine⟨F,c2,rfl,HP.out.keptB (by rw[setRow_size];exact yR _) fun b off e hb=>?_,fun b off e=>by have:=HN.out b off e;omega,B3⟩
 have h1:=HN.out b off e
 exact setRow_other _ _ _ _ (by omega)
end Jc
namespace Jd
open Bytes8 Blk8 Own8 OwnE Rows2 Ga Gb Ma Na Np Nr Ns Nt Rc Rn Rr Va Wa Pr8 Ja Jb Jc
open Go1 (hcode)
open Nh (intE)
open Dc (wpList_append_elt_at)
open Yg (NewIn)
abbrev jC (h:HD)(l:List Int)(E:Nat)(out:List Int)(x:Nat):Int:=rcode h l E (out.getD x 0).toNat
abbrev jR (h:HD)(l:List Int)(E:Nat)(out:List Int)(x:Nat):RecP:=recP h l E (out.getD x 0).toNat
def goodL (h:HD)(l:List Int)(E:Nat)(out:List Int)(n:Nat):List Nat:=(goodR (jC h l E out) (fun x=>(jR h l E out x).s) n).1
abbrev ints (l:List Nat):List Value:=l.map fun(x:Nat)=>Value.int .i64 (x:Int)
theorem ints_snoc (l:List Nat)(k:Nat):ints (l++ [k])=ints l++ [.int .i64 (k:Int)]:=List.map_append
attribute [local irreducible] HD.cells wpList Code.wp
theorem good_any {w:World}{gf gv:Nat}{h:HD}{A:Option Addr}{E c:Nat}{l:List Int}{P:Option Addr}{n cp:Nat}{out:List Int}{cd:Int}(f:FileAt w gf gv h A E c l P n cp out cd):
 Calls Tryz.prog 84 #[.pointer (some ⟨gf,0,none⟩)] w fun e w'=> ∃A1 m c1,e= .returned (.slice A1 m c1)∧OwnE 3 1 w' w.heap.size A1 m c1 (ints (goodL h l E out n))∧(goodL h l E out n).length=m∧Below w.heap.size w w':=by
 have k1:=f.blk.cell (i:=1) rfl
 have hn8:=f.nb
 have HR:=yH fun(x:Nat) (hx:x<n) (W:World) (hW:Below w.heap.size w W)=>rec_in (f.below hW) x hx
 have hsp:=fun k=>goodR_spec (jC h l E out) (fun x=>(jR h l E out x).s) k
 unfold goodL
 have hC: ∀x,jC h l E out x=rcode h l E (out.getD x 0).toNat:=fun _=>rfl
 have hR: ∀x,jR h l E out x=recP h l E (out.getD x 0).toNat:=fun _=>rfl
 simp only[←hC,←hR]at HR
 clear f hC hR
 generalize hS:(fun x=>(jR h l E out x).s)=S at*
 generalize jR h l E out=R at*
 generalize jC h l E out=C at*
 unfold TellRN at HR
 have Hsp:=yH hsp
 clear hsp
 go_enter Tryz.func84,Tryz.ntmps84
 go_upto_region 3 with fail
 go_wp2_with fail
 go_loopw [3,4,13] (fun s g i wr=> ∃(k m:Nat) (A1:Option Addr) (c1:Nat),k≤n∧s= .slice A1 m c1∧g= .int .u64 (goodR C S k).2∧i= .int .i64 (k:Int)∧Hid (OwnE 3 1 wr w.heap.size A1 m c1 (ints (goodR C S k).1))∧Hid ((goodR C S k).1.length=m)∧Hid (Below w.heap.size w wr)) (fun _ _ i _=>n-Rn.natOf i)
 case atStart=>exact⟨0,0,none,0,Nat.zero_le _,rfl,rfl,rfl,yH (OwnE.nil w w.heap.size (yR _)),yH rfl,yH (Below.refl _ _)⟩
 case round=>
  obtain⟨k,m,A1,c1,hk,rfl,rfl,rfl,hO,hL,hB⟩:=hrel
  by_cases hlt:k<n
  ·have dd1:decide ((k:Int)<(n:Int))=true:=by simp;omega
   have hw1:IntKind.i64.wrap ((k:Int)+1)=((k+1:Nat):Int):=by rw[IntKind.wrap_i64];omega
   have HR1:=yH (HR.out k hlt wr hB.out)
   have hm:=(Hsp.out k).2.1
   have hmL:=hL.out
   have hstep:=yH (goodR_yes (C:=C) (S:=S) (k:=k))
   have hskip:=yH (goodR_no (C:=C) (S:=S) (k:=k))
   have hSk:S k=(R k).s:=by rw[←hS]
   rw[hSk]at hstep hskip
   clear HR Hsp hSk
   generalize goodR C S k=q at*
   obtain⟨L,gr⟩:=q
   dsimp only at hO hL hm hmL hstep hskip
   generalize C k=ck at*
   generalize R k=r at*
   obtain⟨rs,rr,rm,rK,rn,rpl⟩:=r
   dsimp only at HR1 hstep hskip
   clear hS
   go_upto_region 7 with(first
    |(go_at_call 85;(refine HR1.out.mono ?_);rintro e w2 ⟨F,c2,rfl,_,_,hb2⟩;have B2:=yH (hB.out.trans (hb2.mono hB.out.size));have O2:=yH (hO.out.kept hb2 (yR _));clear hb2)
    |((with_reducible apply at_store (.tmp 6) (.tmp 20));refine wpList_store_row rfl 74 (.tmp 6) (.tmp 20) rfl w2.heap.size (recL rs rr rm rK (.slice F rn c2)).toArray rfl rfl 74 zR (heap_alloc_new w2 _) (recInfo _ _ _ _ _) rfl (by simp[Value.oneCell']) ?_)
    |fail)
   have R3:=yH (show Blk ((w2.alloc (.cells zR 74)).setRow w2.heap.size (recL rs rr rm rK (.slice F rn c2)).toArray) w2.heap.size (recL rs rr rm rK (.slice F rn c2)) 74 from setRow_heap _ _ _ _ _ (0,0) (heap_alloc_new w2 _))
   have b3:=yH (show Below w2.heap.size w2 ((w2.alloc (.cells zR 74)).setRow w2.heap.size (recL rs rr rm rK (.slice F rn c2)).toArray)from below_setRow ((Below.refl _ _).alloc (yR _) _) (yR _) _)
   have O3:=yH (O2.out.kept b3.out (yR _))
   have hg4:=yH (fun k hk=>(show k<w2.heap.size from(Dc.OwnE.ltB O2.out k hk).2))
   have B3:=yH (B2.out.trans (b3.out.mono B2.out.size))
   clear b3 HR1 hO
   generalize (w2.alloc (.cells zR 74)).setRow w2.heap.size (recL rs rr rm rK (.slice F rn c2)).toArray=w3 at*
   have hgw:=B2.out.size
   clear O2 B2
   generalize w2.heap.size=g2 at*
   have k0:w3.cell? ⟨g2,0,none⟩=some (.int .u64 rs):=R3.out.cell (i:=0) rfl
   by_cases hcd:ck=0
   ·subst hcd
    by_cases hg:gr<rs
    ·have e1:=hstep.out ⟨rfl,hg⟩
     have HE1:=yH e1
     have d1:decide (rs≤gr)=false:=by simp;omega
     have R3a:=yH (R3.out.alloc (.cells #[.int .i64 (k:Int)] 3))
     clear hstep hskip hg e1
     go_upto_region 9 with(first
      |(at_builtin;refine wpList_append_elt_at intE rfl (.tmp 30) (.tmp 32) rfl w.heap.size A1 m c1 (ints L) rfl (OwnE.alloc O3.out _) ⟨w3.heap.size,0,none⟩ 1 1 [.int .i64 (k:Int)] rfl rfl (Blk.news (Blk.new w3 [.int .i64 (k:Int)] 3)) (by intro u hu;simp at hu;subst hu;rfl) (by omega) (by omega) (by unfold maxLen;omega) ?_;intro A6 c6 w6 ho6 hg6 hat6;have O6:=yH ho6;have G6:=yH hg6;clear ho6 hg6 hat6)
      |fail)
     have B6:=yH ((B3.out.alloc B3.out.size (.cells #[.int .i64 (k:Int)] 3)).trans (Own8.below_grown G6.out (by have:=B3.out.size;simp;omega) (fun k hk=>(Dc.OwnE.ltB O3.out k hk).1)))
     have k6:w6.cell? ⟨g2,0,none⟩=some (.int .u64 rs):=(World.cell?_of_block (a:=⟨g2,0,none⟩) (G6.out.block g2 R3a.out.lt (fun e=>by have h2:=hg4.out g2 e.symm;omega))).trans (R3a.out.cell (i:=0) rfl)
     go_wp2_with fail
     go_roundw
     case rel=>exact⟨k+1,m+1,A6,c6,hlt,rfl,by rw[HE1.out],rfl,yH (by rw[HE1.out,ints_snoc];exact O6.out),yH (by rw[HE1.out,List.length_append,List.length_singleton,hmL]),B6⟩
     case measure=>simp[Rn.natOf];omega
    ·have e1:=hskip.out (fun h=>hg h.2)
     have HE1:=yH e1
     have d1:decide (rs≤gr)=true:=by simp;omega
     clear hstep hskip hg e1
     go_wp2_with fail
     go_roundw
     case rel=>exact⟨k+1,m,A1,c1,hlt,rfl,by rw[HE1.out],rfl,yH (by rw[HE1.out];exact O3.out),yH (by rw[HE1.out];exact hmL),B3⟩
     case measure=>simp[Rn.natOf];omega
   ·have e1:=hskip.out (fun h=>hcd h.1)
    have HE1:=yH e1
    have d0:decide (ck=0)=false:=by simpa using hcd
    have d1:(ck !=0)=true:=by simpa using hcd
    clear hstep hskip hcd e1
    go_wp2_with fail
    go_roundw
    case rel=>exact⟨k+1,m,A1,c1,hlt,rfl,by rw[HE1.out],rfl,yH (by rw[HE1.out];exact O3.out),yH (by rw[HE1.out];exact hmL),B3⟩
    case measure=>simp[Rn.natOf];omega
  ·have dd1:decide ((k:Int)<(n:Int))=false:=by simp;omega
   have hkn:k=n:=by omega
   subst hkn
   go_wp2_with fail
   go_ret
   exact⟨A1,m,c1,rfl,hO.out,hL.out,hB.out⟩
end Jd
namespace Je
open Bytes8 Blk8 Own8 OwnA OwnE Rows2 Ga Gb Ma Kf Na Np Nr Ns Nt Nu Rc Rn Rr Va Wa Ls Pr8 Dc Ja Jb Jc Jd
open Go1 (hcode)
open Yg (NewIn)
structure RecsR (w:World)(A:Option Addr)(xs:List Value)(R:List RecP):Prop where
 len:xs.length=R.length*20
 at_: ∀i (h:i<R.length),∃(F:Option Addr) (c:Nat),(xs.drop (20*i)).take 20=recL R[i].s R[i].r R[i].m R[i].K (.slice F R[i].n c)∧Prs w F R[i].pl∧R[i].Ok∧ ∀b off,F=some ⟨b,off,none⟩→0<R[i].n→b<w.heap.size∧ownB A≠some b
theorem RecsR.nil (w:World)(A:Option Addr):RecsR w A [] []:=⟨rfl,fun i h=>absurd h (Nat.not_lt_zero i)⟩
theorem RecsR.step {w w':World}{A A':Option Addr}{xs:List Value}{R:List RecP}(h:RecsR w A xs R){G:Nat→Prop}(hk:KeptF G w w')(hG: ∀b,b<w.heap.size→G b→ownB A=some b)(hA: ∀b,b<w.heap.size→ownB A'=some b→ownB A=some b):RecsR w' A' xs R:=
 ⟨h.len,fun i hi=>by
   obtain⟨F,c,e1,e2,e3,e4⟩:=h.at_ i hi
   refine⟨F,c,e1,?_,e3,fun b off e hn=>?_⟩
   ·rcases Nat.eq_zero_or_pos R[i].n with h0|h0
    ·rw[List.eq_nil_of_length_eq_zero (show R[i].pl.length=0 by rw[e3.len,h0])]
     exact Prs.nil _ _
    ·exact e2.keptB hk.size fun b off e hb=>hk.block b hb fun hg=>(e4 b off e h0).2 (hG b hb hg)
   ·obtain⟨g1,g2⟩:=e4 b off e hn
    exact⟨yL g1 hk.size,fun ha=>g2 (hA b g1 ha)⟩⟩
theorem RecsR.below {w w':World}{A:Option Addr}{xs:List Value}{R:List RecP}(h:RecsR w A xs R)(hb:Below w.heap.size w w'):RecsR w' A xs R:=h.step (KeptF.of_below (F:=fun _=>False) hb) (fun _ _ h=>h.elim) (fun _ _ h=>h)
theorem RecsR.snoc {w:World}{A:Option Addr}{xs:List Value}{R:List RecP}(h:RecsR w A xs R)(r:RecP){F:Option Addr}{c:Nat}(ok:r.Ok)(hp:Prs w F r.pl)(ho: ∀b off,F=some ⟨b,off,none⟩→0<r.n→b<w.heap.size∧ownB A≠some b):RecsR w A (xs++recL r.s r.r r.m r.K (.slice F r.n c)) (R++ [r]):=by
 have h20:(recL r.s r.r r.m r.K (.slice F r.n c)).length=20:=rfl
 have hl0:=h.len
 refine⟨by rw[List.length_append,List.length_append,h20,List.length_singleton,h.len];omega,fun i hi=>?_⟩
 by_cases hlast:i<R.length
 ·obtain⟨F2,c2,e1,e2⟩:=h.at_ i hlast
  rw[List.getElem_append_left hlast]
  refine⟨F2,c2,?_,e2⟩
  rw[List.drop_append_of_le_length (by omega),List.take_append_of_le_length (by rw[List.length_drop];omega)]
  exact e1
 ·have hi3:i=R.length:=by rw[List.length_append,List.length_singleton]at hi;omega
  subst hi3
  refine⟨F,c,?_,?_⟩
  ·rw[List.drop_left' (by omega),List.take_of_length_le (by rw[h20];exact yR _)]
   simp
  ·simpa using⟨hp,ok,ho⟩
def goodRecs (h:HD)(l:List Int)(E:Nat)(out:List Int)(n:Nat):List RecP:=(goodL h l E out n).map fun x=>jR h l E out x
def Gathered (G:List RecP)(w:World)(e:Ending)(w':World):Prop:= ∃A m c xs B,e= .returned (.tuple #[.slice A m c,.bool true])∧G.length=m∧OwnE 74 20 w' B A m c xs∧RecsR w' A xs G∧Below w.heap.size w w'
theorem toN_own {w:World}{b m c:Nat}{A:Option Addr}{L:List Nat}(h:OwnE 3 1 w b A m c (ints L))(hl:L.length=m)(hb: ∀x∈L,x<9223372036854775808)(i:Nat)(hi:i<m): ∃g,A=some ⟨g,0,none⟩∧w.cell? ⟨g,i,none⟩=some (.int .i64 ((L.getD i 0:Nat):Int)):=by
 obtain⟨g,e,_,_,hc⟩:=OwnE.cell h (i:=i) (by rw[List.length_map];omega)
 refine⟨g,e,hc.trans ?_⟩
 rw[List.getElem?_map,List.getElem?_eq_getElem (by omega),List.getD_eq_getElem?_getD,List.getElem?_eq_getElem (by omega)]
 rfl
attribute [local irreducible] HD.cells wpList Code.wp
theorem records_any {w:World}{gf gv:Nat}{h:HD}{A:Option Addr}{E c:Nat}{l:List Int}{P:Option Addr}{n cp:Nat}{out:List Int}{cd:Int}(f:FileAt w gf gv h A E c l P n cp out cd):
 Calls Tryz.prog 33 #[.pointer (some ⟨gf,0,none⟩)] w (Gathered (goodRecs h l E out n) w):=by
 have hn8:=f.nb
 have hAl:=f.view.by_.1
 have HG:=yH (good_any f)
 have HR:=yH fun(x:Nat) (hx:x<n) (W:World) (hW:Below w.heap.size w W)=>rec_in (f.below hW) x hx
 have HOk:=yH fun(x:Nat)=>show(jR h l E out x).Ok from recP_ok h E (out.getD x 0).toNat hAl
 have hsp:=(goodR_spec (jC h l E out) (fun x=>(jR h l E out x).s) n)
 have hgl: ∀x∈goodL h l E out n,x<n∧jC h l E out x=0:=fun x hx=>⟨(hsp.1 x hx).1,(hsp.1 x hx).2.1⟩
 have hgn:(goodL h l E out n).length≤n:=hsp.2.1
 have hC: ∀x,jC h l E out x=rcode h l E (out.getD x 0).toNat:=fun _=>rfl
 have hR: ∀x,jR h l E out x=recP h l E (out.getD x 0).toNat:=fun _=>rfl
 simp only[←hC,←hR]at HR
 unfold goodRecs
 clear f hC hR hsp hAl
 have Hgl:=yH hgl
 generalize goodL h l E out n=L at*
 generalize jR h l E out=R at*
 generalize jC h l E out=C at*
 unfold TellRN at HR
 unfold Gathered
 clear hgl
 go_enter Tryz.func33,Tryz.ntmps33
 go_upto_region 3 with(first
  |(go_at_call 84;(refine HG.out.mono ?_);rintro e w1 ⟨A1,m,c1,rfl,ho1,hl1,hb1⟩;have O1:=yH ho1;have L1:=yH hl1;have B1:=yH hb1;clear ho1 hl1 hb1)
  |fail)
 clear HG
 have hm8:m≤800000:=by have:=L1.out;omega
 have S1:=yH (Below.refl w1.heap.size w1)
 have N1:=yH (OwnE.nil (E:=74) (size:=20) w1 w1.heap.size (yR _))
 have Q1:=yH (RecsR.nil w1 none)
 go_wp2_with fail
 go_loopw [5,6] (fun s i wr=> ∃(k:Nat) (A2:Option Addr) (c2:Nat) (xs:List Value),k≤m∧s= .slice A2 k c2∧i= .int .i64 (k:Int)∧Hid (OwnE 74 20 wr w1.heap.size A2 k c2 xs)∧Hid (RecsR wr A2 xs ((L.take k).map R))∧Hid (Below w1.heap.size w1 wr)) (fun _ i _=>m-Rn.natOf i)
 case atStart=>exact⟨0,none,0,[],Nat.zero_le _,rfl,rfl,N1,Q1,S1⟩
 case round=>
  obtain⟨k,A2,c2,xs,hk,rfl,rfl,hO,hQ,hB⟩:=hrel
  by_cases hlt:k<m
  ·have dd1:decide ((k:Int)<(m:Int))=true:=by simp;omega
   have hki:(k:Int)<(m:Int):=by omega
   have hw1:IntKind.i64.wrap ((k:Int)+1)=((k+1:Nat):Int):=by rw[IntKind.wrap_i64];omega
   have hkl:k<L.length:=by rw[L1.out];exact hlt
   have hxe:L.getD k 0=L[k]:=by simp[List.getElem?_eq_getElem hkl]
   obtain⟨gL,rfl,hcl⟩:=toN_own (O1.out.kept hB.out (yR _)) L1.out (fun x hx=>by have:=(Hgl.out x hx).1;omega) k hlt
   rw[hxe]at hcl
   have hx2:=Hgl.out L[k] (List.getElem_mem hkl)
   have HR1:=yH (HR.out L[k] hx2.1 wr (B1.out.trans (hB.out.mono B1.out.size)))
   rw[hx2.2]at HR1
   have HS:=yH (show(L.take (k+1)).map R=(L.take k).map R++ [R L[k]]by rw[List.take_succ_eq_append_getElem hkl,List.map_append];rfl)
   have HOk1:=yH (HOk.out L[k])
   clear HR HOk hxe hx2
   generalize R L[k]=r at*
   generalize L[k]=x at*
   obtain⟨rs,rr,rm,rK,rn,rpl⟩:=r
   dsimp only at HR1
   go_upto_region 9 with(first
    |(go_at_call 85;(refine HR1.out.mono ?_);rintro e w2 ⟨F,cf,rfl,hp,hnw,hb2⟩;have b2:=yH hb2;have HP:=yH hp;have HN:=yH hnw;clear hp hnw hb2)
    |((with_reducible apply at_store (.tmp 7) (.tmp 24));refine wpList_store_row rfl 74 (.tmp 7) (.tmp 24) rfl w2.heap.size (recL rs rr rm rK (.slice F rn cf)).toArray rfl rfl 74 zR (heap_alloc_new w2 _) (recInfo _ _ _ _ _) rfl (by simp[Value.oneCell']) ?_)
    |fail)
   have R3:=yH (show Blk ((w2.alloc (.cells zR 74)).setRow w2.heap.size (recL rs rr rm rK (.slice F rn cf)).toArray) w2.heap.size (recL rs rr rm rK (.slice F rn cf)) 74 from setRow_heap _ _ _ _ _ (0,0) (heap_alloc_new w2 _))
   have b3:=yH (show Below w2.heap.size w2 ((w2.alloc (.cells zR 74)).setRow w2.heap.size (recL rs rr rm rK (.slice F rn cf)).toArray)from below_setRow ((Below.refl _ _).alloc (yR _) _) (yR _) _)
   have HP3:=yH (HP.out.below b3.out)
   have hlA:=yH (fun b (hb:ownB A2=some b)=>(Dc.OwnE.ltB hO.out b hb).2)
   have HF3:=yH (show ∀b off,F=some ⟨b,off,none⟩→0<rn→b<w2.heap.size∧ownB A2≠some b from fun b off e hn=>by
    refine⟨?_,fun ha=>?_⟩
    ·have hl:=HOk1.out.len
     obtain⟨b2,off2,e2,hb2,_⟩:=HP.out.2 0 (by dsimp only at hl;omega)
     rw[e]at e2
     injection e2 with e2
     injection e2 with e2
     subst e2
     exact hb2
    ·have:=HN.out b off e
     have:=hlA.out b ha
     omega)
   generalize (w2.alloc (.cells zR 74)).setRow w2.heap.size (recL rs rr rm rK (.slice F rn cf)).toArray=w3 at*
   have b13:=yH (b2.out.trans (b3.out.mono b2.out.size))
   have B3:=yH (hB.out.trans (b13.out.mono hB.out.size))
   have O3:=yH (hO.out.kept b13.out (yR _))
   have Q3:=yH (((hQ.out.below b13.out).snoc ⟨rs,rr,rm,rK,rn,rpl⟩ (c:=cf) HOk1.out HP3.out (fun b off e hn=>⟨yL (HF3.out b off e hn).1 b3.out.size,(HF3.out b off e hn).2⟩)))
   dsimp only at Q3
   have HO3:=yH (OwnE.alloc O3.out (.cells (recL rs rr rm rK (.slice F rn cf)).toArray 74))
   have HOn:=yH (Nu.recL_one rs rr rm rK F rn cf)
   have b3a:=yH ((Below.refl w3.heap.size w3).alloc (yR _) (.cells (recL rs rr rm rK (.slice F rn cf)).toArray 74))
   clear HR1 b2 b3 HP HP3 HN HF3 hO hQ
   generalize w2.heap.size=g2 at*
   go_wp2_with(first
    |((with_reducible apply at_slot 29);refine wpList_load_row rfl 74 (.tmp 7) rfl g2 rfl 74 (recL rs rr rm rK (.slice F rn cf)).toArray (0,0) _ R3.out Tryz.underlying74 rfl (recInfo _ _ _ _ _) ?_)
    |(at_builtin;refine wpList_append_new recElt rfl (.tmp 28) (.tmp 30) rfl w1.heap.size A2 k c2 xs rfl HO3.out ⟨w3.heap.size,0,none⟩ 1 1 (recL rs rr rm rK (.slice F rn cf)) rfl rfl (Blk.news (Blk.new w3 _ _)) HOn.out (by omega) (by omega) (by unfold maxLen;omega) ?_;intro A6 c6 w6 ho6 hg6 hat6;have O6:=yH ho6;have G6:=yH hg6;have T6:=yH hat6;clear ho6 hg6 hat6)
    |fail)
   have Q6:=yH ((Q3.out.below b3a.out).step (KeptF.grow _ G6.out) (fun b _ h=>h) (A':=A6) (fun b hb h=>by
    rcases T6.out with h1|⟨h1,_⟩
    ·rw[←h1];exact h
    ·rw[h1]at h
     injection h with h
     simp only[World.alloc,Array.size_push]at h hb
     omega))
   have B6:=yH ((B3.out.trans (b3a.out.mono B3.out.size)).trans (Own8.below_grown G6.out (by have:=HO3.out.1;omega) (fun b hb=>(Dc.OwnE.ltB HO3.out b hb).1)))
   go_roundw
   case rel=>exact⟨k+1,A6,c6,_,hlt,rfl,rfl,O6,by rw[HS.out];exact Q6,B6⟩
   case measure=>simp[Rn.natOf];omega
  ·have dd1:decide ((k:Int)<(m:Int))=false:=by simp;omega
   have hkm:k=m:=by omega
   subst hkm
   go_wp2_with fail
   go_ret2
   exact⟨A2,k,c2,xs,w1.heap.size,rfl,by rw[List.length_map];exact L1.out,hO.out,by have q:=hQ.out;rw[List.take_of_length_le (by rw[L1.out];exact yR _)]at q;exact q,B1.out.trans (hB.out.mono B1.out.size)⟩
end Je
namespace Zh
open Bytes8 Ob Ga Ma Za Zb Zd Wa
open Rg (arcode)
theorem u8_body {o:O}(hk:o.Ok)(i a:Nat)(hi:i<o.ws.length)(ha:a=8*i):u8 o.body a=o.ws.getD i 0:=by rw[ha];exact body_w hk i hi
abbrev toI (l:List Nat):List Int:=l.map fun(x:Nat)=>(x:Int)
theorem lastI_take {its:List Nat}(hasc:its.Pairwise (· < ·))(hpos: ∀x∈its,0<x)(j:Nat)(hj:j<its.length):lastI (toI (its.take j))<(its[j]:Int):=by
 rcases Nat.eq_zero_or_pos j with h0|h0
 ·subst h0
  have:=hpos its[0] (List.getElem_mem _)
  simp[lastI]
  omega
 ·obtain⟨q,rfl⟩: ∃q,j=q+1:=⟨j-1,by omega⟩
  have h1:toI (its.take (q+1))=toI (its.take q)++ [(its[q]:Int)]:=by
   show(its.take (q+1)).map (fun(x:Nat)=>(x:Int))=(its.take q).map (fun(x:Nat)=>(x:Int))++ [(its[q]:Int)]
   rw[List.take_succ_eq_append_getElem (by omega),List.map_append]
   rfl
  rw[h1,lastI_snoc]
  have:=List.pairwise_iff_getElem.1 hasc q (q+1) (by omega) hj (by omega)
  omega
theorem toI_step (its:List Nat)(j:Nat)(hj:j<its.length):toI (its.take j)++ [(its[j]:Int)]=toI (its.take (j+1)):=by
 show(its.take j).map (fun(x:Nat)=>(x:Int))++ [(its[j]:Int)]=(its.take (j+1)).map (fun(x:Nat)=>(x:Int))
 rw[List.take_succ_eq_append_getElem hj,List.map_append]
 rfl
theorem toI_len (its:List Nat)(j:Nat)(hj:j≤its.length):((toI (its.take j)).length:Int)=(j:Int):=by
 rw[List.length_map,List.length_take];omega
variable {h : HD} {l hd : List Int} {os : List O} {t : Nat} {arr its : List Nat}
end Zh
namespace Zi
open Go1 (hcode magicB)
end Zi
end Go.Proofs.YtiddkgcafpaekaaGreat
