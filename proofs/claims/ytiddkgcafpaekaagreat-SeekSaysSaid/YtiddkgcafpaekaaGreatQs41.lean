/-
  Texts beneath the proof.
-/
import Derived.Test.YtiddkgcafpaekaaGreatQs40
set_option linter.unusedVariables false
set_option linter.unusedSimpArgs false
set_option maxRecDepth 100000
set_option maxHeartbeats 8000000
open Go.ChangeShapes Go.WideShapes Go.ChangeAt Go.RowKit
namespace Go.Proofs.YtiddkgcafpaekaaGreat
namespace Jb
open Bytes8 Blk8 Own8 OwnE Rows2 Ga Gb Gf Gj Ma Na Np Ns Nt Nu Rc Rn Rp Rr Va Wa Ls Pr8
open Go1 (hcode)
open Yz (OwnE.farE)
structure FileAt (w:World)(gf gv:Nat)(h:HD)(A:Option Addr)(E c:Nat)(l:List Int)(P:Option Addr)(n cp:Nat)(out:List Int)(cd:Int):Prop where
 blk:Blk w gf [.pointer (some ⟨gv,0,none⟩),.slice P n cp,.int .i64 cd] 174
 view:ViewAt w gv h A E c l
 cm:c≤maxLen
 e8:E≤800000
 ints:InInts .u64 w P n (fun i=>out.getD i 0)
 len:out.length=n
 nn: ∀y∈out,0≤y∧y≤18446744073709551615
 nb:n≤800000
theorem FileAt.below {w w':World}{gf gv:Nat}{h:HD}{A:Option Addr}{E c:Nat}{l:List Int}{P:Option Addr}{n cp:Nat}{out:List Int}{cd:Int}(f:FileAt w gf gv h A E c l P n cp out cd)(hb:Below w.heap.size w w'):FileAt w' gf gv h A E c l P n cp out cd:=
 ⟨f.blk.below hb f.blk.lt,f.view.below hb,f.cm,f.e8,f.ints.below hb,f.len,f.nn,f.nb⟩
def JOpened (l:List Int)(E:Nat)(w:World)(e:Ending)(w':World):Prop:= ∃(gf gv:Nat) (A2:Option Addr) (c2:Nat) (P:Option Addr) (k cp:Nat),e= .returned (.tuple #[.pointer (some ⟨gf,0,none⟩),.int .i64 0])∧FileAt w' gf gv (hdOf l) A2 E c2 (l.take E) P k cp (chase (hdOf l) (l.take E) E ((hdOf l).N 8) 14 2 (E+1) [] ((hdOf l).N 11).toNat 0).1 (chase (hdOf l) (l.take E) E ((hdOf l).N 8) 14 2 (E+1) [] ((hdOf l).N 11).toNat 0).2∧Below w.heap.size w w'
attribute [local irreducible] HD.cells wpList Code.wp
theorem jopen_fine (l:List Int)(A:Option Addr)(n c:Nat)(w:World)(hb:Bytes w A l)(hL:l.length=n)(hn:n≤800000)(hc:n≤c)(hz:hcode l n=0)(E:Nat)(hE:endV (hdOf l)=(E:Int))(hEB:endB (hdOf l)=true)(hEn:E≤n)(hok:(hdOf l).Ok 21):
 Calls Tryz.prog 30 #[.slice A n c] w (JOpened l E w):=by
 have HOp:=yH (open_fine l A n c w hb hL hn hc hz E hE hEB hEn hok)
 unfold Opened at HOp
 have hAll:=hb.1
 have hlE:(l.take E).length≤800000:=by rw[List.length_take];omega
 have HAl:=yH (hAll.take E)
 have HF:=yH (chase_fit (h:=hdOf l) (hAll.take E) (E:=E) (n:=(hdOf l).N 8) (na:=14) (ni:=2) (E+1) [] ((hdOf l).N 11).toNat 0 (fit_nil E))
 have hE8:E≤800000:=by omega
 have HOk:=yH hok
 unfold JOpened
 clear hb hz hE hEB
 generalize hdOf l=H at*
 generalize l.take E=lE at*
 have HEn:=yH fun(W:World) (gv:Nat) (A2:Option Addr) (c2:Nat) (v:ViewAt W gv H A2 E c2 lE) (hcm:c2≤maxLen)=>Wl.entries_any W v hcm hE8 hlE HAl.out HOk.out
 unfold TellL at HEn
 generalize chase H lE E (H.N 8) 14 2 (E+1) [] (H.N 11).toNat 0=R at*
 obtain⟨out,cd⟩:=R
 dsimp only at*
 go_enter Tryz.func30,Tryz.ntmps30
 go_upto_region 5 with(first
  |(go_at_call 24;((refine HOp.out.mono ?_);rintro e w1 ⟨gv,A2,c2,rfl,_,hv,hc2,hb1⟩;have HV:=yH hv;have B1:=yH hb1;have HC2:=yH hc2;clear hv hb1 hc2))
  |fail)
 have R2:=yH (Blk.new w1 [.pointer (some ⟨gv,0,none⟩),.slice none 0 0,.int .i64 0] 174)
 have b2:=yH ((Below.refl w1.heap.size w1).alloc (yR _) (.cells #[.pointer (some ⟨gv,0,none⟩),.slice none 0 0,.int .i64 0] 174))
 have hs2:(w1.alloc (.cells #[.pointer (some ⟨gv,0,none⟩),.slice none 0 0,.int .i64 0] 174)).heap.size=w1.heap.size+1:=by simp
 have HV2:=yH (HV.out.below b2.out)
 have HE2:=yH (HEn.out _ gv A2 c2 HV2.out HC2.out)
 have hs1:=B1.out.size
 clear HOp HEn
 generalize (w1.alloc (.cells #[.pointer (some ⟨gv,0,none⟩),.slice none 0 0,.int .i64 0] 174))=w2 at*
 have B2:=yH (B1.out.trans (b2.out.mono B1.out.size))
 obtain⟨g1,hg1⟩: ∃g,w1.heap.size=g:=⟨_,rfl⟩
 rw[hg1]at R2 hs2 b2 hs1
 clear B1
 go_upto_region 6 with(first
  |(go_at_call 83;((refine HE2.out.mono ?_);rintro e w3 ⟨hb3,P,k,cp,rfl,ho3,hl3⟩;have B3:=yH hb3;have O3:=yH ho3;have L3:=yH hl3;have R3:=R2.out.below hb3 R2.out.lt;have k1:=R3.cell (i:=1) rfl;have k2:=R3.cell (i:=2) rfl;have z1:=R3.frozen 1;have z2:=R3.frozen 2;clear hb3 ho3 hl3))
  |fail)
 have BF:=yH (((b2.out.trans (B3.out.mono (by omega))).setCell (p:=⟨g1,1,none⟩) (yR _) (.slice P k cp)).setCell (p:=⟨g1,2,none⟩) (yR _) (.int .i64 cd))
 have BB:=yH (((B2.out.trans (B3.out.mono B2.out.size)).setCell (p:=⟨g1,1,none⟩) hs1 (.slice P k cp)).setCell (p:=⟨g1,2,none⟩) hs1 (.int .i64 cd))
 have RF:=yH ((R3.set_ 1 (.slice P k cp)).set_ 2 (.int .i64 cd))
 have OF:=yH (OwnE.farE (OwnE.farE O3.out (a:=⟨g1,1,none⟩) (by show g1<_;omega) (.slice P k cp)) (a:=⟨g1,2,none⟩) (by show g1<_;omega) (.int .i64 cd))
 have L5:=L3.out
 have F5:=HF.out
 have HVF:=yH (HV.out.below (by rw[hg1];exact BF.out))
 clear k1 k2 z1 z2 R3
 go_wp2
 go_ret2
 refine⟨g1,gv,A2,c2,P,k,cp,rfl,⟨RF.out,HVF.out,HC2.out,hE8,tell_ints OF.out L5 F5.2,L5,F5.2,?_⟩,BB.out⟩
 have h6:=F5.1
 unfold Up at h6
 omega
theorem at_in {w:World}{gf gv:Nat}{h:HD}{A:Option Addr}{E c:Nat}{l:List Int}{P:Option Addr}{n cp:Nat}{out:List Int}{cd:Int}(f:FileAt w gf gv h A E c l P n cp out cd)(x:Nat)(hx:x<n):Calls Tryz.prog 141 #[.pointer (some ⟨gf,0,none⟩),.int .i64 (x:Int)] w fun e w'=>e= .returned (.tuple #[.int .u64 (out.getD x 0),.int .i64 0])∧w=w':=by
 have k1:=f.blk.cell (i:=1) rfl
 have d1:decide ((x:Int)<0)=false:=by simp
 have d2:decide ((n:Int)≤(x:Int))=false:=by simp;omega
 obtain⟨b,off,rfl,_,hc,_⟩:=f.ints x hx
 dsimp only at hc
 generalize out.getD x 0=y at*
 clear f
 go_enter Tryz.func141,Tryz.ntmps141
 go_wp2
 go_ret2
 exact⟨rfl,rfl⟩
end Jb
namespace Jc
open Bytes8 Blk8 Own8 OwnE Rows2 Ga Gb Ma Na Np Nr Ns Nt Rc Rn Rr Va Wa Pr8 Jb Ro
open Go1 (hcode)
open Nh (intE)
open Dc (wpList_append_elt_at)
open Yg (NewIn)
open Yg (res_row)
def TellRN (B:Nat)(p:RecP)(cd:Int)(w:World)(e:Ending)(w':World):Prop:= ∃F c,e= .returned (.tuple #[p.v F c,.int .i64 cd])∧Prs w' F p.pl∧NewIn B F∧Below w.heap.size w w'
theorem recTellN {gv:Nat}{h:HD}{A:Option Addr}{n c:Nat}{l:List Int}(a:Nat)(w:World)(v:ViewAt w gv h A n c l)(hcm:c≤maxLen)(h8:n≤800000):
 Calls Tryz.prog 142 #[.pointer (some ⟨gv,0,none⟩),.int .u64 (a:Int)] w (TellRN w.heap.size (recP h l n a) (rcode h l n a) w):=by
 refine(recAsk a w v hcm h8).mono ?_
 rintro e w' ⟨hb,⟨hz,rfl⟩|⟨hz,F,c2,rfl,hp,hn⟩⟩
 ·unfold TellRN recP
  rw[if_neg hz]
  exact⟨none,0,rfl,Prs.nil _ _,none_new _,hb⟩
 ·unfold TellRN recP
  rw[if_pos hz,hz]
  exact⟨F,c2,rfl,hp,hn,hb⟩
attribute [local irreducible] HD.cells wpList Code.wp
theorem rec_in {w:World}{gf gv:Nat}{h:HD}{A:Option Addr}{E c:Nat}{l:List Int}{P:Option Addr}{n cp:Nat}{out:List Int}{cd:Int}(f:FileAt w gf gv h A E c l P n cp out cd)(x:Nat)(hx:x<n):Calls Tryz.prog 85 #[.pointer (some ⟨gf,0,none⟩),.int .i64 (x:Int)] w (TellRN w.heap.size (recP h l E (out.getD x 0).toNat) (rcode h l E (out.getD x 0).toNat) w):=by
 have k0:=f.blk.cell (i:=0) rfl
 have HA:=yH fun(W:World) (hW:Below w.heap.size w W)=>at_in (f.below hW) x hx
 have b1:=yH ((Below.refl w.heap.size w).alloc (yR _) (.cells zR 74))
 obtain⟨a,ha⟩: ∃a:Nat,out.getD x 0=(a:Int):=by
  have hx2:x<out.length:=by rw[f.len];exact hx
  have e:out.getD x 0=out[x]:=by simp[List.getElem?_eq_getElem hx2]
  have:=f.nn _ (List.getElem_mem hx2)
  exact⟨out[x].toNat,by rw[e];omega⟩
 rw[ha]at HA⊢
 rw[Int.toNat_natCast]
 have HR:=yH fun(W:World) (hW:Below w.heap.size w W)=>recTellN a W (f.view.below hW) f.cm f.e8
 have k0':(w.alloc (.cells zR 74)).cell? ⟨gf,0,none⟩=some (.pointer (some ⟨gv,0,none⟩)):=(b1.out.cell (p:=⟨gf,0,none⟩) f.blk.lt).trans k0
 have Z1:=yH (heap_alloc_new w (.cells zR 74))
 have hs1:(w.alloc (.cells zR 74)).heap.size=w.heap.size+1:=by simp
 unfold TellRN at HR⊢
 clear f k0
 generalize recP h l E a=R at*
 generalize rcode h l E a=cd2 at*
 obtain⟨rs,rr,rm,rK,rn,rpl⟩:=R
 dsimp only at*
 go_enter Tryz.func85,Tryz.ntmps85
 go_wp2_with(first
  |(go_at_call 141;(refine(HA.out _ b1.out).mono ?_);rintro e w1 ⟨rfl,rfl⟩)
  |(go_at_call 142;(refine(HR.out _ b1.out).mono ?_);rintro e w2 ⟨F,c2,rfl,hp,hnw,hb2⟩;have HP:=yH hp;have HN:=yH hnw;have B2:=yH (b1.out.trans (hb2.mono b1.out.size));have Z2:=yH ((hb2.block w.heap.size (by rw[hs1];exact Nat.lt_succ_self _)).trans Z1.out);clear hp hnw hb2)
  |((with_reducible apply at_store (.tmp 4) (.tmp 24));refine wpList_store_row rfl 74 (.tmp 4) (.tmp 24) rfl w.heap.size (recL rs rr rm rK (.slice F rn c2)).toArray rfl rfl 74 zR Z2.out (recInfo _ _ _ _ _) rfl (by simp[Value.oneCell']) ?_)
  |fail)
 refine bodyPost_ret (v:= .tuple #[.agg (recL rs rr rm rK (.slice F rn c2)).toArray,.int .i64 cd2]) (by exact res_row Tryz.results85 _ _ w.heap.size 74 _ (0,0) _ _ rfl rfl (setRow_heap _ _ _ _ _ (0,0) Z2.out) Tryz.underlying74 rfl (recInfo _ _ _ _ _)) rfl ?_
 have B3:=below_setRow B2.out (yR w.heap.size) (recL rs rr rm rK (.slice F rn c2)).toArray
 refine⟨F,c2,rfl,HP.out.keptB (by rw[setRow_size];exact yR _) fun b off e hb=>?_,fun b off e=>by have:=HN.out b off e;omega,B3⟩
 have h1:=HN.out b off e
 exact setRow_other _ _ _ _ (by omega)
end Jc
namespace Jd
open Bytes8 Blk8 Own8 OwnE Rows2 Ga Gb Ma Na Np Nr Ns Nt Rc Rn Rr Va Wa Pr8 Ja Jb Jc
open Go1 (hcode)
open Nh (intE)
open Dc (wpList_append_elt_at)
open Yg (NewIn)
abbrev jC (h:HD)(l:List Int)(E:Nat)(out:List Int)(x:Nat):Int:=rcode h l E (out.getD x 0).toNat
abbrev jR (h:HD)(l:List Int)(E:Nat)(out:List Int)(x:Nat):RecP:=recP h l E (out.getD x 0).toNat
def goodL (h:HD)(l:List Int)(E:Nat)(out:List Int)(n:Nat):List Nat:=(goodR (jC h l E out) (fun x=>(jR h l E out x).s) n).1
abbrev ints (l:List Nat):List Value:=l.map fun(x:Nat)=>Value.int .i64 (x:Int)
theorem ints_snoc (l:List Nat)(k:Nat):ints (l++ [k])=ints l++ [.int .i64 (k:Int)]:=List.map_append
attribute [local irreducible] HD.cells wpList Code.wp
theorem good_any {w:World}{gf gv:Nat}{h:HD}{A:Option Addr}{E c:Nat}{l:List Int}{P:Option Addr}{n cp:Nat}{out:List Int}{cd:Int}(f:FileAt w gf gv h A E c l P n cp out cd):
 Calls Tryz.prog 84 #[.pointer (some ⟨gf,0,none⟩)] w fun e w'=> ∃A1 m c1,e= .returned (.slice A1 m c1)∧OwnE 3 1 w' w.heap.size A1 m c1 (ints (goodL h l E out n))∧(goodL h l E out n).length=m∧Below w.heap.size w w':=by
 have k1:=f.blk.cell (i:=1) rfl
 have hn8:=f.nb
 have HR:=yH fun(x:Nat) (hx:x<n) (W:World) (hW:Below w.heap.size w W)=>rec_in (f.below hW) x hx
 have hsp:=fun k=>goodR_spec (jC h l E out) (fun x=>(jR h l E out x).s) k
 unfold goodL
 have hC: ∀x,jC h l E out x=rcode h l E (out.getD x 0).toNat:=fun _=>rfl
 have hR: ∀x,jR h l E out x=recP h l E (out.getD x 0).toNat:=fun _=>rfl
 simp only[←hC,←hR]at HR
 clear f hC hR
 generalize hS:(fun x=>(jR h l E out x).s)=S at*
 generalize jR h l E out=R at*
 generalize jC h l E out=C at*
 unfold TellRN at HR
 have Hsp:=yH hsp
 clear hsp
 go_enter Tryz.func84,Tryz.ntmps84
 go_upto_region 3 with fail
 go_wp2_with fail
 go_loopw [3,4,13] (fun s g i wr=> ∃(k m:Nat) (A1:Option Addr) (c1:Nat),k≤n∧s= .slice A1 m c1∧g= .int .u64 (goodR C S k).2∧i= .int .i64 (k:Int)∧Hid (OwnE 3 1 wr w.heap.size A1 m c1 (ints (goodR C S k).1))∧Hid ((goodR C S k).1.length=m)∧Hid (Below w.heap.size w wr)) (fun _ _ i _=>n-Rn.natOf i)
 case atStart=>exact⟨0,0,none,0,Nat.zero_le _,rfl,rfl,rfl,yH (OwnE.nil w w.heap.size (yR _)),yH rfl,yH (Below.refl _ _)⟩
 case round=>
  obtain⟨k,m,A1,c1,hk,rfl,rfl,rfl,hO,hL,hB⟩:=hrel
  by_cases hlt:k<n
  ·have dd1:decide ((k:Int)<(n:Int))=true:=by simp;omega
   have hw1:IntKind.i64.wrap ((k:Int)+1)=((k+1:Nat):Int):=by rw[IntKind.wrap_i64];omega
   have HR1:=yH (HR.out k hlt wr hB.out)
   have hm:=(Hsp.out k).2.1
   have hmL:=hL.out
   have hstep:=yH (goodR_yes (C:=C) (S:=S) (k:=k))
   have hskip:=yH (goodR_no (C:=C) (S:=S) (k:=k))
   have hSk:S k=(R k).s:=by rw[←hS]
   rw[hSk]at hstep hskip
   clear HR Hsp hSk
   generalize goodR C S k=q at*
   obtain⟨L,gr⟩:=q
   dsimp only at hO hL hm hmL hstep hskip
   generalize C k=ck at*
   generalize R k=r at*
   obtain⟨rs,rr,rm,rK,rn,rpl⟩:=r
   dsimp only at HR1 hstep hskip
   clear hS
   go_upto_region 7 with(first
    |(go_at_call 85;(refine HR1.out.mono ?_);rintro e w2 ⟨F,c2,rfl,_,_,hb2⟩;have B2:=yH (hB.out.trans (hb2.mono hB.out.size));have O2:=yH (hO.out.kept hb2 (yR _));clear hb2)
    |((with_reducible apply at_store (.tmp 6) (.tmp 20));refine wpList_store_row rfl 74 (.tmp 6) (.tmp 20) rfl w2.heap.size (recL rs rr rm rK (.slice F rn c2)).toArray rfl rfl 74 zR (heap_alloc_new w2 _) (recInfo _ _ _ _ _) rfl (by simp[Value.oneCell']) ?_)
    |fail)
   have R3:=yH (show Blk ((w2.alloc (.cells zR 74)).setRow w2.heap.size (recL rs rr rm rK (.slice F rn c2)).toArray) w2.heap.size (recL rs rr rm rK (.slice F rn c2)) 74 from setRow_heap _ _ _ _ _ (0,0) (heap_alloc_new w2 _))
   have b3:=yH (show Below w2.heap.size w2 ((w2.alloc (.cells zR 74)).setRow w2.heap.size (recL rs rr rm rK (.slice F rn c2)).toArray)from below_setRow ((Below.refl _ _).alloc (yR _) _) (yR _) _)
   have O3:=yH (O2.out.kept b3.out (yR _))
   have hg4:=yH (fun k hk=>(show k<w2.heap.size from(Dc.OwnE.ltB O2.out k hk).2))
   have B3:=yH (B2.out.trans (b3.out.mono B2.out.size))
   clear b3 HR1 hO
   generalize (w2.alloc (.cells zR 74)).setRow w2.heap.size (recL rs rr rm rK (.slice F rn c2)).toArray=w3 at*
   have hgw:=B2.out.size
   clear O2 B2
   generalize w2.heap.size=g2 at*
   have k0:w3.cell? ⟨g2,0,none⟩=some (.int .u64 rs):=R3.out.cell (i:=0) rfl
   by_cases hcd:ck=0
   ·subst hcd
    by_cases hg:gr<rs
    ·have e1:=hstep.out ⟨rfl,hg⟩
     have HE1:=yH e1
     have d1:decide (rs≤gr)=false:=by simp;omega
     have R3a:=yH (R3.out.alloc (.cells #[.int .i64 (k:Int)] 3))
     clear hstep hskip hg e1
     go_upto_region 9 with(first
      |(at_builtin;refine wpList_append_elt_at intE rfl (.tmp 30) (.tmp 32) rfl w.heap.size A1 m c1 (ints L) rfl (OwnE.alloc O3.out _) ⟨w3.heap.size,0,none⟩ 1 1 [.int .i64 (k:Int)] rfl rfl (Blk.news (Blk.new w3 [.int .i64 (k:Int)] 3)) (by intro u hu;simp at hu;subst hu;rfl) (by omega) (by omega) (by unfold maxLen;omega) ?_;intro A6 c6 w6 ho6 hg6 hat6;have O6:=yH ho6;have G6:=yH hg6;clear ho6 hg6 hat6)
      |fail)
     have B6:=yH ((B3.out.alloc B3.out.size (.cells #[.int .i64 (k:Int)] 3)).trans (Own8.below_grown G6.out (by have:=B3.out.size;simp;omega) (fun k hk=>(Dc.OwnE.ltB O3.out k hk).1)))
     have k6:w6.cell? ⟨g2,0,none⟩=some (.int .u64 rs):=(World.cell?_of_block (a:=⟨g2,0,none⟩) (G6.out.block g2 R3a.out.lt (fun e=>by have h2:=hg4.out g2 e.symm;omega))).trans (R3a.out.cell (i:=0) rfl)
     go_wp2_with fail
     go_roundw
     case rel=>exact⟨k+1,m+1,A6,c6,hlt,rfl,by rw[HE1.out],rfl,yH (by rw[HE1.out,ints_snoc];exact O6.out),yH (by rw[HE1.out,List.length_append,List.length_singleton,hmL]),B6⟩
     case measure=>simp[Rn.natOf];omega
    ·have e1:=hskip.out (fun h=>hg h.2)
     have HE1:=yH e1
     have d1:decide (rs≤gr)=true:=by simp;omega
     clear hstep hskip hg e1
     go_wp2_with fail
     go_roundw
     case rel=>exact⟨k+1,m,A1,c1,hlt,rfl,by rw[HE1.out],rfl,yH (by rw[HE1.out];exact O3.out),yH (by rw[HE1.out];exact hmL),B3⟩
     case measure=>simp[Rn.natOf];omega
   ·have e1:=hskip.out (fun h=>hcd h.1)
    have HE1:=yH e1
    have d0:decide (ck=0)=false:=by simpa using hcd
    have d1:(ck !=0)=true:=by simpa using hcd
    clear hstep hskip hcd e1
    go_wp2_with fail
    go_roundw
    case rel=>exact⟨k+1,m,A1,c1,hlt,rfl,by rw[HE1.out],rfl,yH (by rw[HE1.out];exact O3.out),yH (by rw[HE1.out];exact hmL),B3⟩
    case measure=>simp[Rn.natOf];omega
  ·have dd1:decide ((k:Int)<(n:Int))=false:=by simp;omega
   have hkn:k=n:=by omega
   subst hkn
   go_wp2_with fail
   go_ret
   exact⟨A1,m,c1,rfl,hO.out,hL.out,hB.out⟩
end Jd
namespace Je
open Bytes8 Blk8 OwnE Ga Gb Ma Kf Np Rn Rr Dc Jb Jd
open Go1 (hcode)
open Yg (NewIn)
theorem toN_own {w:World}{b m c:Nat}{A:Option Addr}{L:List Nat}(h:OwnE 3 1 w b A m c (ints L))(hl:L.length=m)(hb: ∀x∈L,x<9223372036854775808)(i:Nat)(hi:i<m): ∃g,A=some ⟨g,0,none⟩∧w.cell? ⟨g,i,none⟩=some (.int .i64 ((L.getD i 0:Nat):Int)):=by
 obtain⟨g,e,_,_,hc⟩:=OwnE.cell h (i:=i) (by rw[List.length_map];omega)
 refine⟨g,e,hc.trans ?_⟩
 rw[List.getElem?_map,List.getElem?_eq_getElem (by omega),List.getD_eq_getElem?_getD,List.getElem?_eq_getElem (by omega)]
 rfl
attribute [local irreducible] HD.cells wpList Code.wp
end Je
namespace Zh
end Zh
namespace Zi
open Go1 (hcode magicB)
end Zi
end Go.Proofs.YtiddkgcafpaekaaGreat
