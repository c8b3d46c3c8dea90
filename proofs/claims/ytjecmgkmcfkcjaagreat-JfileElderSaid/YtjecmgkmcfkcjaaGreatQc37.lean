/-
  Texts beneath the proof.
-/
import Derived.Test.YtjecmgkmcfkcjaaGreatQc36
set_option linter.unusedVariables false
set_option linter.unusedSimpArgs false
set_option maxRecDepth 100000
set_option maxHeartbeats 8000000
open Go.ChangeShapes Go.WideShapes Go.ChangeAt Go.RowKit
namespace Go.Proofs.YtjecmgkmcfkcjaaGreat
namespace Jb
open Bytes8 Blk8 Own8 OwnE Rows2 Ga Gb Gf Gj Ma Na Np Ns Nt Nu Rc Rn Rp Rr Wa Ls Pr8
open Go1 (hcode)
open Yz (OwnE.farE)
structure FileAt (w:World)(gf gv:Nat)(h:HD)(A:Option Addr)(E c:Nat)(l:List Int)(P:Option Addr)(n cp:Nat)(out:List Int)(cd:Int):Prop where
 blk:Blk w gf [.pointer (some ⟨gv,0,none⟩),.slice P n cp,.int .i64 cd] 186
 view:ViewAt w gv h A E c l
 cm:c≤maxLen
 e8:E≤800000
 ints:InInts .u64 w P n (fun i=>out.getD i 0)
 len:out.length=n
 nn: ∀y∈out,0≤y∧y≤18446744073709551615
 nb:n≤800000
theorem FileAt.below {w w':World}{gf gv:Nat}{h:HD}{A:Option Addr}{E c:Nat}{l:List Int}{P:Option Addr}{n cp:Nat}{out:List Int}{cd:Int}(f:FileAt w gf gv h A E c l P n cp out cd)(hb:Below w.heap.size w w'):FileAt w' gf gv h A E c l P n cp out cd:=
 ⟨f.blk.below hb f.blk.lt,f.view.below hb,f.cm,f.e8,f.ints.below hb,f.len,f.nn,f.nb⟩
def JOpened (l:List Int)(E:Nat)(w:World)(e:Ending)(w':World):Prop:= ∃(gf gv:Nat) (A2:Option Addr) (c2:Nat) (P:Option Addr) (k cp:Nat),e= .returned (.tuple #[.pointer (some ⟨gf,0,none⟩),.int .i64 0])∧FileAt w' gf gv (hdOf l) A2 E c2 (l.take E) P k cp (chase (hdOf l) (l.take E) E ((hdOf l).N 8) 14 2 (E+1) [] ((hdOf l).N 11).toNat 0).1 (chase (hdOf l) (l.take E) E ((hdOf l).N 8) 14 2 (E+1) [] ((hdOf l).N 11).toNat 0).2∧Below w.heap.size w w'
attribute [local irreducible] HD.cells wpList Code.wp
theorem jopen_fine (l:List Int)(A:Option Addr)(n c:Nat)(w:World)(hb:Bytes w A l)(hL:l.length=n)(hn:n≤800000)(hc:n≤c)(hz:hcode l n=0)(E:Nat)(hE:endV (hdOf l)=(E:Int))(hEB:endB (hdOf l)=true)(hEn:E≤n)(hok:(hdOf l).Ok 21):
 Calls Tryz.prog 42 #[.slice A n c] w (JOpened l E w):=by
 have HOp:=Lib.hid (open_fine l A n c w hb hL hn hc hz E hE hEB hEn hok)
 unfold Opened at HOp
 have hAll:=hb.1
 have hlE:(l.take E).length≤800000:=by rw[List.length_take];omega
 have HAl:=Lib.hid (hAll.take E)
 have HF:=Lib.hid (chase_fit (h:=hdOf l) (hAll.take E) (E:=E) (n:=(hdOf l).N 8) (na:=14) (ni:=2) (E+1) [] ((hdOf l).N 11).toNat 0 (fit_nil E))
 have hE8:E≤800000:=by omega
 have HOk:=Lib.hid hok
 unfold JOpened
 clear hb hz hE hEB
 generalize hdOf l=H at*
 generalize l.take E=lE at*
 have HEn:=Lib.hid fun(W:World) (gv:Nat) (A2:Option Addr) (c2:Nat) (v:ViewAt W gv H A2 E c2 lE) (hcm:c2≤maxLen)=>Wl.entries_any W v hcm hE8 hlE HAl.out HOk.out
 unfold TellL at HEn
 generalize chase H lE E (H.N 8) 14 2 (E+1) [] (H.N 11).toNat 0=R at*
 obtain⟨out,cd⟩:=R
 dsimp only at*
 go_enter Tryz.func42,Tryz.ntmps42
 go_upto_region 5 with(first
  |(go_at_call 15;((refine HOp.out.mono ?_);rintro e w1 ⟨gv,A2,c2,rfl,_,hv,hc2,hb1⟩;have HV:=Lib.hid hv;have B1:=Lib.hid hb1;have HC2:=Lib.hid hc2;clear hv hb1 hc2))
  |fail)
 have R2:=Lib.hid (Blk.new w1 [.pointer (some ⟨gv,0,none⟩),.slice none 0 0,.int .i64 0] 186)
 have b2:=Lib.hid ((Below.refl w1.heap.size w1).alloc (Nat.le_refl _) (.cells #[.pointer (some ⟨gv,0,none⟩),.slice none 0 0,.int .i64 0] 186))
 have hs2:(w1.alloc (.cells #[.pointer (some ⟨gv,0,none⟩),.slice none 0 0,.int .i64 0] 186)).heap.size=w1.heap.size+1:=by simp
 have HV2:=Lib.hid (HV.out.below b2.out)
 have HE2:=Lib.hid (HEn.out _ gv A2 c2 HV2.out HC2.out)
 have hs1:=B1.out.size
 clear HOp HEn
 generalize (w1.alloc (.cells #[.pointer (some ⟨gv,0,none⟩),.slice none 0 0,.int .i64 0] 186))=w2 at*
 have B2:=Lib.hid (B1.out.trans (b2.out.mono B1.out.size))
 obtain⟨g1,hg1⟩: ∃g,w1.heap.size=g:=⟨_,rfl⟩
 rw[hg1]at R2 hs2 b2 hs1
 clear B1
 go_upto_region 6 with(first
  |(go_at_call 35;((refine HE2.out.mono ?_);rintro e w3 ⟨hb3,P,k,cp,rfl,ho3,hl3⟩;have B3:=Lib.hid hb3;have O3:=Lib.hid ho3;have L3:=Lib.hid hl3;have R3:=R2.out.below hb3 R2.out.lt;have k1:=R3.cell (i:=1) rfl;have k2:=R3.cell (i:=2) rfl;have z1:=R3.frozen 1;have z2:=R3.frozen 2;clear hb3 ho3 hl3))
  |fail)
 have BF:=Lib.hid (((b2.out.trans (B3.out.mono (by omega))).setCell (p:=⟨g1,1,none⟩) (Nat.le_refl _) (.slice P k cp)).setCell (p:=⟨g1,2,none⟩) (Nat.le_refl _) (.int .i64 cd))
 have BB:=Lib.hid (((B2.out.trans (B3.out.mono B2.out.size)).setCell (p:=⟨g1,1,none⟩) hs1 (.slice P k cp)).setCell (p:=⟨g1,2,none⟩) hs1 (.int .i64 cd))
 have RF:=Lib.hid ((R3.set_ 1 (.slice P k cp)).set_ 2 (.int .i64 cd))
 have OF:=Lib.hid (OwnE.farE (OwnE.farE O3.out (a:=⟨g1,1,none⟩) (by show g1<_;omega) (.slice P k cp)) (a:=⟨g1,2,none⟩) (by show g1<_;omega) (.int .i64 cd))
 have L5:=L3.out
 have F5:=HF.out
 have HVF:=Lib.hid (HV.out.below (by rw[hg1];exact BF.out))
 clear k1 k2 z1 z2 R3
 go_wp2
 go_ret2
 refine⟨g1,gv,A2,c2,P,k,cp,rfl,⟨RF.out,HVF.out,HC2.out,hE8,tell_ints OF.out L5 F5.2,L5,F5.2,?_⟩,BB.out⟩
 have h6:=F5.1
 unfold Up at h6
 omega
theorem len_any {w:World}{gf gv:Nat}{h:HD}{A:Option Addr}{E c:Nat}{l:List Int}{P:Option Addr}{n cp:Nat}{out:List Int}{cd:Int}(f:FileAt w gf gv h A E c l P n cp out cd):Calls Tryz.prog 44 #[.pointer (some ⟨gf,0,none⟩)] w fun e w'=>e= .returned (.int .i64 (n:Int))∧w=w':=by
 have k1:=f.blk.cell (i:=1) rfl
 clear f
 go_enter Tryz.func44,Tryz.ntmps44
 go_wp2
 go_ret
 exact⟨rfl,rfl⟩
theorem code_any {w:World}{gf gv:Nat}{h:HD}{A:Option Addr}{E c:Nat}{l:List Int}{P:Option Addr}{n cp:Nat}{out:List Int}{cd:Int}(f:FileAt w gf gv h A E c l P n cp out cd):Calls Tryz.prog 45 #[.pointer (some ⟨gf,0,none⟩)] w fun e w'=>e= .returned (.int .i64 cd)∧w=w':=by
 have k2:=f.blk.cell (i:=2) rfl
 clear f
 go_enter Tryz.func45,Tryz.ntmps45
 go_wp2
 go_ret
 exact⟨rfl,rfl⟩
theorem at_in {w:World}{gf gv:Nat}{h:HD}{A:Option Addr}{E c:Nat}{l:List Int}{P:Option Addr}{n cp:Nat}{out:List Int}{cd:Int}(f:FileAt w gf gv h A E c l P n cp out cd)(x:Nat)(hx:x<n):Calls Tryz.prog 52 #[.pointer (some ⟨gf,0,none⟩),.int .i64 (x:Int)] w fun e w'=>e= .returned (.tuple #[.int .u64 (out.getD x 0),.int .i64 0])∧w=w':=by
 have k1:=f.blk.cell (i:=1) rfl
 have d1:decide ((x:Int)<0)=false:=by simp
 have d2:decide ((n:Int)≤(x:Int))=false:=by simp;omega
 obtain⟨b,off,rfl,_,hc,_⟩:=f.ints x hx
 dsimp only at hc
 generalize out.getD x 0=y at*
 clear f
 go_enter Tryz.func52,Tryz.ntmps52
 go_wp2
 go_ret2
 exact⟨rfl,rfl⟩
end Jb
namespace Jc
open Bytes8 Blk8 Own8 OwnE Rows2 Ga Gb Ma Na Np Nr Ns Nt Rc Rn Rr Va Wa Pr8 Jb Ro
open Go1 (hcode)
open Nh (intE)
open Dc (wpList_append_elt_at)
open Yg (NewIn)
open Yg (res_row)
def TellRN (B:Nat)(p:RecP)(cd:Int)(w:World)(e:Ending)(w':World):Prop:= ∃F c,e= .returned (.tuple #[p.v F c,.int .i64 cd])∧Prs w' F p.pl∧NewIn B F∧Below w.heap.size w w'
theorem recTellN {gv:Nat}{h:HD}{A:Option Addr}{n c:Nat}{l:List Int}(a:Nat)(w:World)(v:ViewAt w gv h A n c l)(hcm:c≤maxLen)(h8:n≤800000):
 Calls Tryz.prog 103 #[.pointer (some ⟨gv,0,none⟩),.int .u64 (a:Int)] w (TellRN w.heap.size (recP h l n a) (rcode h l n a) w):=by
 refine(recAsk a w v hcm h8).mono ?_
 rintro e w' ⟨hb,⟨hz,rfl⟩|⟨hz,F,c2,rfl,hp,hn⟩⟩
 ·unfold TellRN recP
  rw[if_neg hz]
  exact⟨none,0,rfl,Prs.nil _ _,none_new _,hb⟩
 ·unfold TellRN recP
  rw[if_pos hz,hz]
  exact⟨F,c2,rfl,hp,hn,hb⟩
attribute [local irreducible] HD.cells wpList Code.wp
theorem rec_in {w:World}{gf gv:Nat}{h:HD}{A:Option Addr}{E c:Nat}{l:List Int}{P:Option Addr}{n cp:Nat}{out:List Int}{cd:Int}(f:FileAt w gf gv h A E c l P n cp out cd)(x:Nat)(hx:x<n):Calls Tryz.prog 50 #[.pointer (some ⟨gf,0,none⟩),.int .i64 (x:Int)] w (TellRN w.heap.size (recP h l E (out.getD x 0).toNat) (rcode h l E (out.getD x 0).toNat) w):=by
 have k0:=f.blk.cell (i:=0) rfl
 have HA:=Lib.hid fun(W:World) (hW:Below w.heap.size w W)=>at_in (f.below hW) x hx
 have b1:=Lib.hid ((Below.refl w.heap.size w).alloc (Nat.le_refl _) (.cells zR 64))
 obtain⟨a,ha⟩: ∃a:Nat,out.getD x 0=(a:Int):=by
  have hx2:x<out.length:=by rw[f.len];exact hx
  have e:out.getD x 0=out[x]:=by simp[List.getElem?_eq_getElem hx2]
  have:=f.nn _ (List.getElem_mem hx2)
  exact⟨out[x].toNat,by rw[e];omega⟩
 rw[ha]at HA⊢
 rw[Int.toNat_natCast]
 have HR:=Lib.hid fun(W:World) (hW:Below w.heap.size w W)=>recTellN a W (f.view.below hW) f.cm f.e8
 have k0':(w.alloc (.cells zR 64)).cell? ⟨gf,0,none⟩=some (.pointer (some ⟨gv,0,none⟩)):=(b1.out.cell (p:=⟨gf,0,none⟩) f.blk.lt).trans k0
 have Z1:=Lib.hid (heap_alloc_new w (.cells zR 64))
 have hs1:(w.alloc (.cells zR 64)).heap.size=w.heap.size+1:=by simp
 unfold TellRN at HR⊢
 clear f k0
 generalize recP h l E a=R at*
 generalize rcode h l E a=cd2 at*
 obtain⟨rs,rr,rm,rK,rn,rpl⟩:=R
 dsimp only at*
 go_enter Tryz.func50,Tryz.ntmps50
 go_wp2_with(first
  |(go_at_call 52;(refine(HA.out _ b1.out).mono ?_);rintro e w1 ⟨rfl,rfl⟩)
  |(go_at_call 103;(refine(HR.out _ b1.out).mono ?_);rintro e w2 ⟨F,c2,rfl,hp,hnw,hb2⟩;have HP:=Lib.hid hp;have HN:=Lib.hid hnw;have B2:=Lib.hid (b1.out.trans (hb2.mono b1.out.size));have Z2:=Lib.hid ((hb2.block w.heap.size (by rw[hs1];exact Nat.lt_succ_self _)).trans Z1.out);clear hp hnw hb2)
  |((with_reducible apply at_store (.tmp 4) (.tmp 24));refine wpList_store_row rfl 64 (.tmp 4) (.tmp 24) rfl w.heap.size (recL rs rr rm rK (.slice F rn c2)).toArray rfl rfl 64 zR Z2.out (recInfo _ _ _ _ _) rfl (by simp[Value.oneCell']) ?_)
  |fail)
 refine bodyPost_ret (v:= .tuple #[.agg (recL rs rr rm rK (.slice F rn c2)).toArray,.int .i64 cd2]) (by exact res_row Tryz.results50 _ _ w.heap.size 64 _ (0,0) _ _ rfl rfl (setRow_heap _ _ _ _ _ (0,0) Z2.out) Tryz.underlying64 rfl (recInfo _ _ _ _ _)) rfl ?_
 have B3:=below_setRow B2.out (Nat.le_refl w.heap.size) (recL rs rr rm rK (.slice F rn c2)).toArray
 refine⟨F,c2,rfl,HP.out.keptB (by rw[setRow_size];exact Nat.le_refl _) fun b off e hb=>?_,fun b off e=>by have:=HN.out b off e;omega,B3⟩
 have h1:=HN.out b off e
 exact setRow_other _ _ _ _ (by omega)
end Jc
namespace Jd
open Bytes8 Blk8 Own8 OwnE Rows2 Ga Gb Ma Na Np Nr Ns Nt Rc Rn Rr Wa Pr8 Ja Jb Jc
open Go1 (hcode)
open Nh (intE)
open Dc (wpList_append_elt_at)
open Yg (NewIn)
abbrev jC (h:HD)(l:List Int)(E:Nat)(out:List Int)(x:Nat):Int:=rcode h l E (out.getD x 0).toNat
abbrev jR (h:HD)(l:List Int)(E:Nat)(out:List Int)(x:Nat):RecP:=recP h l E (out.getD x 0).toNat
def goodL (h:HD)(l:List Int)(E:Nat)(out:List Int)(n:Nat):List Nat:=(goodR (jC h l E out) (fun x=>(jR h l E out x).s) n).1
abbrev ints (l:List Nat):List Value:=l.map fun(x:Nat)=>Value.int .i64 (x:Int)
theorem ints_snoc (l:List Nat)(k:Nat):ints (l++ [k])=ints l++ [.int .i64 (k:Int)]:=List.map_append
attribute [local irreducible] HD.cells wpList Code.wp
theorem good_any {w:World}{gf gv:Nat}{h:HD}{A:Option Addr}{E c:Nat}{l:List Int}{P:Option Addr}{n cp:Nat}{out:List Int}{cd:Int}(f:FileAt w gf gv h A E c l P n cp out cd):
 Calls Tryz.prog 47 #[.pointer (some ⟨gf,0,none⟩)] w fun e w'=> ∃A1 m c1,e= .returned (.slice A1 m c1)∧OwnE 3 1 w' w.heap.size A1 m c1 (ints (goodL h l E out n))∧(goodL h l E out n).length=m∧Below w.heap.size w w':=by
 have k1:=f.blk.cell (i:=1) rfl
 have hn8:=f.nb
 have HR:=Lib.hid fun(x:Nat) (hx:x<n) (W:World) (hW:Below w.heap.size w W)=>rec_in (f.below hW) x hx
 have hsp:=fun k=>goodR_spec (jC h l E out) (fun x=>(jR h l E out x).s) k
 unfold goodL
 have hC: ∀x,jC h l E out x=rcode h l E (out.getD x 0).toNat:=fun _=>rfl
 have hR: ∀x,jR h l E out x=recP h l E (out.getD x 0).toNat:=fun _=>rfl
 simp only[←hC,←hR]at HR
 clear f hC hR
 generalize hS:(fun x=>(jR h l E out x).s)=S at*
 generalize jR h l E out=R at*
 generalize jC h l E out=C at*
 unfold TellRN at HR
 have Hsp:=Lib.hid hsp
 clear hsp
 go_enter Tryz.func47,Tryz.ntmps47
 go_upto_region 3 with fail
 go_wp2_with fail
 go_loopw [3,4,13] (fun s g i wr=> ∃(k m:Nat) (A1:Option Addr) (c1:Nat),k≤n∧s= .slice A1 m c1∧g= .int .u64 (goodR C S k).2∧i= .int .i64 (k:Int)∧Hid (OwnE 3 1 wr w.heap.size A1 m c1 (ints (goodR C S k).1))∧Hid ((goodR C S k).1.length=m)∧Hid (Below w.heap.size w wr)) (fun _ _ i _=>n-Rn.natOf i)
 case atStart=>exact⟨0,0,none,0,Nat.zero_le _,rfl,rfl,rfl,Lib.hid (OwnE.nil w w.heap.size (Nat.le_refl _)),Lib.hid rfl,Lib.hid (Below.refl _ _)⟩
 case round=>
  obtain⟨k,m,A1,c1,hk,rfl,rfl,rfl,hO,hL,hB⟩:=hrel
  by_cases hlt:k<n
  ·have dd1:decide ((k:Int)<(n:Int))=true:=by simp;omega
   have hw1:IntKind.i64.wrap ((k:Int)+1)=((k+1:Nat):Int):=by rw[IntKind.wrap_i64];omega
   have HR1:=Lib.hid (HR.out k hlt wr hB.out)
   have hm:=(Hsp.out k).2.1
   have hmL:=hL.out
   have hstep:=Lib.hid (goodR_yes (C:=C) (S:=S) (k:=k))
   have hskip:=Lib.hid (goodR_no (C:=C) (S:=S) (k:=k))
   have hSk:S k=(R k).s:=by rw[←hS]
   rw[hSk]at hstep hskip
   clear HR Hsp hSk
   generalize goodR C S k=q at*
   obtain⟨L,gr⟩:=q
   dsimp only at hO hL hm hmL hstep hskip
   generalize C k=ck at*
   generalize R k=r at*
   obtain⟨rs,rr,rm,rK,rn,rpl⟩:=r
   dsimp only at HR1 hstep hskip
   clear hS
   go_upto_region 7 with(first
    |(go_at_call 50;(refine HR1.out.mono ?_);rintro e w2 ⟨F,c2,rfl,_,_,hb2⟩;have B2:=Lib.hid (hB.out.trans (hb2.mono hB.out.size));have O2:=Lib.hid (hO.out.kept hb2 (Nat.le_refl _));clear hb2)
    |((with_reducible apply at_store (.tmp 6) (.tmp 20));refine wpList_store_row rfl 64 (.tmp 6) (.tmp 20) rfl w2.heap.size (recL rs rr rm rK (.slice F rn c2)).toArray rfl rfl 64 zR (heap_alloc_new w2 _) (recInfo _ _ _ _ _) rfl (by simp[Value.oneCell']) ?_)
    |fail)
   have R3:=Lib.hid (show Blk ((w2.alloc (.cells zR 64)).setRow w2.heap.size (recL rs rr rm rK (.slice F rn c2)).toArray) w2.heap.size (recL rs rr rm rK (.slice F rn c2)) 64 from setRow_heap _ _ _ _ _ (0,0) (heap_alloc_new w2 _))
   have b3:=Lib.hid (show Below w2.heap.size w2 ((w2.alloc (.cells zR 64)).setRow w2.heap.size (recL rs rr rm rK (.slice F rn c2)).toArray)from below_setRow ((Below.refl _ _).alloc (Nat.le_refl _) _) (Nat.le_refl _) _)
   have O3:=Lib.hid (O2.out.kept b3.out (Nat.le_refl _))
   have hg4:=Lib.hid (fun k hk=>(show k<w2.heap.size from(Dc.OwnE.ltB O2.out k hk).2))
   have B3:=Lib.hid (B2.out.trans (b3.out.mono B2.out.size))
   clear b3 HR1 hO
   generalize (w2.alloc (.cells zR 64)).setRow w2.heap.size (recL rs rr rm rK (.slice F rn c2)).toArray=w3 at*
   have hgw:=B2.out.size
   clear O2 B2
   generalize w2.heap.size=g2 at*
   have k0:w3.cell? ⟨g2,0,none⟩=some (.int .u64 rs):=R3.out.cell (i:=0) rfl
   by_cases hcd:ck=0
   ·subst hcd
    by_cases hg:gr<rs
    ·have e1:=hstep.out ⟨rfl,hg⟩
     have HE1:=Lib.hid e1
     have d1:decide (rs≤gr)=false:=by simp;omega
     have R3a:=Lib.hid (R3.out.alloc (.cells #[.int .i64 (k:Int)] 3))
     clear hstep hskip hg e1
     go_upto_region 9 with(first
      |(at_builtin;refine wpList_append_elt_at intE rfl (.tmp 30) (.tmp 32) rfl w.heap.size A1 m c1 (ints L) rfl (OwnE.alloc O3.out _) ⟨w3.heap.size,0,none⟩ 1 1 [.int .i64 (k:Int)] rfl rfl (Blk.news (Blk.new w3 [.int .i64 (k:Int)] 3)) (by intro u hu;simp at hu;subst hu;rfl) (by omega) (by omega) (by unfold maxLen;omega) ?_;intro A6 c6 w6 ho6 hg6 hat6;have O6:=Lib.hid ho6;have G6:=Lib.hid hg6;clear ho6 hg6 hat6)
      |fail)
     have B6:=Lib.hid ((B3.out.alloc B3.out.size (.cells #[.int .i64 (k:Int)] 3)).trans (Own8.below_grown G6.out (by have:=B3.out.size;simp;omega) (fun k hk=>(Dc.OwnE.ltB O3.out k hk).1)))
     have k6:w6.cell? ⟨g2,0,none⟩=some (.int .u64 rs):=(World.cell?_of_block (a:=⟨g2,0,none⟩) (G6.out.block g2 R3a.out.lt (fun e=>by have h2:=hg4.out g2 e.symm;omega))).trans (R3a.out.cell (i:=0) rfl)
     go_wp2_with fail
     go_roundw
     case rel=>exact⟨k+1,m+1,A6,c6,hlt,rfl,by rw[HE1.out],rfl,Lib.hid (by rw[HE1.out,ints_snoc];exact O6.out),Lib.hid (by rw[HE1.out,List.length_append,List.length_singleton,hmL]),B6⟩
     case measure=>simp[Rn.natOf];omega
    ·have e1:=hskip.out (fun h=>hg h.2)
     have HE1:=Lib.hid e1
     have d1:decide (rs≤gr)=true:=by simp;omega
     clear hstep hskip hg e1
     go_wp2_with fail
     go_roundw
     case rel=>exact⟨k+1,m,A1,c1,hlt,rfl,by rw[HE1.out],rfl,Lib.hid (by rw[HE1.out];exact O3.out),Lib.hid (by rw[HE1.out];exact hmL),B3⟩
     case measure=>simp[Rn.natOf];omega
   ·have e1:=hskip.out (fun h=>hcd h.1)
    have HE1:=Lib.hid e1
    have d0:decide (ck=0)=false:=by simpa using hcd
    have d1:(ck !=0)=true:=by simpa using hcd
    clear hstep hskip hcd e1
    go_wp2_with fail
    go_roundw
    case rel=>exact⟨k+1,m,A1,c1,hlt,rfl,by rw[HE1.out],rfl,Lib.hid (by rw[HE1.out];exact O3.out),Lib.hid (by rw[HE1.out];exact hmL),B3⟩
    case measure=>simp[Rn.natOf];omega
  ·have dd1:decide ((k:Int)<(n:Int))=false:=by simp;omega
   have hkn:k=n:=by omega
   subst hkn
   go_wp2_with fail
   go_ret
   exact⟨A1,m,c1,rfl,hO.out,hL.out,hB.out⟩
end Jd
namespace Je
open Bytes8 Blk8 Own8 OwnA OwnE Rows2 Ga Gb Ma Kf Na Np Nr Ns Nt Nu Rc Rn Rr Wa Ls Pr8 Dc Ja Jb Jc Jd
open Go1 (hcode)
open Yg (NewIn)
structure RecsR (w:World)(A:Option Addr)(xs:List Value)(R:List RecP):Prop where
 len:xs.length=R.length*20
 at_: ∀i (h:i<R.length),∃(F:Option Addr) (c:Nat),(xs.drop (20*i)).take 20=recL R[i].s R[i].r R[i].m R[i].K (.slice F R[i].n c)∧Prs w F R[i].pl∧R[i].Ok∧ ∀b off,F=some ⟨b,off,none⟩→0<R[i].n→b<w.heap.size∧ownB A≠some b
theorem RecsR.nil (w:World)(A:Option Addr):RecsR w A [] []:=⟨rfl,fun i h=>absurd h (Nat.not_lt_zero i)⟩
theorem RecsR.step {w w':World}{A A':Option Addr}{xs:List Value}{R:List RecP}(h:RecsR w A xs R){G:Nat→Prop}(hk:KeptF G w w')(hG: ∀b,b<w.heap.size→G b→ownB A=some b)(hA: ∀b,b<w.heap.size→ownB A'=some b→ownB A=some b):RecsR w' A' xs R:=
 ⟨h.len,fun i hi=>by
   obtain⟨F,c,e1,e2,e3,e4⟩:=h.at_ i hi
   refine⟨F,c,e1,?_,e3,fun b off e hn=>?_⟩
   ·rcases Nat.eq_zero_or_pos R[i].n with h0|h0
    ·rw[List.eq_nil_of_length_eq_zero (show R[i].pl.length=0 by rw[e3.len,h0])]
     exact Prs.nil _ _
    ·exact e2.keptB hk.size fun b off e hb=>hk.block b hb fun hg=>(e4 b off e h0).2 (hG b hb hg)
   ·obtain⟨g1,g2⟩:=e4 b off e hn
    exact⟨Nat.lt_of_lt_of_le g1 hk.size,fun ha=>g2 (hA b g1 ha)⟩⟩
theorem RecsR.below {w w':World}{A:Option Addr}{xs:List Value}{R:List RecP}(h:RecsR w A xs R)(hb:Below w.heap.size w w'):RecsR w' A xs R:=h.step (KeptF.of_below (F:=fun _=>False) hb) (fun _ _ h=>h.elim) (fun _ _ h=>h)
theorem RecsR.snoc {w:World}{A:Option Addr}{xs:List Value}{R:List RecP}(h:RecsR w A xs R)(r:RecP){F:Option Addr}{c:Nat}(ok:r.Ok)(hp:Prs w F r.pl)(ho: ∀b off,F=some ⟨b,off,none⟩→0<r.n→b<w.heap.size∧ownB A≠some b):RecsR w A (xs++recL r.s r.r r.m r.K (.slice F r.n c)) (R++ [r]):=by
 have h20:(recL r.s r.r r.m r.K (.slice F r.n c)).length=20:=rfl
 have hl0:=h.len
 refine⟨by rw[List.length_append,List.length_append,h20,List.length_singleton,h.len];omega,fun i hi=>?_⟩
 by_cases hlast:i<R.length
 ·obtain⟨F2,c2,e1,e2⟩:=h.at_ i hlast
  rw[List.getElem_append_left hlast]
  refine⟨F2,c2,?_,e2⟩
  rw[List.drop_append_of_le_length (by omega),List.take_append_of_le_length (by rw[List.length_drop];omega)]
  exact e1
 ·have hi3:i=R.length:=by rw[List.length_append,List.length_singleton]at hi;omega
  subst hi3
  refine⟨F,c,?_,?_⟩
  ·rw[List.drop_left' (by omega),List.take_of_length_le (by rw[h20];exact Nat.le_refl _)]
   simp
  ·simpa using⟨hp,ok,ho⟩
def goodRecs (h:HD)(l:List Int)(E:Nat)(out:List Int)(n:Nat):List RecP:=(goodL h l E out n).map fun x=>jR h l E out x
def Gathered (G:List RecP)(w:World)(e:Ending)(w':World):Prop:= ∃A m c xs B,e= .returned (.tuple #[.slice A m c,.bool true])∧G.length=m∧OwnE 64 20 w' B A m c xs∧RecsR w' A xs G∧Below w.heap.size w w'
theorem toN_own {w:World}{b m c:Nat}{A:Option Addr}{L:List Nat}(h:OwnE 3 1 w b A m c (ints L))(hl:L.length=m)(hb: ∀x∈L,x<9223372036854775808)(i:Nat)(hi:i<m): ∃g,A=some ⟨g,0,none⟩∧w.cell? ⟨g,i,none⟩=some (.int .i64 ((L.getD i 0:Nat):Int)):=by
 obtain⟨g,e,_,_,hc⟩:=OwnE.cell h (i:=i) (by rw[List.length_map];omega)
 refine⟨g,e,hc.trans ?_⟩
 rw[List.getElem?_map,List.getElem?_eq_getElem (by omega),List.getD_eq_getElem?_getD,List.getElem?_eq_getElem (by omega)]
 rfl
attribute [local irreducible] HD.cells wpList Code.wp
theorem records_any {w:World}{gf gv:Nat}{h:HD}{A:Option Addr}{E c:Nat}{l:List Int}{P:Option Addr}{n cp:Nat}{out:List Int}{cd:Int}(f:FileAt w gf gv h A E c l P n cp out cd):
 Calls Tryz.prog 55 #[.pointer (some ⟨gf,0,none⟩)] w (Gathered (goodRecs h l E out n) w):=by
 have hn8:=f.nb
 have hAl:=f.view.by_.1
 have HG:=Lib.hid (good_any f)
 have HR:=Lib.hid fun(x:Nat) (hx:x<n) (W:World) (hW:Below w.heap.size w W)=>rec_in (f.below hW) x hx
 have HOk:=Lib.hid fun(x:Nat)=>show(jR h l E out x).Ok from recP_ok h E (out.getD x 0).toNat hAl
 have hsp:=(goodR_spec (jC h l E out) (fun x=>(jR h l E out x).s) n)
 have hgl: ∀x∈goodL h l E out n,x<n∧jC h l E out x=0:=fun x hx=>⟨(hsp.1 x hx).1,(hsp.1 x hx).2.1⟩
 have hgn:(goodL h l E out n).length≤n:=hsp.2.1
 have hC: ∀x,jC h l E out x=rcode h l E (out.getD x 0).toNat:=fun _=>rfl
 have hR: ∀x,jR h l E out x=recP h l E (out.getD x 0).toNat:=fun _=>rfl
 simp only[←hC,←hR]at HR
 unfold goodRecs
 clear f hC hR hsp hAl
 have Hgl:=Lib.hid hgl
 generalize goodL h l E out n=L at*
 generalize jR h l E out=R at*
 generalize jC h l E out=C at*
 unfold TellRN at HR
 unfold Gathered
 clear hgl
 go_enter Tryz.func55,Tryz.ntmps55
 go_upto_region 3 with(first
  |(go_at_call 47;(refine HG.out.mono ?_);rintro e w1 ⟨A1,m,c1,rfl,ho1,hl1,hb1⟩;have O1:=Lib.hid ho1;have L1:=Lib.hid hl1;have B1:=Lib.hid hb1;clear ho1 hl1 hb1)
  |fail)
 clear HG
 have hm8:m≤800000:=by have:=L1.out;omega
 have S1:=Lib.hid (Below.refl w1.heap.size w1)
 have N1:=Lib.hid (OwnE.nil (E:=64) (size:=20) w1 w1.heap.size (Nat.le_refl _))
 have Q1:=Lib.hid (RecsR.nil w1 none)
 go_wp2_with fail
 go_loopw [5,6] (fun s i wr=> ∃(k:Nat) (A2:Option Addr) (c2:Nat) (xs:List Value),k≤m∧s= .slice A2 k c2∧i= .int .i64 (k:Int)∧Hid (OwnE 64 20 wr w1.heap.size A2 k c2 xs)∧Hid (RecsR wr A2 xs ((L.take k).map R))∧Hid (Below w1.heap.size w1 wr)) (fun _ i _=>m-Rn.natOf i)
 case atStart=>exact⟨0,none,0,[],Nat.zero_le _,rfl,rfl,N1,Q1,S1⟩
 case round=>
  obtain⟨k,A2,c2,xs,hk,rfl,rfl,hO,hQ,hB⟩:=hrel
  by_cases hlt:k<m
  ·have dd1:decide ((k:Int)<(m:Int))=true:=by simp;omega
   have hki:(k:Int)<(m:Int):=by omega
   have hw1:IntKind.i64.wrap ((k:Int)+1)=((k+1:Nat):Int):=by rw[IntKind.wrap_i64];omega
   have hkl:k<L.length:=by rw[L1.out];exact hlt
   have hxe:L.getD k 0=L[k]:=by simp[List.getElem?_eq_getElem hkl]
   obtain⟨gL,rfl,hcl⟩:=toN_own (O1.out.kept hB.out (Nat.le_refl _)) L1.out (fun x hx=>by have:=(Hgl.out x hx).1;omega) k hlt
   rw[hxe]at hcl
   have hx2:=Hgl.out L[k] (List.getElem_mem hkl)
   have HR1:=Lib.hid (HR.out L[k] hx2.1 wr (B1.out.trans (hB.out.mono B1.out.size)))
   rw[hx2.2]at HR1
   have HS:=Lib.hid (show(L.take (k+1)).map R=(L.take k).map R++ [R L[k]]by rw[List.take_succ_eq_append_getElem hkl,List.map_append];rfl)
   have HOk1:=Lib.hid (HOk.out L[k])
   clear HR HOk hxe hx2
   generalize R L[k]=r at*
   generalize L[k]=x at*
   obtain⟨rs,rr,rm,rK,rn,rpl⟩:=r
   dsimp only at HR1
   go_upto_region 9 with(first
    |(go_at_call 50;(refine HR1.out.mono ?_);rintro e w2 ⟨F,cf,rfl,hp,hnw,hb2⟩;have b2:=Lib.hid hb2;have HP:=Lib.hid hp;have HN:=Lib.hid hnw;clear hp hnw hb2)
    |((with_reducible apply at_store (.tmp 7) (.tmp 24));refine wpList_store_row rfl 64 (.tmp 7) (.tmp 24) rfl w2.heap.size (recL rs rr rm rK (.slice F rn cf)).toArray rfl rfl 64 zR (heap_alloc_new w2 _) (recInfo _ _ _ _ _) rfl (by simp[Value.oneCell']) ?_)
    |fail)
   have R3:=Lib.hid (show Blk ((w2.alloc (.cells zR 64)).setRow w2.heap.size (recL rs rr rm rK (.slice F rn cf)).toArray) w2.heap.size (recL rs rr rm rK (.slice F rn cf)) 64 from setRow_heap _ _ _ _ _ (0,0) (heap_alloc_new w2 _))
   have b3:=Lib.hid (show Below w2.heap.size w2 ((w2.alloc (.cells zR 64)).setRow w2.heap.size (recL rs rr rm rK (.slice F rn cf)).toArray)from below_setRow ((Below.refl _ _).alloc (Nat.le_refl _) _) (Nat.le_refl _) _)
   have HP3:=Lib.hid (HP.out.below b3.out)
   have hlA:=Lib.hid (fun b (hb:ownB A2=some b)=>(Dc.OwnE.ltB hO.out b hb).2)
   have HF3:=Lib.hid (show ∀b off,F=some ⟨b,off,none⟩→0<rn→b<w2.heap.size∧ownB A2≠some b from fun b off e hn=>by
    refine⟨?_,fun ha=>?_⟩
    ·have hl:=HOk1.out.len
     obtain⟨b2,off2,e2,hb2,_⟩:=HP.out.2 0 (by dsimp only at hl;omega)
     rw[e]at e2
     injection e2 with e2
     injection e2 with e2
     subst e2
     exact hb2
    ·have:=HN.out b off e
     have:=hlA.out b ha
     omega)
   generalize (w2.alloc (.cells zR 64)).setRow w2.heap.size (recL rs rr rm rK (.slice F rn cf)).toArray=w3 at*
   have b13:=Lib.hid (b2.out.trans (b3.out.mono b2.out.size))
   have B3:=Lib.hid (hB.out.trans (b13.out.mono hB.out.size))
   have O3:=Lib.hid (hO.out.kept b13.out (Nat.le_refl _))
   have Q3:=Lib.hid (((hQ.out.below b13.out).snoc ⟨rs,rr,rm,rK,rn,rpl⟩ (c:=cf) HOk1.out HP3.out (fun b off e hn=>⟨Nat.lt_of_lt_of_le (HF3.out b off e hn).1 b3.out.size,(HF3.out b off e hn).2⟩)))
   dsimp only at Q3
   have HO3:=Lib.hid (OwnE.alloc O3.out (.cells (recL rs rr rm rK (.slice F rn cf)).toArray 64))
   have HOn:=Lib.hid (Nu.recL_one rs rr rm rK F rn cf)
   have b3a:=Lib.hid ((Below.refl w3.heap.size w3).alloc (Nat.le_refl _) (.cells (recL rs rr rm rK (.slice F rn cf)).toArray 64))
   clear HR1 b2 b3 HP HP3 HN HF3 hO hQ
   generalize w2.heap.size=g2 at*
   go_wp2_with(first
    |((with_reducible apply at_slot 29);refine wpList_load_row rfl 64 (.tmp 7) rfl g2 rfl 64 (recL rs rr rm rK (.slice F rn cf)).toArray (0,0) _ R3.out Tryz.underlying64 rfl (recInfo _ _ _ _ _) ?_)
    |(at_builtin;refine wpList_append_new recElt rfl (.tmp 28) (.tmp 30) rfl w1.heap.size A2 k c2 xs rfl HO3.out ⟨w3.heap.size,0,none⟩ 1 1 (recL rs rr rm rK (.slice F rn cf)) rfl rfl (Blk.news (Blk.new w3 _ _)) HOn.out (by omega) (by omega) (by unfold maxLen;omega) ?_;intro A6 c6 w6 ho6 hg6 hat6;have O6:=Lib.hid ho6;have G6:=Lib.hid hg6;have T6:=Lib.hid hat6;clear ho6 hg6 hat6)
    |fail)
   have Q6:=Lib.hid ((Q3.out.below b3a.out).step (KeptF.grow _ G6.out) (fun b _ h=>h) (A':=A6) (fun b hb h=>by
    rcases T6.out with h1|⟨h1,_⟩
    ·rw[←h1];exact h
    ·rw[h1]at h
     injection h with h
     simp only[World.alloc,Array.size_push]at h hb
     omega))
   have B6:=Lib.hid ((B3.out.trans (b3a.out.mono B3.out.size)).trans (Own8.below_grown G6.out (by have:=HO3.out.1;omega) (fun b hb=>(Dc.OwnE.ltB HO3.out b hb).1)))
   go_roundw
   case rel=>exact⟨k+1,A6,c6,_,hlt,rfl,rfl,O6,by rw[HS.out];exact Q6,B6⟩
   case measure=>simp[Rn.natOf];omega
  ·have dd1:decide ((k:Int)<(m:Int))=false:=by simp;omega
   have hkm:k=m:=by omega
   subst hkm
   go_wp2_with fail
   go_ret2
   exact⟨A2,k,c2,xs,w1.heap.size,rfl,by rw[List.length_map];exact L1.out,hO.out,by have q:=hQ.out;rw[List.take_of_length_le (by rw[L1.out];exact Nat.le_refl _)]at q;exact q,B1.out.trans (hB.out.mono B1.out.size)⟩
end Je
namespace Zh
open Bytes8 Ob Ga Ma Na Nc Za Zb Zc Zd Yp Yh Va Wa
open Rg (arcode)
theorem u8_body {o:O}(hk:o.Ok)(i a:Nat)(hi:i<o.ws.length)(ha:a=8*i):u8 o.body a=o.ws.getD i 0:=by rw[ha];exact body_w hk i hi
theorem read_arr {l hd:List Int}{os:List O}(hl:l=hd++enc os)(hh:hd.length=272)(hok: ∀o∈os,o.Ok){a r:Nat}{g:Nat×Nat}(hs:shp os a=some ⟨6,1+r,[],g⟩)(hr:1≤r):
 ecode l a 6 8 8=0∧arX l a=wd os a 0∧arM l a=r∧ ∀j,j<r→arF (bodyL l a) j=wd os a (1+j):=by
 obtain⟨o,ho,hsh⟩:=shp_some hs
 have ok:=hok o (obj_mem _ _ _ _ ho)
 injection hsh with h1 h2 h3 h4
 obtain⟨c1,c2,c3,c4⟩:=read_at hl hh ho ok
 have hw: ∀j,wd os a j=o.ws.getD j 0:=fun j=>by unfold wd;rw[ho]
 have hbl:o.body.length=8*(1+r):=by rw[O.body_len,h2,h3];simp
 have he:ecode l a 6 8 8=0:=by
  unfold ecode
  rw[if_neg (by omega),c2,h1,if_neg (by decide),c4,hbl,if_neg (by omega)]
 refine⟨he,?_,?_,fun j hj=>?_⟩
 ·unfold arX
  rw[if_pos he,c4,hw]
  exact u8_body ok 0 0 (by omega) rfl
 ·unfold arM arN
  rw[if_pos he,c4,hbl]
  omega
 ·unfold arF
  rw[c4,hw]
  exact u8_body ok (1+j) _ (by omega) (by omega)
abbrev toI (l:List Nat):List Int:=l.map fun(x:Nat)=>(x:Int)
theorem lastI_take {its:List Nat}(hasc:its.Pairwise (· < ·))(hpos: ∀x∈its,0<x)(j:Nat)(hj:j<its.length):lastI (toI (its.take j))<(its[j]:Int):=by
 rcases Nat.eq_zero_or_pos j with h0|h0
 ·subst h0
  have:=hpos its[0] (List.getElem_mem _)
  simp[lastI]
  omega
 ·obtain⟨q,rfl⟩: ∃q,j=q+1:=⟨j-1,by omega⟩
  have h1:toI (its.take (q+1))=toI (its.take q)++ [(its[q]:Int)]:=by
   show(its.take (q+1)).map (fun(x:Nat)=>(x:Int))=(its.take q).map (fun(x:Nat)=>(x:Int))++ [(its[q]:Int)]
   rw[List.take_succ_eq_append_getElem (by omega),List.map_append]
   rfl
  rw[h1,lastI_snoc]
  have:=List.pairwise_iff_getElem.1 hasc q (q+1) (by omega) hj (by omega)
  omega
theorem toI_step (its:List Nat)(j:Nat)(hj:j<its.length):toI (its.take j)++ [(its[j]:Int)]=toI (its.take (j+1)):=by
 show(its.take j).map (fun(x:Nat)=>(x:Int))++ [(its[j]:Int)]=(its.take (j+1)).map (fun(x:Nat)=>(x:Int))
 rw[List.take_succ_eq_append_getElem hj,List.map_append]
 rfl
theorem toI_len (its:List Nat)(j:Nat)(hj:j≤its.length):((toI (its.take j)).length:Int)=(j:Int):=by
 rw[List.length_map,List.length_take];omega
def told (arr its:List Nat)(n na ni:Int):List Int×Int:=if n≤its.length then(toI (its.take n.toNat),0)else(toI its,if its.length=rooms arr.length then na else ni)
theorem told_at {arr its:List Nat}{n na ni:Int}{j:Nat}(hj:j≤its.length)(h:(j:Int)=n):told arr its n na ni=(toI (its.take j),0):=by
 unfold told
 rw[if_pos (by omega),show n.toNat=j by omega]
variable {h : HD} {l hd : List Int} {os : List O} {t : Nat} {arr its : List Nat}
theorem inA_arr (w:ArrW os t arr its)(hasc:its.Pairwise (· < ·)){E:Nat}(hpos: ∀x∈its,0<x∧x<E)(n na ni:Int)(K:List Int→List Int×Int)(g:Nat→Int)(k:Nat)(hk:k<arr.length)
 (hg: ∀j,j<roomN k→g j=wd os arr[k] (1+j))(hK:rooms (k+1)≤its.length→((rooms (k+1):Nat):Int)≤n→K (toI (its.take (rooms (k+1))))=told arr its n na ni)(hKf: ∀o:List Int,(o.length:Int)=n→K o=(o,0)):
 ∀(q j:Nat),q+j=roomN k→rooms k+j≤its.length→((rooms k+j:Nat):Int)≤n→inA K E n ni g q j (toI (its.take (rooms k+j)))=told arr its n na ni:=by
 have hrs:=rooms_succ k
 intro q
 induction q with
 |zero=>
  intro j hj h1 h2
  have e:rooms k+j=rooms (k+1):=by omega
  show K _=_
  rw[e]at h1 h2⊢
  exact hK h1 h2
 |succ q ih=>
  intro j hj h1 h2
  by_cases hn:((rooms k+j:Nat):Int)=n
  ·rw[inA_full _ _ _ _ _ _ _ _ (by rw[toI_len _ _ h1];exact hn) (hKf _ (by rw[toI_len _ _ h1];exact hn))]
   exact(told_at h1 hn).symm
  ·unfold inA
   rw[if_neg (by rw[toI_len _ _ h1];exact hn),hg j (by omega),w.it k hk j (by omega)]
   by_cases hl2:rooms k+j<its.length
   ·have e1:its.getD (rooms k+j) 0=its[rooms k+j]:=by simp[List.getElem?_eq_getElem hl2]
    obtain⟨p1,p2⟩:=hpos its[rooms k+j] (List.getElem_mem _)
    have hlt:=lastI_take hasc (fun x hx=>(hpos x hx).1) (rooms k+j) hl2
    rw[e1,if_neg (by simp[nothB];omega),if_neg (by omega),toI_step its _ hl2]
    exact ih (j+1) (by omega) (by omega) (by omega)
   ·have e0:rooms k+j=its.length:=by omega
    have e1:its.getD (rooms k+j) 0=0:=by simp[List.getElem?_eq_none (Nat.le_of_eq e0.symm)]
    rw[e1,if_pos (by simp[nothB])]
    have hm:=rooms_mono (show k+1≤arr.length by omega)
    unfold told
    rw[if_neg (by omega),if_neg (by omega),e0,List.take_length]
theorem chase_arr (hl:l=hd++enc os)(hh:hd.length=272)(hok: ∀o∈os,o.Ok)(h0:h.N 0=272)(w:ArrW os t arr its)(hasc:its.Pairwise (· < ·))(hpos: ∀x∈its,0<x∧x<l.length)(n na ni:Int):
 ∀(f k last:Nat),k≤arr.length→rooms k≤its.length→((rooms k:Nat):Int)≤n→(k=0→last=0)→(∀hk:0<k,last=arr.getD (k-1) 0)→last≤l.length→l.length+1≤f+last→
  chase h l l.length n na ni f (toI (its.take (rooms k))) (arr.getD k 0) last=told arr its n na ni:=by
 intro f
 induction f with
 |zero=>intro k last _ _ _ _ _ h1 h2;omega
 |succ f ih=>
  intro k last hk hr hn hl0 hlk hle hf
  by_cases hfull:((rooms k:Nat):Int)=n
  ·rw[chase_full _ _ _ _ _ _ _ _ _ _ (by rw[toI_len _ _ hr];exact hfull)]
   exact(told_at hr hfull).symm
  ·unfold chase
   rw[if_neg (by rw[toI_len _ _ hr];exact hfull)]
   by_cases hke:k=arr.length
   ·subst hke
    have e1:arr.getD arr.length 0=0:=by simp
    rw[e1,if_pos (by simp[nothB])]
    have:=w.le
    unfold told
    rw[if_neg (by omega),if_pos (by omega),show rooms arr.length=its.length by omega,List.take_length]
   ·have hklt:k<arr.length:=by omega
    have e1:arr.getD k 0=arr[k]:=by simp[List.getElem?_eq_getElem hklt]
    have hsz:l.length=endO os:=by rw[hl,List.length_append,hh];rfl
    have hb:=shp_lt (w.sh k hklt)
    dsimp only at hb
    have hrb:=roomN_bd k
    have hlast:last<arr[k]:=by
     rcases Nat.eq_zero_or_pos k with h1|h1
     ·rw[hl0 h1];omega
     ·have h2:=List.pairwise_iff_getElem.1 w.asc (k-1) k (by omega) hklt (by omega)
      have h3:=hlk h1
      have e2:arr.getD (k-1) 0=arr[k-1]:=by simp[List.getElem?_eq_getElem (show k-1<arr.length by omega)]
      omega
    obtain⟨r1,r2,r3,r4⟩:=read_arr hl hh hok (w.sh k hklt) (by omega)
    have hrng:h.N 0≤(arr[k]:Int)∧arr[k]<l.length:=by rw[h0];omega
    have ha:arcode h l l.length arr[k]=0:=by unfold arcode;rw[if_pos hrng];exact r1
    have hx:(aX9 h l l.length arr[k]).toNat=arr.getD (k+1) 0:=by
     unfold aX9
     rw[if_pos hrng,r2,w.nx k hklt,Int.toNat_natCast]
    have hc:aC9 h l l.length arr[k]=roomN k:=by unfold aC9;rw[if_pos hrng];exact r3
    rw[e1,if_neg (by simp[nothB];omega),if_neg (by omega),if_neg (by rw[ha];decide),hx,hc]
    refine inA_arr w hasc hpos n na ni _ _ k hklt r4 (fun q1 q2=>?_) (fun o ho=>chase_full _ _ _ _ _ _ _ _ _ _ ho) (roomN k) 0 (by omega) (by omega) (by omega)
    exact ih (k+1) arr[k] (by omega) q1 q2 (fun h=>absurd h (by omega)) (fun _=>by rw[Nat.add_sub_cancel];exact e1.symm) (by omega) (by omega)
end Zh
namespace Zi
open Go1 (hcode magicB)
end Zi
end Go.Proofs.YtjecmgkmcfkcjaaGreat
