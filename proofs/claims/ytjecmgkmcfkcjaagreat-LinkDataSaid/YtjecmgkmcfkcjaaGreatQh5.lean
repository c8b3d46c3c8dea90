/-
  Texts beneath the proof.
-/
import Derived.Lib.SlBytesConst
import Derived.Lib.AppendZerosOnto
import Derived.Deep.RegionHeld3
import Derived.Test.YtjecmgkmcfkcjaaGreatQh4
set_option linter.unusedVariables false
set_option linter.unusedSimpArgs false
set_option maxRecDepth 100000
set_option maxHeartbeats 4000000
open Go.ChangeShapes Go.WideShapes Go.ChangeAt Go.RowKit
namespace Go.Proofs.YtjecmgkmcfkcjaaGreat
namespace Sc
open Bytes8 Blk8 LeNum LeA LeB Hm Sa Sm
def SumAt (w:World)(g:Nat)(key l:List Int):Prop:=AllB l∧Blk w g [.int .u64 (quadAt key l (l.length/8)).p,.int .u64 (quadAt key l (l.length/8)).q,.int .u64 (quadAt key l (l.length/8)).r,.int .u64 (quadAt key l (l.length/8)).s,.int .u64 (left8 l),.int .u8 ((l.length:Int)%256)] 317
theorem get_key (K:Nat→Int)(A:Option Addr)(o:Nat)(i:Int)(hi:i=o)(ho:o+8≤16)(w:World)(hb:Bytes w A (idL K)):
 Calls Tryz.prog 96 #[.slice A 16 16,.int .i64 i,.int .i64 8] w fun e w'=>e= .returned (.tuple #[.int .u64 (w8 (idL K) o),.bool true])∧w=w':=by
 subst hi
 exact get_yes A (idL K) 16 o 8 w (by simp[idL]) (by simp[fits,isW,idL];omega) hb (by decide) (by decide) (by simp[idL];omega)
theorem new_any (K:Nat→Int)(w:World)(hk:IdOk K):
 Calls Tryz.prog 203 #[idV K] w fun e w'=>e= .returned (.pointer (some ⟨w.heap.size+1,0,none⟩))∧SumAt w' (w.heap.size+1) (idL K) []∧Below w.heap.size w w':=by
 have HK:=Lib.hid (id_boxed 62 K hk w)
 have HG0:=Lib.hid (get_key K _ 0 0 rfl (by decide) _ HK.out)
 have HG8:=Lib.hid (get_key K _ 8 8 rfl (by decide) _ HK.out)
 have HE:=Lib.hid (show keyed (idL K)=⟨bits .xor .u64 (w8 (idL K) 0) 8317987319222330741,bits .xor .u64 (w8 (idL K) 8) 7237128888997146477,bits .xor .u64 (w8 (idL K) 0) 7816392313619706465,bits .xor .u64 (w8 (idL K) 8) 8387220255154660723⟩from rfl)
 go_enter Tryz.func203,Tryz.ntmps203
 go_wp2_with(first|(go_at_call 96;(with_reducible refine HG0.out.mono ?_);rintro e w' ⟨rfl,rfl⟩)|(go_at_call 96;(with_reducible refine HG8.out.mono ?_);rintro e w' ⟨rfl,rfl⟩))
 go_ret
 refine⟨rfl,⟨(fun _ h=>by cases h),?_⟩,((Below.refl _ _).alloc (Nat.le_refl _) _).alloc (by simp) _⟩
 show Blk _ _ [.int .u64 (keyed (idL K)).p,.int .u64 (keyed (idL K)).q,.int .u64 (keyed (idL K)).r,.int .u64 (keyed (idL K)).s,.int .u64 0,.int .u8 0] _
 rw[HE.out]
 exact Blk.new_at _ _ _ _ (by simp)
theorem grown_set {w w':World}{g:Nat}(h:w.grownBy w' (some g))(i:Nat)(v:Value):w.grownBy (w'.setCell ⟨g,i,none⟩ v) (some g):=
 ⟨h.os,h.tape,h.output,by simpa using h.size,fun k hk hne=>(Below.heap_setCell w' _ v k (by intro e;exact hne (by rw[e]))).trans (h.block k hk hne)⟩
theorem grown_drew {w w':World}{g:Nat}(h:w.grownBy w' (some g)):w.grownBy w'.drew (some g):=⟨h.os,h.tape,h.output,h.size,h.block⟩
theorem grown_below {w w' w'':World}{g:Nat}(h:w.grownBy w' (some g))(hb:Below w'.heap.size w' w''):w.grownBy w'' (some g):=
 ⟨hb.os.trans h.os,hb.tape.trans h.tape,hb.output.trans h.output,Nat.le_trans h.size hb.size,fun k hk hne=>(hb.block k (Nat.lt_of_lt_of_le hk h.size)).trans (h.block k hk hne)⟩
theorem five_sets {w:World}{g:Nat}{p q r s t z:Value}{T:TypeId}(h:Blk w g [p,q,r,s,t,z] T)(a b c d e:Value):
 Blk (((((w.setCell ⟨g,0,none⟩ a).setCell ⟨g,1,none⟩ b).setCell ⟨g,2,none⟩ c).setCell ⟨g,3,none⟩ d).setCell ⟨g,4,none⟩ e) g [a,b,c,d,e,z] T:=
 ((((h.set_ 0 _).set_ 1 _).set_ 2 _).set_ 3 _).set_ 4 _
theorem two_sets {w:World}{g:Nat}{p q r s t z:Value}{T:TypeId}(h:Blk w g [p,q,r,s,t,z] T)(a b:Value):
 Blk (((w.setCell ⟨g,4,none⟩ a).drew).setCell ⟨g,5,none⟩ b) g [p,q,r,s,a,b] T:=
 ((h.set_ 4 _).drew).set_ 5 _
set_option maxRecDepth 100000 in
theorem add_any (K:Nat→Int)(g:Nat)(A:Option Addr)(l m:List Int)(len cap:Nat)(w:World)(hs:SumAt w g (idL K) l)(hb:Bytes w A m)(hL:m.length=len)(hmax:len≤1000000)(hA:0<len→ ∀b off,A=some ⟨b,off,none⟩→b≠g):
 Calls Tryz.prog 204 #[.pointer (some ⟨g,0,none⟩),.slice A len cap] w fun e w'=>e= .returned (.tuple #[])∧SumAt w' g (idL K) (l++m)∧w.grownBy w' (some g):=by
 have HB:=Lib.hid hb
 have HL:=Lib.hid hL
 have HA:=Lib.hid hA
 have HS:=Lib.hid hs
 clear hb hL hA hs
 go_enter Tryz.func204,Tryz.ntmps204
 go_wp2
 go_loopw [8] (fun i wr=> ∃k:Nat,k≤len∧i= .int .i64 k∧Hid (SumAt wr g (idL K) (l++m.take k))∧Hid (w.grownBy wr (some g))) (fun i _=>len-(intOf i).toNat)
 case atStart=>exact⟨0,Nat.zero_le _,rfl,by rw[List.take_zero,List.append_nil];exact HS,Lib.hid (World.grownBy.refl _ _)⟩
 case round=>
  obtain⟨k,hk,rfl,hr,hg⟩:=hrel
  by_cases hlt:k<len
  ·have hd:decide (k<len)=true:=by simpa using hlt
   obtain⟨b,off,rfl,hbl,hc⟩:=HB.out.2 k (by rw[HL.out];exact hlt)
   have hc':wr.cell? ⟨b,off+k,none⟩=some (.int .u8 (m.getD k 0)):=(World.cell?_of_block (hg.out.block b hbl (by intro h;injection h with h;exact HA.out (by omega) b off rfl h))).trans hc
   clear hc
   obtain⟨c0,c1⟩:=HB.out.1.at_ k
   have hT:=take_snoc m k (by rw[HL.out];exact hlt)
   obtain⟨hAll,hB⟩:=hr.out
   generalize hX:l++m.take k=X at*
   have HN:=Lib.hid (show l++m.take (k+1)=X++ [m.getD k 0]by rw[hT,←List.append_assoc,hX])
   clear hT hX
   generalize m.getD k 0=c at*
   obtain⟨z,hz⟩: ∃z,(X.length:Int)%256=z:=⟨_,rfl⟩
   rw[hz]at hB
   have z0:0≤z:=by omega
   have z1:z≤255:=by omega
   have HZ:=Lib.hid hz
   clear hz
   have R:=Lib.hid hB
   have g4:=hB.cell (i:=4) rfl
   have g5:=hB.cell (i:=5) rfl
   have f4:=hB.frozen 4
   have f5:=hB.frozen 5
   clear hB
   have hsh:(8*(z%8)).toNat=8*(X.length%8):=by have:=HZ.out;omega
   have hor:=or_top X c hAll c0 c1
   rw[show IntKind.u64.wrap c=c by rw[IntKind.wrap_u64];omega,←hsh]at hor
   have HAll:=Lib.hid (hAll.app (show AllB [c]from fun n hn=>by simp at hn;subst hn;exact⟨c0,c1⟩))
   obtain⟨V,hV⟩: ∃V,left8 X+c*256^(X.length%8)=V:=⟨_,rfl⟩
   rw[hV]at hor
   have HV:=Lib.hid hV
   have HQ:=Lib.hid (quadAt_ok (idL K) X (X.length/8))
   clear hsh hV hAll
   by_cases h7:X.length%8=7
   ·have ht1:((z+1)%8==0)=true:=by have:=HZ.out;simp;omega
    have ht2:((z+1)%256%8==0)=true:=by have:=HZ.out;simp;omega
    have HM:=Lib.hid (more_full (idL K) X c h7)
    clear h7
    go_wp2
    go_region
    go_wp2
    have R2:Blk ((wr.setCell ⟨g,4,none⟩ (.int .u64 V)).setCell ⟨g,5,none⟩ (.int .u8 ((z+1)%256))).drew g _ _:=((R.out.set_ 4 _).set_ 5 _).drew
    have G2:w.grownBy ((wr.setCell ⟨g,4,none⟩ (.int .u64 V)).setCell ⟨g,5,none⟩ (.int .u8 ((z+1)%256))).drew (some g):=grown_drew (grown_set (grown_set hg.out _ _) _ _)
    simp only[List.set_cons_succ,List.set_cons_zero]at R2
    generalize ((wr.setCell ⟨g,4,none⟩ (.int .u64 V)).setCell ⟨g,5,none⟩ (.int .u8 ((z+1)%256))).drew=w2 at R2 G2⊢
    clear g4 g5 f4 f5
    generalize quadAt (idL K) X (X.length/8)=F at*
    have HP:=Lib.hid fun w=>qplus_q F V w HQ.out
    have e0:=R2.cell (i:=0) rfl
    have e1:=R2.cell (i:=1) rfl
    have e2:=R2.cell (i:=2) rfl
    have e3:=R2.cell (i:=3) rfl
    have e4:=R2.cell (i:=4) rfl
    have RR:=Lib.hid R2
    have hz2:=R2.lt
    clear R2
    go_region_with (go_at_call 222;(with_reducible refine(HP.out _).mono ?_);rintro e w3 ⟨rfl,hb3⟩;have R3:=Lib.hid (RR.out.drew.below hb3 hz2);have a0:=R3.out.cell (i:=0) rfl;have a1:=R3.out.cell (i:=1) rfl;have a2:=R3.out.cell (i:=2) rfl;have a3:=R3.out.cell (i:=3) rfl;have a4:=R3.out.cell (i:=4) rfl;have b0:=R3.out.frozen 0;have b1:=R3.out.frozen 1;have b2:=R3.out.frozen 2;have b3:=R3.out.frozen 3;have b4:=R3.out.frozen 4)
    all_goals
     go_wp2
     go_roundw
     case rel=>
      refine⟨k+1,by omega,by go_num,?_,?_⟩
      ·rw[HN.out]
       refine Lib.hid ⟨HAll.out,?_⟩
       rw[HM.out.1,HM.out.2,HV.out,show(((X++ [c]).length:Nat):Int)%256=(z+1)%256 by have:=HZ.out;simp;omega]
       exact five_sets R3.out _ _ _ _ _
      ·exact Lib.hid (grown_set (grown_set (grown_set (grown_set (grown_set (grown_below (grown_drew G2) hb3) _ _) _ _) _ _) _ _) _ _)
     case measure=>simp[intOf];omega
   ·have ht1:((z+1)%8==0)=false:=by have:=HZ.out;simp;omega
    have ht2:((z+1)%256%8==0)=false:=by have:=HZ.out;simp;omega
    have HM:=Lib.hid (And.intro (more_none (idL K) X c (by omega)) (more_left X c (by omega)).2)
    clear h7
    go_wp2
    go_region
    go_wp2
    go_roundw
    case rel=>
     refine⟨k+1,by omega,by go_num,?_,?_⟩
     ·rw[HN.out]
      refine Lib.hid ⟨HAll.out,?_⟩
      rw[HM.out.1,HM.out.2,HV.out,show(((X++ [c]).length:Nat):Int)%256=(z+1)%256 by have:=HZ.out;simp;omega]
      exact two_sets R.out _ _
     ·exact Lib.hid (grown_set (grown_drew (grown_set hg.out _ _)) _ _)
    case measure=>simp[intOf];omega
  ·obtain rfl:k=len:=by omega
   have hd:decide (k<k)=false:=by simp
   have hr1:=hr.out
   rw[List.take_of_length_le (by rw[HL.out];exact Nat.le_refl _)]at hr1
   have HR:=Lib.hid hr1
   clear hr1
   go_wp2
   go_end0
   exact⟨rfl,HR.out,hg.out⟩
end Sc
namespace Sg
open Bytes8 Blk8 Hm Sb Se
def ofS (t:Bool)(key l:List Int):Int:=if t then sipS key l else lookS l
theorem rof_any (t:Bool)(K:Nat→Int)(A:Option Addr)(l:List Int)(len cap:Nat)(w:World)(hk:IdOk K)(hb:Bytes w A l)(hL:l.length=len)(hmax:len≤800000):
 Calls Tryz.prog 112 #[.bool t,idV K,.slice A len cap] w fun e w'=>e= .returned (.int .u64 (ofS t (idL K) l))∧Below w.heap.size w w':=by
 have HB:=Lib.hid hb
 cases t with
 |true=>
  have HC:=Lib.hid (rsip_any K A l len cap (w.alloc (idC 62 K)) hk (hb.below ((Below.refl _ _).alloc (Nat.le_refl _) _) (Nat.le_refl _)) hL hmax)
  clear hb
  go_enter Tryz.func112,Tryz.ntmps112
  go_wp2_with(go_at_call 165;(with_reducible refine HC.out.mono ?_);rintro e w1 ⟨rfl,hb1⟩)
  go_ret
  exact⟨rfl,((Below.refl w.heap.size w).alloc (Nat.le_refl _) _).trans (hb1.mono (by simp))⟩
 |false=>
  have HC:=Lib.hid (rlook_all A l len cap (w.alloc (idC 62 K)) (hb.below ((Below.refl _ _).alloc (Nat.le_refl _) _) (Nat.le_refl _)) hL hmax)
  clear hb
  go_enter Tryz.func112,Tryz.ntmps112
  go_wp2_with(go_at_call 166;(with_reducible refine HC.out.mono ?_);rintro e w' ⟨rfl,rfl⟩)
  go_ret
  exact⟨rfl,(Below.refl w.heap.size w).alloc (Nat.le_refl _) _⟩
end Sg
namespace Ya
open Bytes8 Own8 OwnE Hm
theorem ans_bd (t:Trio):0≤ans t∧ans t≤18446744073709551615:=b64 _ _ _
theorem lookS_bd (l:List Int):0≤lookS l∧lookS l≤18446744073709551615:=by
 unfold lookS
 split<;>exact ans_bd _
def lookN (l:List Int):Nat:=(lookS l).toNat
theorem lookN_is (l:List Int):lookS l=(lookN l:Int):=by unfold lookN;have:=lookS_bd l;omega
theorem lookN_lt (l:List Int):lookN l<2^64:=by unfold lookN;have:=lookS_bd l;omega
def xr (l:List (List Int)):Nat:=l.foldr (fun p v=>v^^^lookN p) 0
theorem xr_nil:xr []=0:=rfl
theorem xr_cons (p:List Int)(l:List (List Int)):xr (p::l)=xr l^^^lookN p:=rfl
theorem xr_lt (l:List (List Int)):xr l<2^64:=by
 induction l with
 |nil=>decide
 |cons p l ih=>rw[xr_cons];exact Nat.xor_lt_two_pow ih (lookN_lt p)
theorem xr_app (l m:List (List Int)):xr (l++m)=xr l^^^xr m:=by
 induction l with
 |nil=>simp[xr_nil]
 |cons p l ih=>rw[List.cons_append,xr_cons,xr_cons,ih,Nat.xor_assoc,Nat.xor_assoc,Nat.xor_comm (xr m)]
theorem xr_snoc (l:List (List Int))(p:List Int):xr (l++ [p])=xr l^^^lookN p:=by rw[xr_app,xr_cons,xr_nil,Nat.zero_xor]
def rowsL (P:Nat→List Int)(k:Nat):List (List Int):=(List.range k).map P
theorem rowsL_succ (P:Nat→List Int)(k:Nat):rowsL P (k+1)=rowsL P k++ [P k]:=by simp[rowsL,List.range_succ]
theorem xr_step (P:Nat→List Int)(k:Nat):xr (rowsL P (k+1))=xr (rowsL P k)^^^lookN (P k):=by rw[rowsL_succ,xr_snoc]
theorem xr_bits (P:Nat→List Int)(k:Nat):bits .xor .u64 ((xr (rowsL P k):Nat):Int) (lookS (P k))=((xr (rowsL P (k+1)):Nat):Int):=by
 rw[lookN_is,xr_step]
 exact u64_xor_nat _ _ (xr_lt _) (lookN_lt _)
end Ya
namespace Yb
end Yb
namespace Kf
open Bytes8 Blk8 Own8 OwnA
structure KeptF (F:Nat→Prop)(w w':World):Prop where
 os:w'.os=w.os
 tape:w'.tape=w.tape
 output:w'.output=w.output
 size:w.heap.size≤w'.heap.size
 block: ∀k,k<w.heap.size→ ¬F k→w'.heap[k]? =w.heap[k]?
def None' (k:Nat):Prop:=False
def One (g:Nat)(k:Nat):Prop:=k=g
theorem KeptF.refl (F:Nat→Prop)(w:World):KeptF F w w:=⟨rfl,rfl,rfl,Nat.le_refl _,fun _ _ _=>rfl⟩
theorem KeptF.trans {F G:Nat→Prop}{a b c:World}(h:KeptF F a b)(k:KeptF G b c)(hG: ∀i,i<a.heap.size→G i→F i):KeptF F a c:=
 ⟨k.os.trans h.os,k.tape.trans h.tape,k.output.trans h.output,Nat.le_trans h.size k.size,fun i hi hF=>(k.block i (Nat.lt_of_lt_of_le hi h.size) (fun hg=>hF (hG i hi hg))).trans (h.block i hi hF)⟩
theorem KeptF.mono {F G:Nat→Prop}{w w':World}(h:KeptF F w w')(hG: ∀i,F i→G i):KeptF G w w':=
 ⟨h.os,h.tape,h.output,h.size,fun i hi hg=>h.block i hi (fun hf=>hg (hG i hf))⟩
theorem KeptF.of_below {F:Nat→Prop}{w w':World}(h:Below w.heap.size w w'):KeptF F w w':=⟨h.os,h.tape,h.output,h.size,fun k hk _=>h.block k hk⟩
theorem KeptF.below {F:Nat→Prop}{B:Nat}{w w':World}(h:KeptF F w w')(hB:B≤w.heap.size)(hF: ∀k,F k→B≤k):Below B w w':=
 ⟨h.os,h.tape,h.output,h.size,fun k hk=>h.block k (by omega) (fun hf=>by have:=hF k hf;omega)⟩
theorem KeptF.alloc {F:Nat→Prop}{a w:World}(h:KeptF F a w)(o:Obj):KeptF F a (w.alloc o):=
 h.trans (G:=None') (KeptF.of_below ((Below.refl _ _).alloc (Nat.le_refl _) o)) fun _ _ h=>h.elim
theorem KeptF.drew {F:Nat→Prop}{a w:World}(h:KeptF F a w):KeptF F a w.drew:=⟨h.os,h.tape,h.output,h.size,h.block⟩
theorem KeptF.setCell {F:Nat→Prop}{a w:World}(h:KeptF F a w){p:Addr}(hp:p.block<a.heap.size→F p.block)(u:Value):KeptF F a (w.setCell p u):=
 ⟨h.os,h.tape,h.output,Nat.le_trans h.size (by simp[World.setCell]),fun k hk hF=>(Below.heap_setCell _ _ _ _ (fun e=>hF (by rw[e];exact hp (by omega)))).trans (h.block k hk hF)⟩
theorem KeptF.set1 (w:World)(g i:Nat)(u:Value):KeptF (One g) w (w.setCell ⟨g,i,none⟩ u):=(KeptF.refl (One g) w).setCell (p:=⟨g,i,none⟩) (fun _=>(rfl:g=g)) u
theorem KeptF.grown {F:Nat→Prop}{a w w':World}{row:Option Nat}(h:KeptF F a w)(hg:w.grownBy w' row)(hr: ∀k,row=some k→k<a.heap.size→F k):KeptF F a w':=
 ⟨hg.os.trans h.os,hg.tape.trans h.tape,hg.output.trans h.output,Nat.le_trans h.size hg.size,fun k hk hF=>(hg.block k (Nat.lt_of_lt_of_le hk h.size) (fun e=>hF (hr k e.symm hk))).trans (h.block k hk hF)⟩
theorem KeptF.grow {w w':World}(row:Option Nat)(hg:w.grownBy w' row):KeptF (fun k=>row=some k) w w':=(KeptF.refl _ w).grown hg fun _ h _=>h
theorem Blk.keptF {F:Nat→Prop}{w w':World}{g:Nat}{vs:List Value}{T:TypeId}(h:Blk w g vs T)(hk:KeptF F w w')(hF: ¬F g):Blk w' g vs T:=(hk.block g h.lt hF).trans h
theorem Own.keptF {F:Nat→Prop}{w w':World}{base n c:Nat}{A:Option Addr}{l:List Int}(h:Own w base A n c l)(hk:KeptF F w w')(hF: ∀g,ownB A=some g→ ¬F g):Own w' base A n c l:=by
 refine⟨h.1,h.2.1,Nat.le_trans h.2.2.1 hk.size,h.2.2.2.1,?_⟩
 rcases h.2.2.2.2 with h1|⟨k,cap,cur,h1,h2,h3,h4⟩
 ·exact .inl h1
 ·refine .inr ⟨k,cap,cur,h1,h2,?_,h4⟩
  have hk2:k<w.heap.size:=by
   rcases Nat.lt_or_ge k w.heap.size with h|h
   ·exact h
   ·rw[Array.getElem?_eq_none h]at h3;cases h3
  injection h1 with e1 e2 e3
  subst e1
  rw[hk.block k hk2 (hF k rfl)];exact h3
end Kf
namespace Yc
open Bytes8 Blk8 Own8 OwnE LeNum RefB Ob Od Rows2 Kf
def ints (f:Nat→Int)(k:Nat):List Int:=(List.range k).map f
theorem ints_succ (f:Nat→Int)(k:Nat):ints f (k+1)=ints f k++ [f k]:=by simp[ints,List.range_succ]
theorem ints_len (f:Nat→Int)(k:Nat):(ints f k).length=k:=by simp[ints]
theorem ints_nums (f:Nat→Int)(k:Nat):nums (ints f (k+1))=nums (ints f k)++lowB (f k) 8:=by rw[ints_succ,nums_snoc]
theorem nums_ints_len (f:Nat→Int)(k:Nat):(nums (ints f k)).length=8*k:=by rw[nums_len,ints_len]
theorem rnums_in (Ai:Option Addr)(n cap:Nat)(f:Nat→Int)(w:World)(hi:InInts .u64 w Ai n f)(hmax:n≤100000):
 Calls Tryz.prog 144 #[.slice Ai n cap] w fun e w'=> ∃A c,e= .returned (.slice A (8*n) c)∧Own w' w.heap.size A (8*n) c (nums (ints f n))∧Below w.heap.size w w':=by
 have HI:=Lib.hid hi
 clear hi
 go_enter Tryz.func144,Tryz.ntmps144
 go_wp2
 go_loopw [3,4] (fun s i wr=> ∃(k:Nat) (A:Option Addr) (c:Nat),k≤n∧i= .int .i64 (k:Int)∧s= .slice A (8*k) c∧Hid (Own wr w.heap.size A (8*k) c (nums (ints f k)))∧Hid (Below w.heap.size w wr)) (fun _ i _=>n-(intOf i).toNat)
 case atStart=>exact⟨0,none,0,Nat.zero_le _,rfl,rfl,Own.nil w _ (Nat.le_refl _),Below.refl _ _⟩
 case round=>
  obtain⟨k,A,c,hk,rfl,rfl,ho,hbel⟩:=hrel
  by_cases hlt2:k<n
  ·obtain⟨b,off,rfl,hb,hc,hw⟩:=(HI.out.below hbel.out) k hlt2
   obtain⟨x0,x1⟩:=bounds_u64 hw
   have HN:=Lib.hid (ints_nums f k)
   have hsz:=hbel.out.size
   generalize f k=x at*
   have HLo:=Lib.hid fun(W:World)=>rlow_at x 8 8 W x0 x1 (by decide) rfl
   go_wp2_with(first|(go_at_call 143;(with_reducible refine(HLo.out _).mono ?_);rintro e w2 ⟨A2,c2,rfl,ho2,hbel2⟩;have HO2:=Lib.hid ho2;have HB2:=Lib.hid hbel2;clear ho2 hbel2)|(at_builtin;refine wpList_append_bytes rfl (.tmp 11) (.tmp 16) rfl w.heap.size A (8*k) c (nums (ints f k)) rfl (ho.out.kept HB2.out (Nat.le_refl _)) A2 8 c2 _ rfl HO2.out.bytes (lowB_len _ _) (by omega) ?_;intro A3 c3 w3 ho3 hbel3;have HO3:=Lib.hid ho3;have HB3:=Lib.hid hbel3;clear ho3 hbel3))
   go_roundw
   case rel=>
    refine⟨k+1,A3,c3,by omega,by go_num,rfl,?_,Lib.hid ((hbel.out.trans (HB2.out.mono hsz)).trans HB3.out)⟩
    rw[HN.out]
    exact HO3
   case measure=>simp[intOf];omega
  ·obtain rfl:k=n:=by omega
   go_wp2
   go_ret
   exact⟨A,c,rfl,ho.out,hbel.out⟩
def In2 (w:World)(a:Option Addr)(n:Nat)(f g:Nat→Int):Prop:=
 ∀i,i<n→ ∃b off,a=some ⟨b,off,none⟩∧b<w.heap.size∧w.cell? ⟨b,off+i*2,none⟩=some (.int .u64 (f i))∧w.cell? ⟨b,off+i*2+1,none⟩=some (.int .u64 (g i))∧(0≤f i∧f i≤18446744073709551615)∧(0≤g i∧g i≤18446744073709551615)
theorem In2.keep {w w':World}{a:Option Addr}{n:Nat}{f g:Nat→Int}(h:In2 w a n f g)(hb:Below w.heap.size w w'):In2 w' a n f g:=fun i hi=>by
 obtain⟨b,off,e,h1,h2,h3,h4⟩:=h i hi
 exact⟨b,off,e,Nat.lt_of_lt_of_le h1 hb.size,(hb.cell (p:=⟨b,off+i*2,none⟩) h1).trans h2,(hb.cell (p:=⟨b,off+i*2+1,none⟩) h1).trans h3,h4⟩
def prs (f g:Nat→Int)(k:Nat):List Int:=(List.range k).flatMap fun i=>[f i,g i]
theorem prs_zero (f g:Nat→Int):prs f g 0=[]:=rfl
theorem prs_succ (f g:Nat→Int)(k:Nat):prs f g (k+1)=prs f g k++ [f k,g k]:=by simp[prs,List.range_succ,List.flatMap_append]
theorem prs_len (f g:Nat→Int)(k:Nat):(prs f g k).length=2*k:=by
 induction k with
 |zero=>rfl
 |succ k ih=>rw[prs_succ,List.length_append,ih];simp;omega
theorem nums_prs (f g:Nat→Int)(k:Nat):nums (prs f g (k+1))=nums (prs f g k)++nums [f k,g k]:=by rw[prs_succ,nums_app]
theorem nums_prs_len (f g:Nat→Int)(k:Nat):(nums (prs f g k)).length=16*k:=by rw[nums_len,prs_len];omega
end Yc
namespace Yp
open Bytes8 Ob
def ecode (l:List Int)(a:Nat)(k:Int)(ah ea:Nat):Int:=
 if code l a≠0 then code l a else if kindL l a≠k then 4 else if(bodyL l a).length<ah+ea∨(bodyL l a).length%ea≠0 then 5 else 0
theorem ecode_there {l:List Int}{a n:Nat}{k:Int}{ah ea:Nat}(hL:l.length=n)(h:ecode l a k ah ea=0):code l a=0∧kindL l a=k∧ah+ea≤(bodyL l a).length∧(bodyL l a).length%ea=0∧(bodyL l a).length≤n:=by
 unfold ecode at h
 have h0:code l a=0:=by
  by_cases h0:code l a=0
  ·exact h0
  ·rw[if_pos h0]at h;exact h
 rw[if_neg (by omega)]at h
 have hk:kindL l a=k:=by
  by_cases hk:kindL l a=k
  ·exact hk
  ·rw[if_pos hk]at h;omega
 rw[if_neg (by omega)]at h
 split at h
 ·omega
 ·refine⟨h0,hk,by omega,by omega,?_⟩
  unfold bodyL
  simp
  omega
theorem body_all {l:List Int}{a:Nat}(h:AllB l):AllB (bodyL l a):=(h.drop _).take _
end Yp
namespace Oj
open Bytes8 Blk8 Own8 OwnE Ob Oc Od Oe
theorem six_I {x0 x1 x2 x3 x4 x5:Int}(h0:0≤x0∧x0≤18446744073709551615)(h1:0≤x1∧x1≤18446744073709551615)(h2:0≤x2∧x2≤18446744073709551615)(h3:0≤x3∧x3≤18446744073709551615)(h4:0≤x4∧x4≤18446744073709551615)(h5:0≤x5∧x5≤18446744073709551615):I64 [x0,x1,x2,x3,x4,x5]:=by
 intro v hv
 simp at hv
 rcases hv with rfl|rfl|rfl|rfl|rfl|rfl<;>assumption
theorem three_I {x0 x1 x2:Int}(h0:0≤x0∧x0≤18446744073709551615)(h1:0≤x1∧x1≤18446744073709551615)(h2:0≤x2∧x2≤18446744073709551615):I64 [x0,x1,x2]:=by
 intro v hv
 simp at hv
 rcases hv with rfl|rfl|rfl<;>assumption
theorem rnums_new (l:List Int)(n m:Nat)(w:World)(g:Nat)(hg:w.heap.size=g)(hv:I64 l)(hn:l.length=n)(hm:8*n=m)(hmax:n≤1000):
 Calls Tryz.prog 144 #[.slice (some ⟨g,0,none⟩) n n] (w.alloc (.cells (l.map (Value.int .u64)).toArray 40)) fun e w'=> ∃A c,e= .returned (.slice A m c)∧Own w' w.heap.size A m c (nums l)∧Below w.heap.size w w':=by
 subst hg hm
 have h:=rnums_any w.heap.size n n l 40 _ (Blk.new w _ _) hv hn hmax
 exact h.mono fun e w' ⟨A,c,h1,h2,h3⟩=>⟨A,c,h1,Own.base h2 (by simp),((Below.refl w.heap.size w).alloc (Nat.le_refl _) _).trans (h3.mono (by simp))⟩
theorem rnums6 (x0 x1 x2 x3 x4 x5:Int)(w:World)(g:Nat)(hg:w.heap.size=g)(hv:I64 [x0,x1,x2,x3,x4,x5]):
 Calls Tryz.prog 144 #[.slice (some ⟨g,0,none⟩) 6 6] (w.alloc (.cells #[.int .u64 x0,.int .u64 x1,.int .u64 x2,.int .u64 x3,.int .u64 x4,.int .u64 x5] 40)) fun e w'=> ∃A c,e= .returned (.slice A 48 c)∧Own w' w.heap.size A 48 c (nums [x0,x1,x2,x3,x4,x5])∧Below w.heap.size w w':=
 rnums_new [x0,x1,x2,x3,x4,x5] 6 48 w g hg hv rfl rfl (by decide)
theorem rnums3 (x0 x1 x2:Int)(w:World)(g:Nat)(hg:w.heap.size=g)(hv:I64 [x0,x1,x2]):
 Calls Tryz.prog 144 #[.slice (some ⟨g,0,none⟩) 3 3] (w.alloc (.cells #[.int .u64 x0,.int .u64 x1,.int .u64 x2] 40)) fun e w'=> ∃A c,e= .returned (.slice A 24 c)∧Own w' w.heap.size A 24 c (nums [x0,x1,x2])∧Below w.heap.size w w':=
 rnums_new [x0,x1,x2] 3 24 w g hg hv rfl rfl (by decide)
theorem rnumsd6 (x0 x1 x2 x3 x4 x5:Int)(w:World)(g:Nat)(hg:w.heap.size=g)(hv:I64 [x0,x1,x2,x3,x4,x5]):
 Calls Tryz.prog 144 #[.slice (some ⟨g,0,none⟩) 6 6] (w.alloc (.cells #[.int .u64 x0,.int .u64 x1,.int .u64 x2,.int .u64 x3,.int .u64 x4,.int .u64 x5] 40)).drew fun e w'=> ∃A c,e= .returned (.slice A 48 c)∧Own w' w.heap.size A 48 c (nums [x0,x1,x2,x3,x4,x5])∧Below w.heap.size w w':=
 (rnums6 x0 x1 x2 x3 x4 x5 w.drew g hg hv).mono fun e w' ⟨A,c,h1,h2,h3⟩=>⟨A,c,h1,h2,(Below.refl w.heap.size w).drew.trans h3⟩
theorem rnumsd3 (x0 x1 x2:Int)(w:World)(g:Nat)(hg:w.heap.size=g)(hv:I64 [x0,x1,x2]):
 Calls Tryz.prog 144 #[.slice (some ⟨g,0,none⟩) 3 3] (w.alloc (.cells #[.int .u64 x0,.int .u64 x1,.int .u64 x2] 40)).drew fun e w'=> ∃A c,e= .returned (.slice A 24 c)∧Own w' w.heap.size A 24 c (nums [x0,x1,x2])∧Below w.heap.size w w':=
 (rnums3 x0 x1 x2 w.drew g hg hv).mono fun e w' ⟨A,c,h1,h2,h3⟩=>⟨A,c,h1,h2,(Below.refl w.heap.size w).drew.trans h3⟩
abbrev dataV (x0 x1 x2 x3 x4 x5:Int)(A:Option Addr)(n c:Nat):Value:= .agg #[.int .u64 x0,.int .u64 x1,.int .u64 x2,.int .u64 x3,.int .u64 x4,.int .u64 x5,.slice A n c]
abbrev fieldV (x0 x1 x2:Int)(A:Option Addr)(n c:Nat):Value:= .agg #[.int .u64 x0,.int .u64 x1,.int .u64 x2,.slice A n c]
theorem rputData_any (x0 x1 x2 x3 x4 x5:Int)(A:Option Addr)(l:List Int)(n cap:Nat)(w:World)(hb:Bytes w A l)(hL:l.length=n)(hn:n≤900000)(hv:I64 [x0,x1,x2,x3,x4,x5]):
 Calls Tryz.prog 161 #[dataV x0 x1 x2 x3 x4 x5 A n cap] w (Owned (objB 1 (nums [x0,x1,x2,x3,x4,x5]++l)) (16+(48+n)+padN (48+n)) w):=by
 have HN:=Lib.hid fun(W:World) (g:Nat) (hg:W.heap.size=g)=>rnumsd6 x0 x1 x2 x3 x4 x5 W g hg hv
 have HL:=Lib.hid hL
 have HB:=Lib.hid hb
 have HP:=Lib.hid fun(A2:Option Addr) (c2:Nat) (W:World) (h:Bytes W A2 (nums [x0,x1,x2,x3,x4,x5]++l))=>rput_yes 1 A2 (nums [x0,x1,x2,x3,x4,x5]++l) (48+n) c2 W (by decide) h (by rw[List.length_append,nums_len,hL];rfl) (by omega)
 unfold Owned at HP
 have b0:=Lib.hid ((Below.refl w.heap.size w).alloc (Nat.le_refl _) (.cells #[.int .u64 x0,.int .u64 x1,.int .u64 x2,.int .u64 x3,.int .u64 x4,.int .u64 x5,.slice A n cap] 149))
 have R0:=Lib.hid (Blk.new w [.int .u64 x0,.int .u64 x1,.int .u64 x2,.int .u64 x3,.int .u64 x4,.int .u64 x5,.slice A n cap] 149)
 have u0:=R0.out.drew.cell (i:=0) rfl;have u1:=R0.out.drew.cell (i:=1) rfl;have u2:=R0.out.drew.cell (i:=2) rfl;have u3:=R0.out.drew.cell (i:=3) rfl;have u4:=R0.out.drew.cell (i:=4) rfl;have u5:=R0.out.drew.cell (i:=5) rfl;have u6:=R0.out.drew.cell (i:=6) rfl
 generalize nums [x0,x1,x2,x3,x4,x5]=N at*
 generalize padN (48+n)=p at*
 clear hb hL hv
 go_enter Tryz.func161,Tryz.ntmps161
 go_wp2
 go_region_held3 (fun w'=>w'.cell? ⟨w.heap.size,0,none⟩=some (.int .u64 x0)∧w'.cell? ⟨w.heap.size,1,none⟩=some (.int .u64 x1)∧w'.cell? ⟨w.heap.size,2,none⟩=some (.int .u64 x2)∧w'.cell? ⟨w.heap.size,3,none⟩=some (.int .u64 x3)∧w'.cell? ⟨w.heap.size,4,none⟩=some (.int .u64 x4)∧w'.cell? ⟨w.heap.size,5,none⟩=some (.int .u64 x5)∧w'.cell? ⟨w.heap.size,6,none⟩=some (.slice A n cap)) (first|(with_reducible exact⟨u0,u1,u2,u3,u4,u5,u6⟩)|(with_reducible exact⟨q0,q1,q2,q3,q4,q5,q6⟩)|(with_reducible exact⟨s0,s1,s2,s3,s4,s5,s6⟩)|(with_reducible exact⟨t0,t1,t2,t3,t4,t5,t6⟩)|go_keep) (first
  |(refine step_append_bytes (o:=⟨some 19,_,_,_,_,_⟩) rfl (.tmp 16) (.tmp 18) rfl _ _ 48 _ _ rfl HO2.out A n cap l rfl (HB.out.below (b0.out.trans (HB2.out.mono b0.out.size)) (Nat.le_refl _)) HL.out (by omega) ?_;intro A3 c3 w3 ho3 hbel3;have HO3:=Lib.hid ho3;have HB3:=Lib.hid hbel3;have R3:=Lib.hid (R2.out.below hbel3 R0.out.lt);have s0:=R3.out.cell (i:=0) rfl;have s1:=R3.out.cell (i:=1) rfl;have s2:=R3.out.cell (i:=2) rfl;have s3:=R3.out.cell (i:=3) rfl;have s4:=R3.out.cell (i:=4) rfl;have s5:=R3.out.cell (i:=5) rfl;have s6:=R3.out.cell (i:=6) rfl;clear ho3 hbel3)
  |(go_at_call 144;(with_reducible refine(HN.out _ _ (by simp)).mono ?_);rintro e w2 ⟨A2,c2,rfl,ho2,hbel2⟩;have HO2:=Lib.hid ho2;have HB2:=Lib.hid hbel2;have R2:=Lib.hid (R0.out.below hbel2 R0.out.lt);have q0:=R2.out.cell (i:=0) rfl;have q1:=R2.out.cell (i:=1) rfl;have q2:=R2.out.cell (i:=2) rfl;have q3:=R2.out.cell (i:=3) rfl;have q4:=R2.out.cell (i:=4) rfl;have q5:=R2.out.cell (i:=5) rfl;have q6:=R2.out.cell (i:=6) rfl;clear ho2 hbel2)
  |(go_at_call 167;(with_reducible refine(HP.out _ _ _ HO3.out.bytes).mono ?_);rintro e w4 ⟨A4,c4,rfl,ho4,hbel4⟩;have HO4:=Lib.hid ho4;have HB4:=Lib.hid hbel4;have R4:=Lib.hid (R3.out.below hbel4 R3.out.lt);have t0:=R4.out.cell (i:=0) rfl;have t1:=R4.out.cell (i:=1) rfl;have t2:=R4.out.cell (i:=2) rfl;have t3:=R4.out.cell (i:=3) rfl;have t4:=R4.out.cell (i:=4) rfl;have t5:=R4.out.cell (i:=5) rfl;have t6:=R4.out.cell (i:=6) rfl;clear ho4 hbel4))
 go_wp2
 go_ret
 have hb23:=(b0.out.trans (HB2.out.mono b0.out.size)).trans (HB3.out.mono b0.out.size)
 exact⟨A4,c4,rfl,Own.base HO4.out hb23.size,hb23.trans (HB4.out.mono hb23.size)⟩
theorem rputField_any (x0 x1 x2:Int)(A:Option Addr)(l:List Int)(n cap:Nat)(w:World)(hb:Bytes w A l)(hL:l.length=n)(hn:n≤900000)(hv:I64 [x0,x1,x2]):
 Calls Tryz.prog 198 #[fieldV x0 x1 x2 A n cap] w (Owned (objB 2 (nums [x0,x1,x2]++l)) (16+(24+n)+padN (24+n)) w):=by
 have HN:=Lib.hid fun(W:World) (g:Nat) (hg:W.heap.size=g)=>rnumsd3 x0 x1 x2 W g hg hv
 have HL:=Lib.hid hL
 have HB:=Lib.hid hb
 have HP:=Lib.hid fun(A2:Option Addr) (c2:Nat) (W:World) (h:Bytes W A2 (nums [x0,x1,x2]++l))=>rput_yes 2 A2 (nums [x0,x1,x2]++l) (24+n) c2 W (by decide) h (by rw[List.length_append,nums_len,hL];rfl) (by omega)
 unfold Owned at HP
 have b0:=Lib.hid ((Below.refl w.heap.size w).alloc (Nat.le_refl _) (.cells #[.int .u64 x0,.int .u64 x1,.int .u64 x2,.slice A n cap] 152))
 have R0:=Lib.hid (Blk.new w [.int .u64 x0,.int .u64 x1,.int .u64 x2,.slice A n cap] 152)
 have u0:=R0.out.drew.cell (i:=0) rfl;have u1:=R0.out.drew.cell (i:=1) rfl;have u2:=R0.out.drew.cell (i:=2) rfl;have u3:=R0.out.drew.cell (i:=3) rfl
 generalize nums [x0,x1,x2]=N at*
 generalize padN (24+n)=p at*
 clear hb hL hv
 go_enter Tryz.func198,Tryz.ntmps198
 go_wp2
 go_region_held3 (fun w'=>w'.cell? ⟨w.heap.size,0,none⟩=some (.int .u64 x0)∧w'.cell? ⟨w.heap.size,1,none⟩=some (.int .u64 x1)∧w'.cell? ⟨w.heap.size,2,none⟩=some (.int .u64 x2)∧w'.cell? ⟨w.heap.size,3,none⟩=some (.slice A n cap)) (first|(with_reducible exact⟨u0,u1,u2,u3⟩)|(with_reducible exact⟨q0,q1,q2,q3⟩)|(with_reducible exact⟨s0,s1,s2,s3⟩)|(with_reducible exact⟨t0,t1,t2,t3⟩)|go_keep) (first
  |(refine step_append_bytes (o:=⟨some 13,_,_,_,_,_⟩) rfl (.tmp 10) (.tmp 12) rfl _ _ 24 _ _ rfl HO2.out A n cap l rfl (HB.out.below (b0.out.trans (HB2.out.mono b0.out.size)) (Nat.le_refl _)) HL.out (by omega) ?_;intro A3 c3 w3 ho3 hbel3;have HO3:=Lib.hid ho3;have HB3:=Lib.hid hbel3;have R3:=Lib.hid (R2.out.below hbel3 R0.out.lt);have s0:=R3.out.cell (i:=0) rfl;have s1:=R3.out.cell (i:=1) rfl;have s2:=R3.out.cell (i:=2) rfl;have s3:=R3.out.cell (i:=3) rfl;clear ho3 hbel3)
  |(go_at_call 144;(with_reducible refine(HN.out _ _ (by simp)).mono ?_);rintro e w2 ⟨A2,c2,rfl,ho2,hbel2⟩;have HO2:=Lib.hid ho2;have HB2:=Lib.hid hbel2;have R2:=Lib.hid (R0.out.below hbel2 R0.out.lt);have q0:=R2.out.cell (i:=0) rfl;have q1:=R2.out.cell (i:=1) rfl;have q2:=R2.out.cell (i:=2) rfl;have q3:=R2.out.cell (i:=3) rfl;clear ho2 hbel2)
  |(go_at_call 167;(with_reducible refine(HP.out _ _ _ HO3.out.bytes).mono ?_);rintro e w4 ⟨A4,c4,rfl,ho4,hbel4⟩;have HO4:=Lib.hid ho4;have HB4:=Lib.hid hbel4;have R4:=Lib.hid (R3.out.below hbel4 R3.out.lt);have t0:=R4.out.cell (i:=0) rfl;have t1:=R4.out.cell (i:=1) rfl;have t2:=R4.out.cell (i:=2) rfl;have t3:=R4.out.cell (i:=3) rfl;clear ho4 hbel4))
 go_wp2
 go_ret
 have hb23:=(b0.out.trans (HB2.out.mono b0.out.size)).trans (HB3.out.mono b0.out.size)
 exact⟨A4,c4,rfl,Own.base HO4.out hb23.size,hb23.trans (HB4.out.mono hb23.size)⟩
end Oj
end Go.Proofs.YtjecmgkmcfkcjaaGreat
