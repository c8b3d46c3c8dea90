/-
  Texts beneath the proof.
-/
import Derived.Test.YtiddkgcafpaekaaGreatJq26
set_option linter.unusedVariables false
set_option linter.unusedSimpArgs false
set_option maxRecDepth 100000
set_option maxHeartbeats 4000000
open Go.ChangeShapes Go.WideShapes Go.ChangeAt Go.RowKit
namespace Go.Proofs.YtiddkgcafpaekaaGreat
namespace Nr
open Bytes8 Blk8 Own8 OwnE Fa Fb Rows2 Seq8 SeqP Pr8 Ps8 Pl8 Pr2 Pq8 Mi Nq Gb Np
theorem pairs_most (most:Int)(hm:1≤most∧most≤16)(gq:Nat)(a:Option Addr)(len cap:Nat)(f:Nat→Int)(k:Nat)(w:World)(h:SeqIn w gq a len cap f k):
 Calls Tryz.prog 137 #[.pointer (some ⟨gq,0,none⟩),.int .i64 most] w (MadeP gq a len cap f w):=by
 have hgq:=h.1.lt
 have S0:=yH h
 clear h
 unfold MadeP
 go_enter Tryz.func137,Tryz.ntmps137
 go_wp2_with(go_at_call 76;(with_reducible refine(seqN_any gq a len cap f k most w hm.1 (by omega) S0.out).mono ?_);rintro e w1 ⟨r,k1,rfl,hr,hS,hK⟩;have S1:=yH hS;have K1:=yH hK;clear hS hK)
 go_loopw [5,6] (fun s i wr=> ∃(j n:Nat) (A:Option Addr) (c k2:Nat) (L:List PR),i= .int .i64 (j:Int)∧s= .slice A n c∧n+j=r+1∧n≤16∧j≤16∧Hid (OwnP wr w.heap.size A n c L)∧Hid (∀p∈L,okR p)∧Hid (SeqIn wr gq a len cap f k2)∧Hid (KeptB w.heap.size gq w wr)) (fun _ i _=>(intOf i).toNat)
 case atStart=>exact⟨r+1,0,none,0,k1,[],by go_num,rfl,by omega,by omega,by omega,yH (OwnP.nil w1 _ K1.out.size),yH (fun p hp=>by cases hp),S1,K1⟩
 case round=>
  obtain⟨j,n,A,c,k2,L,rfl,rfl,hnj,hn,hj,hO,hR,hS,hK⟩:=hrel
  cases j with
  |zero=>
   have hlen:=hO.out.2.1
   go_wp2
   go_ret
   exact⟨L,A,c,k2,by rw[hlen];rfl,by rw[hlen];exact hO.out,⟨hR.out,by omega,by omega⟩,hS.out,hK.out⟩
  |succ j=>
   have e:((j+1:Nat):Int)=(j:Int)+1:=by omega
   have hpos:(0:Int)<(j:Int)+1:=by omega
   rw[e]
   go_wp2_with(first
    |(go_at_call 178;(with_reducible refine(pair_any gq a len cap f k2 wr hS.out).mono ?_);rintro e w2 ⟨p1,p2,k3,rfl,hok,hS2,hK2⟩;have HOk:=yH hok;have S2:=yH hS2;have O2:=yH (OwnP.keptB hO.out hK2 hgq);have K2:=yH (hK.out.trans (hK2.mono hK.out.size));dsimp only[pv];clear hok hS2 hK2)
    |(at_builtin;refine wpList_append_elt pairElt rfl (.tmp 15) (.tmp 18) rfl w.heap.size A n c (cellsP L) rfl (O2.out.2.2.alloc (.cells #[.string (T p1),.string (T p2)] 77)) ⟨w2.heap.size,0,none⟩ 1 1 [.string (T p1),.string (T p2)] rfl rfl (Blk.news (Blk.new w2 [.string (T p1),.string (T p2)] 77)) (by intro u hu;simp at hu;rcases hu with rfl|rfl<;>rfl) (by omega) (by omega) ?_;intro A2 c2 w3 ho2 hbel2;have HO4:=yH ho2;have K4:=yH ((K2.out.alloc K2.out.size (.cells #[.string (T p1),.string (T p2)] 77)).trans (KeptB.of_below hbel2));have S4:=yH ((Blk.alloc S2.out.1 (.cells #[.string (T p1),.string (T p2)] 77)).below hbel2 hgq);clear ho2 hbel2))
   go_round
   case rel=>
    refine⟨j,n+1,A2,c2,k3,L++ [(p1,p2)],rfl,rfl,by omega,by omega,by omega,yH ⟨?_,?_,?_⟩,yH ?_,yH ⟨S4.out,ints_keptB S0.out.2.1 K4.out S0.out.2.2.1,S2.out.2.2⟩,K4⟩
    ·intro q hq
     rcases List.mem_append.1 hq with h|h
     ·exact hO.out.1 q h
     ·simp at h;subst h;exact okR_okP HOk.out
    ·rw[List.length_append,hO.out.2.1];rfl
    ·rw[cellsP_app];exact HO4.out
    ·intro q hq
     rcases List.mem_append.1 hq with h|h
     ·exact hR.out q h
     ·simp at h;subst h;exact HOk.out
   case measure=>simp[intOf]<;>omega
theorem listL_le {raw:List PR}(h:raw.length≤16):(listL raw).length≤16:=by
 by_cases he:listE raw=0
 ·have hL:listL raw=sortP (ded raw):=if_pos he
  unfold listE at he
  split at he
  ·cases he
  ·split at he
   ·split at he
    ·next h16=>rw[hL,sortP_len];exact h16
    ·cases he
   ·next hc=>exact absurd he hc
 ·have hL:listL raw=[]:=if_neg he
  rw[hL]
  exact Nat.zero_le _
abbrev recL (s r m:Int)(K:Nat→Int)(F:Value):List Value:=[.int .u64 s,.int .u64 r,.int .u64 m,.int .u8 (K 0),.int .u8 (K 1),.int .u8 (K 2),.int .u8 (K 3),.int .u8 (K 4),.int .u8 (K 5),.int .u8 (K 6),.int .u8 (K 7),.int .u8 (K 8),.int .u8 (K 9),.int .u8 (K 10),.int .u8 (K 11),.int .u8 (K 12),.int .u8 (K 13),.int .u8 (K 14),.int .u8 (K 15),F]
abbrev zR:Array Value:= #[.int .u64 0,.int .u64 0,.int .u64 0,.int .u8 0,.int .u8 0,.int .u8 0,.int .u8 0,.int .u8 0,.int .u8 0,.int .u8 0,.int .u8 0,.int .u8 0,.int .u8 0,.int .u8 0,.int .u8 0,.int .u8 0,.int .u8 0,.int .u8 0,.int .u8 0,.slice none 0 0]
theorem recInfo (s r m:Int)(K:Nat→Int)(F:Value):(Tryz.prog.info? 74).map (·.size)=some (recL s r m K F).toArray.size:=by kernel_rfl
def Recorded (gq:Nat)(a:Option Addr)(len cap:Nat)(f:Nat→Int)(seq:Int)(w:World)(e:Ending)(w':World):Prop:=
 ∃(L:List PR) (A:Option Addr) (n c k':Nat) (r m:Nat) (x:Int),e= .returned (.agg (recL seq r m (mkId x) (.slice A n c)).toArray)∧L.length=n∧n≤16∧Prs w' A L∧r<40∧m<9∧(0≤x∧x<5)∧SeqIn w' gq a len cap f k'∧KeptB w.heap.size gq w w'∧(∀b off,A=some ⟨b,off,none⟩→0<n→w.heap.size≤b)
attribute [local irreducible] wpList Code.wp
theorem record_any (gq:Nat)(a:Option Addr)(len cap:Nat)(f:Nat→Int)(k:Nat)(seq:Int)(w:World)(h:SeqIn w gq a len cap f k):
 Calls Tryz.prog 78 #[.pointer (some ⟨gq,0,none⟩),.int .u64 seq] w (Recorded gq a len cap f seq w):=by
 obtain⟨s,hs⟩: ∃x,w.heap.size=x:=⟨_,rfl⟩
 have hgs:gq<s:=hs▸h.1.lt
 have Z0:=yH (show(w.alloc (.cells zR 74)).heap[s]? =some (.cells zR 74 (0,0))from hs▸heap_alloc_new w _)
 have s0:=yH (show s<(w.alloc (.cells zR 74)).heap.size by simp[hs])
 have Q0:=yH (h.below ((Below.refl _ _).alloc (yR _) (.cells zR 74)))
 have K0:=yH (show KeptB s gq w (w.alloc (.cells zR 74))from(KeptB.refl s gq w).alloc (by omega) _)
 have HS:=yH fun(b:Int) (h1:1≤b) (h2:b≤1000000) (j:Nat) (W:World) (hW:SeqIn W gq a len cap f j)=>seqN_at gq a len cap f j b W h1 h2 hW
 have HP:=yH fun(j:Nat) (W:World) (hW:SeqIn W gq a len cap f j)=>pairs_most 4 (by decide) gq a len cap f j W hW
 unfold MadeP at HP
 have HD:=yH fun(n:Int) (W:World)=>mid_any n W
 have W9:=yH (show 0<len→ ∀b off,a=some ⟨b,off,none⟩→b<s from fun h0 b off e=>by obtain⟨b',off',e',h1,_⟩:=h.2.1 0 h0;rw[e]at e';injection e' with e';injection e' with e';omega)
 clear h
 unfold Recorded
 rw[hs]
 go_enter Tryz.func78,Tryz.ntmps78
 go_upto_region 1 with fail
 rw[hs]at*
 clear hs
 generalize w.alloc (.cells zR 74)=w0 at*
 go_upto_region 2 with(first
  |(go_at_call 137;(with_reducible refine(HP.out _ _ Q0.out).mono ?_);rintro e w1 ⟨L0,A0,c0,k1,rfl,ho1,hr1,hq1,hk1⟩;have HO1:=yH ho1;have HR1:=yH hr1;have Q1:=yH hq1;have K1:=yH (K0.out.trans (hk1.mono (Nat.le_of_lt s0.out)));have Z1:=yH ((hk1.block s s0.out (Nat.ne_of_gt hgs)).trans Z0.out);have s1:=yH (yL s0.out hk1.size);have HLi:=yH (rlist_new A0 L0 L0.length c0 w1 ho1.prs rfl (by have:=hr1.2.2;omega));clear ho1 hr1 hq1 hk1;unfold ListedN at HLi)
  |(go_at_call 96;(refine HLi.out.mono ?_);rintro e w2 ⟨A2,c2,rfl,hp2,hb2,hn2⟩;have HP2:=yH hp2;have HN2:=yH hn2;have Q2:=yH (Q1.out.below hb2);have K2:=yH (K1.out.trans (KeptB.of_below (hb2.mono (Nat.le_of_lt s1.out))));have Z2:=yH ((hb2.block s s1.out).trans Z1.out);have s2:=yH (yL s1.out hb2.size);clear hp2 hb2 hn2)
  |fail)
 have HL16:=yH (listL_le HR1.out.2.2)
 have hn1:=yH (Nat.le_of_lt s1.out)
 clear HLi
 generalize listE L0=le0 at*
 generalize listL L0=L at*
 obtain⟨n,hn⟩: ∃x,L.length=x:=⟨_,rfl⟩
 have HNn:=yH hn
 rw[hn]at HL16 HN2⊢
 clear hn
 have hzz: ∀(r m:Int) (K:Nat→Int),zR.size=(recL seq r m K (.slice A2 n c2)).toArray.size:=fun _ _ _=>rfl
 go_wp2_with(first
  |(go_at_call 76;(with_reducible refine(HS.out 40 (by decide) (by decide) _ _ Q2.out).mono ?_);rintro e w3 ⟨r1,rfl,hr1,q3,k3⟩;have Q3:=yH q3;have K3:=yH (K2.out.trans (k3.mono (Nat.le_of_lt s2.out)));have Z3:=yH ((k3.block s s2.out (Nat.ne_of_gt hgs)).trans Z2.out);have s3:=yH (yL s2.out k3.size);have P3:=yH (show KeptB w2.heap.size gq w2 w3 from k3);clear q3 k3)
  |(go_at_call 76;(with_reducible refine(HS.out 9 (by decide) (by decide) _ _ Q3.out).mono ?_);rintro e w4 ⟨r2,rfl,hr2,q4,k4⟩;have Q4:=yH q4;have K4:=yH (K3.out.trans (k4.mono (Nat.le_of_lt s3.out)));have Z4:=yH ((k4.block s s3.out (Nat.ne_of_gt hgs)).trans Z3.out);have s4:=yH (yL s3.out k4.size);have P4:=yH (show KeptB w2.heap.size gq w2 w4 from P3.out.trans (k4.mono P3.out.size));clear q4 k4)
  |(go_at_call 76;(with_reducible refine(HS.out 3 (by decide) (by decide) _ _ Q4.out).mono ?_);rintro e w5 ⟨r3,rfl,hr3,q5,k5⟩;have Q5:=yH q5;have K5:=yH (K4.out.trans (k5.mono (Nat.le_of_lt s4.out)));have Z5:=yH ((k5.block s s4.out (Nat.ne_of_gt hgs)).trans Z4.out);have s5:=yH (yL s4.out k5.size);have P5:=yH (show KeptB w2.heap.size gq w2 w5 from P4.out.trans (k5.mono P4.out.size));clear q5 k5)
  |(go_at_call 40;(with_reducible refine(HD.out (r3:Int) w5).mono ?_);rintro e w6 ⟨x1,hx1,rfl,k6⟩;have Q6:=yH (Q5.out.below k6);have K6:=yH (K5.out.trans (KeptB.of_below (k6.mono (Nat.le_of_lt s5.out))));have Z6:=yH ((k6.block s s5.out).trans Z5.out);have s6:=yH (yL s5.out k6.size);have KP:=yH (show KeptB w2.heap.size gq w2 w6 from P5.out.trans (KeptB.of_below (k6.mono P5.out.size)));clear k6)
  |((with_reducible apply at_slot 24);refine wpList_build_as rfl 74 _ rfl (recL seq (r1:Int) (r2:Int) (mkId x1) (.slice A2 n c2)).toArray (by kernel_rfl) ?_)
  |((with_reducible apply at_store (.tmp 4) (.tmp 24));refine wpList_store_row rfl 74 (.tmp 4) (.tmp 24) rfl s (recL seq (r1:Int) (r2:Int) (mkId x1) (.slice A2 n c2)).toArray rfl rfl 74 zR Z6.out (recInfo _ _ _ _ _) rfl (by simp[Value.oneCell']) ?_)
  |fail)
 refine bodyPost_ret (v:= .agg (recL seq (r1:Int) (r2:Int) (mkId x1) (.slice A2 n c2)).toArray) (by exact results_cell_row Tryz.results78 _ _ s 74 _ (0,0) _ rfl (setRow_heap _ s _ _ _ (0,0) Z6.out) Tryz.underlying74 rfl (recInfo _ _ _ _ _)) rfl ?_
 have b9:=yH (show Below s w6 (w6.setRow s (recL seq (r1:Int) (r2:Int) (mkId x1) (.slice A2 n c2)).toArray)from below_setRow (Below.refl _ _) (yR _) _)
 refine⟨L,A2,n,c2,_,r1,r2,x1,rfl,HNn.out,HL16.out,?_,by omega,by omega,hx1,seq_low Q6.out b9.out hgs W9.out,K6.out.trans (KeptB.of_below b9.out),fun b off e h0=>Nat.le_trans hn1.out (HN2.out b off e h0)⟩
 have hsz:w2.heap.size≤(w6.setRow s (recL seq (r1:Int) (r2:Int) (mkId x1) (.slice A2 n c2)).toArray).heap.size:=Nat.le_trans KP.out.size b9.out.size
 rcases Nat.eq_zero_or_pos n with h0|h0
 ·rw[List.eq_nil_of_length_eq_zero (HNn.out.trans h0)]
  exact Prs.nil _ _
 refine HP2.out.keptB hsz fun b off e hb=>?_
 have hb1:=HN2.out b off e h0
 have hs1:=s1.out
 rw[setRow_other _ _ _ _ (by omega)]
 exact KP.out.block b hb (by omega)
end Nr
end Go.Proofs.YtiddkgcafpaekaaGreat
