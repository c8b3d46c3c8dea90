/-
  Texts beneath.
-/
import Derived.Test.YteaikbodkgjkdaaGreatQl26
set_option linter.unusedVariables false
set_option linter.unusedSimpArgs false
set_option maxRecDepth 100000
set_option maxHeartbeats 4000000
open Go.ChangeShapes Go.WideShapes Go.ChangeAt Go.RowKit
namespace Go.Proofs.YteaikbodkgjkdaaGreat
namespace Nr
open Bytes8 Blk8 Own8 OwnE Fa Fb Rows2 Seq8 SeqP Pr8 Ps8 Pl8 Pr2 Pq8 Mi Nq Gb Np
theorem aJx (d:Int)(hm:1≤d∧d≤16)(m:Nat)(a:Option Addr)(len g:Nat)(f:Nat→Int)(k:Nat)(w:World)(h:SeqIn w m a len g f k):
 Calls Tryz.prog 63 #[.pointer (some ⟨m,0,none⟩),.int .i64 d] w (MadeP m a len g f w):=by
 have y:=h.1.lt
 have H:=yH h
 clear h
 unfold MadeP
 go_enter Tryz.func63,Tryz.ntmps63
 go_wp2_with(go_at_call 42;(with_reducible refine(aFg m a len g f k d w hm.1 (by omega) H.out).mono ?_);rintro e w1 ⟨r,k1,rfl,hr,E,v⟩;have S1:=yH E;have N:=yH v;clear E v)
 go_loopw [5,6] (fun s i wr=> ∃(j n:Nat) (A:Option Addr) (c G:Nat) (L:List PR),i= .int .i64 (j:Int)∧s= .slice A n c∧n+j=r+1∧n≤16∧j≤16∧Hid (OwnP wr w.heap.size A n c L)∧Hid (∀p∈L,okR p)∧Hid (SeqIn wr m a len g f G)∧Hid (KeptB w.heap.size m w wr)) (fun _ i _=>(intOf i).toNat)
 case atStart=>exact⟨r+1,0,none,0,k1,[],by go_num,rfl,by omega,by omega,by omega,yH (OwnP.nil w1 _ N.out.size),yH (fun p hp=>by cases hp),S1,N⟩
 case round=>
  obtain⟨j,n,A,c,G,L,rfl,rfl,aa,hn,hj,B,Z,E,v⟩:=hrel
  cases j with
  |zero=>
   have l:=B.out.2.1
   go_wp2
   go_ret
   exact⟨L,A,c,G,by rw[l];rfl,by rw[l];exact B.out,⟨Z.out,by omega,by omega⟩,E.out,v.out⟩
  |succ j=>
   have e:((j+1:Nat):Int)=(j:Int)+1:=by omega
   have R:(0:Int)<(j:Int)+1:=by omega
   rw[e]
   go_wp2_with(first
    |(go_at_call 15;(with_reducible refine(aMI m a len g f G wr E.out).mono ?_);rintro e w2 ⟨x,t,k3,rfl,D,C,o⟩;have z:=yH D;have X:=yH C;have O2:=yH (OwnP.keptB B.out o y);have M:=yH (v.out.trans (o.mono v.out.size));dsimp only[pv];clear D C o)
    |(at_builtin;refine aAT aEb rfl (.tmp 15) (.tmp 18) rfl w.heap.size A n c (cellsP L) rfl (O2.out.2.2.alloc (.cells #[.string (T x),.string (T t)] 24)) ⟨w2.heap.size,0,none⟩ 1 1 [.string (T x),.string (T t)] rfl rfl (Blk.news (Blk.new w2 [.string (T x),.string (T t)] 24)) (by intro u Y;simp at Y;rcases Y with rfl|rfl<;>rfl) (by omega) (by omega) ?_;intro A2 c2 w3 F b;have J:=yH F;have V:=yH ((M.out.alloc M.out.size (.cells #[.string (T x),.string (T t)] 24)).trans (KeptB.of_below b));have S4:=yH ((Blk.alloc X.out.1 (.cells #[.string (T x),.string (T t)] 24)).below b y);clear F b))
   go_round
   case rel=>
    refine⟨j,n+1,A2,c2,k3,L++ [(x,t)],rfl,rfl,by omega,by omega,by omega,yH ⟨?_,?_,?_⟩,yH ?_,yH ⟨S4.out,aBX H.out.2.1 V.out H.out.2.2.1,X.out.2.2⟩,V⟩
    ·intro q I
     rcases List.mem_append.1 I with h|h
     ·exact B.out.1 q h
     ·simp at h;subst h;exact aCf z.out
    ·rw[yA,B.out.2.1];rfl
    ·rw[aBv];exact J.out
    ·intro q I
     rcases List.mem_append.1 I with h|h
     ·exact Z.out q h
     ·simp at h;subst h;exact z.out
   case measure=>simp[intOf]<;>omega
theorem aNi {a:List PR}(h:a.length≤16):(listL a).length≤16:=by
 by_cases b:listE a=0
 ·have c:listL a=sortP (ded a):=if_pos b
  unfold listE at b
  split at b
  ·cases b
  ·split at b
   ·split at b
    ·next h16=>rw[c,aBw];exact h16
    ·cases b
   ·next hc=>exact absurd b hc
 ·have c:listL a=[]:=if_neg b
  rw[c]
  exact Nat.zero_le _
abbrev recL (s r m:Int)(K:Nat→Int)(F:Value):List Value:=[.int .u64 s,.int .u64 r,.int .u64 m,.int .u8 (K 0),.int .u8 (K 1),.int .u8 (K 2),.int .u8 (K 3),.int .u8 (K 4),.int .u8 (K 5),.int .u8 (K 6),.int .u8 (K 7),.int .u8 (K 8),.int .u8 (K 9),.int .u8 (K 10),.int .u8 (K 11),.int .u8 (K 12),.int .u8 (K 13),.int .u8 (K 14),.int .u8 (K 15),F]
abbrev zR:Array Value:= #[.int .u64 0,.int .u64 0,.int .u64 0,.int .u8 0,.int .u8 0,.int .u8 0,.int .u8 0,.int .u8 0,.int .u8 0,.int .u8 0,.int .u8 0,.int .u8 0,.int .u8 0,.int .u8 0,.int .u8 0,.int .u8 0,.int .u8 0,.int .u8 0,.int .u8 0,.slice none 0 0]
theorem aAm (s r m:Int)(K:Nat→Int)(F:Value):(Tryz.prog.info? 64).map (·.size)=some (recL s r m K F).toArray.size:=by kernel_rfl
def Recorded (gq:Nat)(a:Option Addr)(len cap:Nat)(f:Nat→Int)(seq:Int)(w:World)(e:Ending)(w':World):Prop:=
 ∃(L:List PR) (A:Option Addr) (n c k':Nat) (r m:Nat) (x:Int),e= .returned (.agg (recL seq r m (mkId x) (.slice A n c)).toArray)∧L.length=n∧n≤16∧Prs w' A L∧r<40∧m<9∧(0≤x∧x<5)∧SeqIn w' gq a len cap f k'∧KeptB w.heap.size gq w w'∧(∀b off,A=some ⟨b,off,none⟩→0<n→w.heap.size≤b)
attribute [local irreducible] wpList Code.wp
theorem aJy (d:Nat)(a:Option Addr)(len g:Nat)(f:Nat→Int)(k:Nat)(c:Int)(w:World)(h:SeqIn w d a len g f k):
 Calls Tryz.prog 25 #[.pointer (some ⟨d,0,none⟩),.int .u64 c] w (Recorded d a len g f c w):=by
 obtain⟨s,hs⟩: ∃x,w.heap.size=x:=⟨_,rfl⟩
 have l:d<s:=hs▸h.1.lt
 have Z0:=yH (show(w.alloc (.cells zR 64)).heap[s]? =some (.cells zR 64 (0,0))from hs▸heap_alloc_new w _)
 have s0:=yH (show s<(w.alloc (.cells zR 64)).heap.size by simp[hs])
 have Q0:=yH (h.below ((yB _ _).alloc (yR _) (.cells zR 64)))
 have K0:=yH (show KeptB s d w (w.alloc (.cells zR 64))from(KeptB.refl s d w).alloc (by omega) _)
 have HS:=yH fun(b:Int) (h1:1≤b) (h2:b≤1000000) (j:Nat) (W:World) (hW:SeqIn W d a len g f j)=>aHx d a len g f j b W h1 h2 hW
 have HP:=yH fun(j:Nat) (W:World) (hW:SeqIn W d a len g f j)=>aJx 4 (by decide) d a len g f j W hW
 unfold MadeP at HP
 have HD:=yH fun(n:Int) (W:World)=>aKn n W
 have W9:=yH (show 0<len→ ∀b off,a=some ⟨b,off,none⟩→b<s from fun z b off e=>by obtain⟨b',ae,R,h1,_⟩:=h.2.1 0 z;rw[e]at R;injection R with R;injection R with R;omega)
 clear h
 unfold Recorded
 rw[hs]
 go_enter Tryz.func25,Tryz.ntmps25
 go_upto_region 1 with fail
 rw[hs]at*
 clear hs
 generalize w.alloc (.cells zR 64)=w0 at*
 go_upto_region 2 with(first
  |(go_at_call 63;(with_reducible refine(HP.out _ _ Q0.out).mono ?_);rintro e w1 ⟨X,A0,c0,k1,rfl,u,o,M,p⟩;have ai:=yH u;have ad:=yH o;have Q1:=yH M;have K1:=yH (K0.out.trans (p.mono (Nat.le_of_lt s0.out)));have Z1:=yH ((p.block s s0.out (Nat.ne_of_gt l)).trans Z0.out);have I:=yH (yL s0.out p.size);have A:=yH (aGj A0 X X.length c0 w1 u.prs rfl (by have:=o.2.2;omega));clear u o M p;unfold ListedN at A)
  |(go_at_call 62;(refine A.out.mono ?_);rintro e w2 ⟨B,t,rfl,H,i,V⟩;have ab:=yH H;have y:=yH V;have Q2:=yH (Q1.out.below i);have K2:=yH (K1.out.trans (KeptB.of_below (i.mono (Nat.le_of_lt I.out))));have Z2:=yH ((i.block s I.out).trans Z1.out);have s2:=yH (yL I.out i.size);clear H i V)
  |fail)
 have q:=yH (aNi ad.out.2.2)
 have Z:=yH (Nat.le_of_lt I.out)
 clear A
 generalize listE X=ag at*
 generalize listL X=L at*
 obtain⟨n,hn⟩: ∃x,L.length=x:=⟨_,rfl⟩
 have N:=yH hn
 rw[hn]at q y⊢
 clear hn
 have aj: ∀(r m:Int) (K:Nat→Int),zR.size=(recL c r m K (.slice B n t)).toArray.size:=fun _ _ _=>rfl
 go_wp2_with(first
  |(go_at_call 42;(with_reducible refine(HS.out 40 (by decide) (by decide) _ _ Q2.out).mono ?_);rintro e w3 ⟨r1,rfl,o,q3,F⟩;have Q3:=yH q3;have K3:=yH (K2.out.trans (F.mono (Nat.le_of_lt s2.out)));have Z3:=yH ((F.block s s2.out (Nat.ne_of_gt l)).trans Z2.out);have s3:=yH (yL s2.out F.size);have P3:=yH (show KeptB w2.heap.size d w2 w3 from F);clear q3 F)
  |(go_at_call 42;(with_reducible refine(HS.out 9 (by decide) (by decide) _ _ Q3.out).mono ?_);rintro e w4 ⟨E,rfl,af,q4,J⟩;have Q4:=yH q4;have K4:=yH (K3.out.trans (J.mono (Nat.le_of_lt s3.out)));have Z4:=yH ((J.block s s3.out (Nat.ne_of_gt l)).trans Z3.out);have Y:=yH (yL s3.out J.size);have P4:=yH (show KeptB w2.heap.size d w2 w4 from P3.out.trans (J.mono P3.out.size));clear q4 J)
  |(go_at_call 42;(with_reducible refine(HS.out 3 (by decide) (by decide) _ _ Q4.out).mono ?_);rintro e w5 ⟨r3,rfl,ak,q5,G⟩;have Q5:=yH q5;have K5:=yH (K4.out.trans (G.mono (Nat.le_of_lt Y.out)));have Z5:=yH ((G.block s Y.out (Nat.ne_of_gt l)).trans Z4.out);have s5:=yH (yL Y.out G.size);have P5:=yH (show KeptB w2.heap.size d w2 w5 from P4.out.trans (G.mono P4.out.size));clear q5 G)
  |(go_at_call 64;(with_reducible refine(HD.out (r3:Int) w5).mono ?_);rintro e w6 ⟨C,ac,rfl,D⟩;have Q6:=yH (Q5.out.below D);have K6:=yH (K5.out.trans (KeptB.of_below (D.mono (Nat.le_of_lt s5.out))));have Z6:=yH ((D.block s s5.out).trans Z5.out);have s6:=yH (yL s5.out D.size);have KP:=yH (show KeptB w2.heap.size d w2 w6 from P5.out.trans (KeptB.of_below (D.mono P5.out.size)));clear D)
  |((with_reducible apply aAb 24);refine wpList_build_as rfl 64 _ rfl (recL c (r1:Int) (E:Int) (mkId C) (.slice B n t)).toArray (by kernel_rfl) ?_)
  |((with_reducible apply aAa (.tmp 4) (.tmp 24));refine wpList_store_row rfl 64 (.tmp 4) (.tmp 24) rfl s (recL c (r1:Int) (E:Int) (mkId C) (.slice B n t)).toArray rfl rfl 64 zR Z6.out (aAm _ _ _ _ _) rfl (by simp[Value.oneCell']) ?_)
  |fail)
 refine bodyPost_ret (v:= .agg (recL c (r1:Int) (E:Int) (mkId C) (.slice B n t)).toArray) (by exact results_cell_row Tryz.results25 _ _ s 64 _ (0,0) _ rfl (setRow_heap _ s _ _ _ (0,0) Z6.out) Tryz.underlying64 rfl (aAm _ _ _ _ _)) rfl ?_
 have b9:=yH (show Below s w6 (w6.setRow s (recL c (r1:Int) (E:Int) (mkId C) (.slice B n t)).toArray)from below_setRow (yB _ _) (yR _) _)
 refine⟨L,B,n,t,_,r1,E,C,rfl,N.out,q.out,?_,by omega,by omega,ac,aHz Q6.out b9.out l W9.out,K6.out.trans (KeptB.of_below b9.out),fun b off e z=>Nat.le_trans Z.out (y.out b off e z)⟩
 have aa:w2.heap.size≤(w6.setRow s (recL c (r1:Int) (E:Int) (mkId C) (.slice B n t)).toArray).heap.size:=Nat.le_trans KP.out.size b9.out.size
 rcases Nat.eq_zero_or_pos n with z|z
 ·rw[List.eq_nil_of_length_eq_zero (N.out.trans z)]
  exact Prs.nil _ _
 refine ab.out.keptB aa fun b off e hb=>?_
 have al:=y.out b off e z
 have ah:=I.out
 rw[setRow_other _ _ _ _ (by omega)]
 exact KP.out.block b hb (by omega)
end Nr
end Go.Proofs.YteaikbodkgjkdaaGreat
