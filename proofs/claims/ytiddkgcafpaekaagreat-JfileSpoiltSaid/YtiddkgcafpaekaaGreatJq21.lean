/-
  Texts beneath the proof.
-/
import Derived.Shelf.SlSortCmp.QuietGrown
import Derived.Test.YtiddkgcafpaekaaGreatJq20
set_option linter.unusedVariables false
set_option linter.unusedSimpArgs false
set_option maxRecDepth 100000
set_option maxHeartbeats 16000000
open Go.ChangeShapes Go.WideShapes Go.ChangeAt Go.RowKit
namespace Go.Proofs.YtiddkgcafpaekaaGreat
namespace Pl8
open Bytes8 Own8 OwnE Fa Pr8 Ps8
def codeL:List PR→Int
 | []=>0
 |p::r=>if flawI p.1 p.2=0 then codeL r else flawI p.1 p.2
theorem codeL_at: ∀(l:List PR) (k:Nat),k<l.length→(∀j,j<k→flawI (l.getD j nil2).1 (l.getD j nil2).2=0)→flawI (l.getD k nil2).1 (l.getD k nil2).2≠0→codeL l=flawI (l.getD k nil2).1 (l.getD k nil2).2
 |p::l,0,_,_,h=>by
  unfold codeL;rw[if_neg (by simpa using h)];rfl
 |p::l,k+1,hk,hj,h=>by
  unfold codeL
  rw[if_pos (by simpa using hj 0 (by omega))]
  exact codeL_at l k (by simpa using hk) (fun j hjk=>by simpa using hj (j+1) (by omega)) (by simpa using h)
theorem codeL_zero: ∀(l:List PR),(∀p∈l,flawI p.1 p.2=0)→codeL l=0
 | [],_=>rfl
 |p::l,h=>by unfold codeL;rw[if_pos (h p (by simp))];exact codeL_zero l fun q hq=>h q (by simp[hq])
def listE (l:List PR):Int:=if l=[]then 16 else if codeL l=0 then(if(ded l).length≤16 then 0 else 21)else codeL l
def listL (l:List PR):List PR:=if listE l=0 then sortP (ded l)else []
def ListedN (l:List PR)(w:World)(e:Ending)(w':World):Prop:= ∃A c,e= .returned (.tuple #[.slice A (listL l).length c,.int .i64 (listE l)])∧Prs w' A (listL l)∧Below w.heap.size w w'∧ ∀b off,A=some ⟨b,off,none⟩→0<(listL l).length→w.heap.size≤b
theorem listedN_none {l:List PR}{w w':World}{x:Int}(h:listE l=x)(hx:x≠0)(hb:Below w.heap.size w w'):ListedN l w (.returned (.tuple #[.slice none 0 0,.int .i64 x])) w':=by
 have hL:listL l=[]:=if_neg (by rw[h];exact hx)
 unfold ListedN
 rw[hL,h]
 exact⟨none,0,rfl,Prs.nil _ _,hb,fun b off e=>by cases e⟩
theorem own_some {w:World}{base n c:Nat}{A:Option Addr}{l:List PR}(h:OwnP w base A n c l)(hn:0<n): ∃g,A=some ⟨g,0,none⟩:=by
 rcases h.2.2.2.2 with⟨he,h0⟩|⟨g',cap,cur,he,_⟩
 ·omega
 ·injection he with e1 e2 e3
  exact⟨g',e1⟩
end Pl8
namespace Pb8
open Bytes8 Blk8 Fa Fb Pr8 Pa8
def subB (l m:List PR):Bool:=l.all fun p=>decide (p∈m)
theorem subB_no {l m:List PR}{i:Nat}(hi:i<l.length)(h:l.getD i nil2∉m):subB l m=false:=by
 cases hs:subB l m with
 |false=>rfl
 |true=>
  have:=List.all_eq_true.1 hs _ (getD_mem' hi)
  simp at this
  exact absurd this (by simpa using h)
theorem subB_yes {l m:List PR}(h: ∀i,i<l.length→l.getD i nil2∈m):subB l m=true:=by
 refine List.all_eq_true.2 fun p hp=>?_
 obtain⟨i,hi,rfl⟩:=mem_getD hp
 simpa using h i hi
theorem mem_take_step {m:List PR}{k:Nat}(hk:k<m.length)(p:PR):decide (p∈m.take (k+1))=(decide (p∈m.take k)||decide (p=m.getD k nil2)):=by
 rw[take_step hk]
 simp[List.mem_append]
set_option maxRecDepth 100000 in
theorem rwithin_any (a b:Option Addr)(l m:List PR)(n k c d:Nat)(w:World)(hP:Prs w a l)(hQ:Prs w b m)(hL:l.length=n)(hM:m.length=k)(hmax:n≤1000000)(hmax2:k≤1000000):
 Calls Tryz.prog 94 #[.slice a n c,.slice b k d] w fun e w'=>e= .returned (.bool (subB l m))∧Below w.heap.size w w':=by
 have HP:=yH hP
 have HQ:=yH hQ
 have HL:=yH hL
 have HM:=yH hM
 have HE:=yH fun i j=>eql_pr (hP.1.at_ i) (hQ.1.at_ j)
 have hmx:Tryz.prog.follows .mixedOrders=true:=by kernel_rfl
 clear hP hQ hL hM
 go_enter Tryz.func94,Tryz.ntmps94
 go_wp2
 go_loopw [5] (fun i wr=> ∃j:Nat,j≤n∧i= .int .i64 (j:Int)∧Hid (∀x,x<j→l.getD x nil2∈m)∧Hid (Below w.heap.size w wr)) (fun i _=>n-(intOf i).toNat)
 case atStart=>exact⟨0,by omega,rfl,yH fun j hj=>absurd hj (by omega),yH (Below.refl _ _)⟩
 case round=>
  obtain⟨j,hj,rfl,hall,hB⟩:=hrel
  rcases Nat.lt_or_ge j n with hlt|hge
  ·have hin:(j:Int)<(n:Int):=by omega
   go_wp2
   go_loopw [6,7] (fun s i wr=> ∃x:Nat,x≤k∧i= .int .i64 (x:Int)∧s= .bool (decide (l.getD j nil2∈m.take x))∧Hid (Below w.heap.size w wr)) (fun _ i _=>k-(intOf i).toNat)
   case atStart=>exact⟨0,by omega,rfl,by simp,hB⟩
   case round=>
    obtain⟨x,hx,rfl,rfl,hB2⟩:=hrel
    rcases Nat.lt_or_ge x k with hlt2|hge2
    ·have hin2:(x:Int)<(k:Int):=by omega
     obtain⟨b1,off1,rfl,hbl1,hc0,hc1⟩:=(HP.out.below hB2.out).2 j (by have:=HL.out;omega)
     obtain⟨b2,off2,rfl,hbl2,hd0,hd1⟩:=(HQ.out.below hB2.out).2 x (by have:=HM.out;omega)
     have hq:=HE.out j x
     have HS:=yH (mem_take_step (m:=m) (k:=x) (by have:=HM.out;omega) (l.getD j nil2))
     generalize T (l.getD j nil2).1=E1 at*
     generalize T (l.getD j nil2).2=E2 at*
     generalize T (m.getD x nil2).1=F1 at*
     generalize T (m.getD x nil2).2=F2 at*
     generalize decide (l.getD j nil2=m.getD x nil2)=q at*
     cases hs:decide (l.getD j nil2∈m.take x)with
     |true=>
      rw[hs]at HS
      clear hs
      go_wp2_with fail
      go_quiet (fail)
      go_wp2
      go_round
      case rel=>exact⟨x+1,by omega,by go_num,by rw[HS.out];rfl,yH (below_drewN hB2.out _)⟩
      case measure=>simp[intOf];omega
     |false=>
      rw[hs]at HS
      clear hs
      go_wp2_with fail
      go_quiet (fail)
      go_wp2
      go_round
      case rel=>exact⟨x+1,by omega,by go_num,by rw[HS.out];rfl,yH (below_drewN hB2.out _)⟩
      case measure=>simp[intOf];omega
    ·obtain rfl:x=k:=by omega
     have ht:m.take x=m:=List.take_of_length_le (by have:=HM.out;omega)
     rw[ht]
     by_cases hm:l.getD j nil2∈m
     ·have hall2:=yH (fun y (hy:y<j+1)=>(by
       rcases Nat.lt_or_ge y j with h1|h1
       ·exact hall.out y h1
       ·obtain rfl:y=j:=by omega
        exact hm:l.getD y nil2∈m))
      rw[decide_eq_true hm]
      clear hm hall ht
      go_wp2
      go_round
      case rel=>exact⟨j+1,by omega,by go_num,hall2,hB2⟩
      case measure=>simp[intOf];omega
     ·have HN:=yH (subB_no (m:=m) (by have:=HL.out;omega) hm)
      rw[decide_eq_false hm]
      clear hm hall ht
      go_wp2
      go_ret
      exact⟨ret_bool HN.out.symm,hB2.out⟩
  ·obtain rfl:j=n:=by omega
   have HN:=yH (subB_yes (m:=m) fun i hi=>hall.out i (by have:=HL.out;omega))
   clear hall
   go_wp2
   go_ret
   exact⟨ret_bool HN.out.symm,hB.out⟩
end Pb8
namespace Pq8
open OwnE Fb Fc Fo Seq8 Pr8 Ps8
def Rises (l:List PR):Prop:=l.Pairwise fun x y=>ltP x y=true
theorem ltL_ntrans (a b c:List Int)(h:ltL a b=false)(k:ltL b c=false):ltL a c=false:=by
 cases h1:ltL a c with
 |false=>rfl
 |true=>
  cases h2:ltL b a with
  |true=>rw[ltL_trans _ _ _ h2 h1]at k;cases k
  |false=>rw[ltL_total _ _ h h2]at h1;rw[h1]at k;cases k
theorem sortP_le (l:List PR):(sortP l).Pairwise fun x y=>(!ltP y x)=true:=by
 unfold sortP
 refine List.pairwise_mergeSort ?_ ?_ l
 ·intro a b c h k
  simp only[Bool.not_eq_true']at h k⊢
  exact ltL_ntrans _ _ _ k h
 ·intro a b
  cases h:ltP b a with
  |false=>rfl
  |true=>rw[show ltP a b=false from ltL_asymm _ _ h];rfl
theorem sortP_rises {l:List PR}(hR: ∀p∈l,okR p)(hn:l.Nodup):Rises (sortP l):=by
 have h1:=sortP_le l
 have h2:(sortP l).Nodup:=(sortP_perm l).nodup_iff.2 hn
 refine(h1.and h2).imp_of_mem fun {x y} hx hy h=>?_
 cases k:ltP x y with
 |true=>rfl
 |false=>exact absurd (ltP_total (hR x ((sortP_mem l x).1 hx)) (hR y ((sortP_mem l y).1 hy)) k (by simpa using h.1)) h.2
theorem rises_eq: ∀(l m:List PR),Rises l→Rises m→(∀p,p∈l↔p∈m)→l=m
 | [],[],_,_,_=>rfl
 | [],b::m,_,_,h=>absurd ((h b).2 (by simp)) (by simp)
 |a::l,[],_,_,h=>absurd ((h a).1 (by simp)) (by simp)
 |a::l,b::m,hl,hm,h=>by
  obtain⟨l1,l2⟩:=List.pairwise_cons.1 hl
  obtain⟨m1,m2⟩:=List.pairwise_cons.1 hm
  have hab:a=b:=by
   rcases List.mem_cons.1 ((h a).1 (by simp))with e|ha
   ·exact e
   ·rcases List.mem_cons.1 ((h b).2 (by simp))with e|hb
    ·exact e.symm
    ·have this:ltP b a=false:=ltL_asymm _ _ (l1 b hb)
     rw[m1 a ha]at this;cases this
  subst hab
  have hi: ∀q,ltP a q=true→q≠a:=fun q hq e=>by
   rw[e,show ltP a a=false from ltL_irrefl _]at hq;cases hq
  rw[rises_eq l m l2 m2 fun p=>⟨fun hp=>by
   rcases List.mem_cons.1 ((h p).1 (by simp[hp]))with e|hp'
   ·exact absurd e (hi p (l1 p hp))
   ·exact hp',fun hp=>by
   rcases List.mem_cons.1 ((h p).2 (by simp[hp]))with e|hp'
   ·exact absurd e (hi p (m1 p hp))
   ·exact hp'⟩]
theorem list_rises {l:List PR}(hR: ∀p∈l,okR p):Rises (sortP (ded l)):=sortP_rises (fun p hp=>hR p ((ded_mem l p).1 hp)) (ded_nodup l)
theorem list_mem (l:List PR)(p:PR):p∈sortP (ded l)↔p∈l:=(sortP_mem _ p).trans (ded_mem l p)
theorem list_same {l m:List PR}(hl: ∀p∈l,okR p)(hm: ∀p∈m,okR p)(h: ∀p,p∈l↔p∈m):sortP (ded l)=sortP (ded m):=
 rises_eq _ _ (list_rises hl) (list_rises hm) fun p=>(list_mem l p).trans ((h p).trans (list_mem m p).symm)
theorem okR_okP {p:PR}(h:okR p):okP p:=by
 obtain⟨h1,h2⟩:=flaw_len h.2.2
 exact⟨h.1,h.2.1,Nat.le_trans h1 (by decide),Nat.le_trans h2 (by decide)⟩
theorem OwnP.keptB {w w':World}{base gq:Nat}{A:Option Addr}{n c:Nat}{l:List PR}(h:OwnP w base A n c l)(hk:KeptB w.heap.size gq w w')(hg:gq<base):OwnP w' base A n c l:=by
 refine⟨h.1,h.2.1,Nat.le_trans h.2.2.1 hk.size,h.2.2.2.1,?_⟩
 rcases h.2.2.2.2 with h1|⟨g,cap,cur,h1,h2,h3,h4⟩
 ·exact .inl h1
 ·refine .inr ⟨g,cap,cur,h1,h2,?_,h4⟩
  have hlt:g<w.heap.size:=by
   rcases Nat.lt_or_ge g w.heap.size with h|h
   ·exact h
   ·rw[Array.getElem?_eq_none h]at h3;cases h3
  rw[hk.block g hlt (by omega)];exact h3
def MadeP (gq:Nat)(a:Option Addr)(len cap:Nat)(f:Nat→Int)(w:World)(e:Ending)(w':World):Prop:=
 ∃(L:List PR) (A:Option Addr) (c k':Nat),e= .returned (.slice A L.length c)∧OwnP w' w.heap.size A L.length c L∧((∀p∈L,okR p)∧0<L.length∧L.length≤16)∧SeqIn w' gq a len cap f k'∧KeptB w.heap.size gq w w'
end Pq8
namespace Pi8
open Bytes8 Blk8 Fa Fo Pr8 Ps8 Pq8
def shiftL (R:List PR)(j:Nat):List PR:=(List.range (R.length+1)).map fun t=>if t≤j then(R++ [nil2]).getD t nil2 else R.getD (t-1) nil2
theorem shiftL_len (R:List PR)(j:Nat):(shiftL R j).length=R.length+1:=by unfold shiftL;simp
theorem shiftL_at (R:List PR)(j t:Nat)(ht:t<R.length+1):(shiftL R j).getD t nil2=if t≤j then(R++ [nil2]).getD t nil2 else R.getD (t-1) nil2:=by
 unfold shiftL
 rw[List.getD_eq_getElem?_getD,List.getElem?_map,List.getElem?_range ht]
 rfl
theorem getD_ext {l m:List PR}(h:l.length=m.length)(k: ∀t,t<l.length→l.getD t nil2=m.getD t nil2):l=m:=by
 apply List.ext_getElem h
 intro i h1 h2
 have:=k i h1
 rwa[List.getD_eq_getElem?_getD,List.getD_eq_getElem?_getD,List.getElem?_eq_getElem h1,List.getElem?_eq_getElem h2]at this
theorem getD_app_l {l m:List PR}{t:Nat}(h:t<l.length):(l++m).getD t nil2=l.getD t nil2:=by
 rw[List.getD_eq_getElem?_getD,List.getD_eq_getElem?_getD,List.getElem?_append_left h]
theorem getD_set {l:List PR}{i t:Nat}{p:PR}(hi:i<l.length):(l.set i p).getD t nil2=if t=i then p else l.getD t nil2:=by
 rw[List.getD_eq_getElem?_getD,List.getD_eq_getElem?_getD,List.getElem?_set]
 by_cases h:i=t
 ·subst h;simp[hi]
 ·rw[if_neg h,if_neg (fun e=>h e.symm)]
theorem shiftL_start (R:List PR):shiftL R R.length=R++ [nil2]:=by
 refine getD_ext (by rw[shiftL_len];simp) fun t ht=>?_
 rw[shiftL_len]at ht
 rw[shiftL_at R _ t ht,if_pos (by omega)]
theorem shiftL_step (R:List PR)(j:Nat)(hj:j+1≤R.length):(shiftL R (j+1)).set (j+1) ((shiftL R (j+1)).getD j nil2)=shiftL R j:=by
 refine getD_ext (by rw[List.length_set,shiftL_len,shiftL_len]) fun t ht=>?_
 rw[List.length_set,shiftL_len]at ht
 rw[getD_set (by rw[shiftL_len];omega),shiftL_at R j t ht]
 by_cases h:t=j+1
 ·subst h
  rw[if_pos rfl,if_neg (by omega),shiftL_at R (j+1) j (by omega),if_pos (by omega),getD_app_l (by omega)]
  rfl
 ·rw[if_neg h,shiftL_at R (j+1) t ht]
  by_cases h2:t≤j
  ·rw[if_pos (by omega),if_pos h2]
  ·rw[if_neg (by omega),if_neg h2]
def insL (R:List PR)(k:Nat)(x:PR):List PR:=R.take k++x::R.drop k
theorem shiftL_end (R:List PR)(k:Nat)(x:PR)(hk:k≤R.length):(shiftL R k).set k x=insL R k x:=by
 have hl:(insL R k x).length=R.length+1:=by unfold insL;simp;omega
 refine getD_ext (by rw[List.length_set,shiftL_len,hl]) fun t ht=>?_
 rw[List.length_set,shiftL_len]at ht
 rw[getD_set (by rw[shiftL_len];omega),shiftL_at R k t ht]
 unfold insL
 rw[List.getD_eq_getElem?_getD (l:=R.take k++x::R.drop k)]
 by_cases h:t=k
 ·subst h
  rw[if_pos rfl,List.getElem?_append_right (by simp;omega)]
  simp[Nat.min_eq_left hk]
 ·rw[if_neg h]
  by_cases h2:t≤k
  ·rw[if_pos h2,getD_app_l (by omega),List.getElem?_append_left (by simp;omega),List.getElem?_take_of_lt (by omega),List.getD_eq_getElem?_getD]
  ·rw[if_neg h2,List.getElem?_append_right (by simp;omega),List.length_take,Nat.min_eq_left hk]
   obtain⟨d,rfl⟩: ∃d,t=k+1+d:=⟨t-k-1,by omega⟩
   rw[show k+1+d-k=d+1 by omega,List.getElem?_cons_succ,List.getElem?_drop,List.getD_eq_getElem?_getD,show k+1+d-1=k+d by omega]
theorem insL_mem (R:List PR)(k:Nat)(x q:PR):q∈insL R k x↔q∈R∨q=x:=by
 unfold insL
 conv=>rhs;rw[←List.take_append_drop k R]
 simp only[List.mem_append,List.mem_cons]
 constructor
 ·rintro(h|h|h)
  ·exact Or.inl (Or.inl h)
  ·exact Or.inr h
  ·exact Or.inl (Or.inr h)
 ·rintro((h|h)|h)
  ·exact Or.inl h
  ·exact Or.inr (Or.inr h)
  ·exact Or.inr (Or.inl h)
theorem insL_rises {R:List PR}{k:Nat}{x:PR}(hR:Rises R)(hk:k≤R.length)(h1: ∀t,t<k→ltP (R.getD t nil2) x=true)(h2:k<R.length→ltP x (R.getD k nil2)=true):Rises (insL R k x):=by
 unfold insL Rises
 have hd:=hR.sublist (List.drop_sublist k R)
 have hkd: ∀q∈R.drop k,ltP x q=true:=fun q hq=>by
  obtain⟨i,hi,rfl⟩:=List.mem_iff_getElem.1 hq
  rw[List.length_drop]at hi
  have hx:=h2 (by omega)
  rw[List.getElem_drop]
  rcases Nat.eq_zero_or_pos i with h0|h0
  ·subst h0
   rwa[List.getD_eq_getElem?_getD,List.getElem?_eq_getElem (by omega)]at hx
  ·refine ltL_trans _ _ _ hx ?_
   have:=List.pairwise_iff_getElem.1 hR k (k+i) (by omega) (by omega) (by omega)
   rwa[List.getD_eq_getElem?_getD,List.getElem?_eq_getElem (show k<R.length by omega)]
 rw[List.pairwise_append]
 refine⟨hR.sublist (List.take_sublist k R),List.pairwise_cons.2 ⟨hkd,hd⟩,fun p hp q hq=>?_⟩
 obtain⟨i,hi,rfl⟩:=List.mem_iff_getElem.1 hp
 rw[List.length_take]at hi
 have hx:=h1 i (by omega)
 rw[List.getElem_take]
 rw[List.getD_eq_getElem?_getD,List.getElem?_eq_getElem (show i<R.length by omega)]at hx
 rcases List.mem_cons.1 hq with rfl|hq
 ·exact hx
 ·exact ltL_trans _ _ _ hx (hkd q hq)
def rowL (l:List PR)(i:Nat):List PR:=sortP (ded (l.take i))
theorem rowL_okR {l:List PR}{i:Nat}(h: ∀t,t<i→okR (l.getD t nil2))(hi:i≤l.length): ∀p∈l.take i,okR p:=fun p hp=>by
 obtain⟨t,ht,rfl⟩:=List.mem_iff_getElem.1 hp
 rw[List.length_take]at ht
 have:=h t (by omega)
 rw[List.getElem_take]
 rwa[List.getD_eq_getElem?_getD,List.getElem?_eq_getElem (show t<l.length by omega)]at this
theorem rowL_there {l:List PR}{i:Nat}(hi:i<l.length)(h: ∀t,t<i+1→okR (l.getD t nil2))(hm:l.getD i nil2∈rowL l i):rowL l (i+1)=rowL l i:=by
 have h1:=rowL_okR h (by omega)
 have h2:=rowL_okR (fun t ht=>h t (by omega)) (show i≤l.length by omega)
 refine list_same h1 h2 fun p=>?_
 rw[take_step hi]
 simp only[List.mem_append,List.mem_singleton]
 exact⟨fun k=>k.elim id fun e=>by rw[e];exact(list_mem _ _).1 hm,Or.inl⟩
theorem rowL_ins {l:List PR}{i k:Nat}(hi:i<l.length)(h: ∀t,t<i+1→okR (l.getD t nil2))(hk:k≤(rowL l i).length)(h1: ∀t,t<k→ltP ((rowL l i).getD t nil2) (l.getD i nil2)=true)(h2:k<(rowL l i).length→ltP (l.getD i nil2) ((rowL l i).getD k nil2)=true):insL (rowL l i) k (l.getD i nil2)=rowL l (i+1):=by
 have o1:=rowL_okR h (by omega)
 have o2:=rowL_okR (fun t ht=>h t (by omega)) (show i≤l.length by omega)
 refine rises_eq _ _ (insL_rises (list_rises o2) hk h1 h2) (list_rises o1) fun p=>?_
 rw[insL_mem]
 unfold rowL
 rw[list_mem,list_mem,take_step hi]
 simp
theorem rowL_zero (l:List PR):rowL l 0=[]:=by unfold rowL ded sortP;simp
theorem cellsP_set: ∀(l:List PR) (i:Nat) (p:PR),((cellsP l).set (i*2) (.string (T p.1))).set (i*2+1) (.string (T p.2))=cellsP (l.set i p)
 | [],_,_=>rfl
 |q::l,0,p=>by simp[cellsP]
 |q::l,i+1,p=>by
  have ih:=cellsP_set l i p
  rw[show(i+1)*2=i*2+1+1 by omega]
  simp only[cellsP,List.set_cons_succ]
  rw[ih]
theorem OwnP.frozen {w:World}{base n c g:Nat}{l:List PR}(h:OwnP w base (some ⟨g,0,none⟩) n c l)(i:Nat):w.frozen? ⟨g,i,none⟩=false:=by
 obtain⟨_,cur,hg,_⟩:=own_block h
 simp[World.frozen?,hg]
theorem OwnP.set {w:World}{base n c g:Nat}{l:List PR}(h:OwnP w base (some ⟨g,0,none⟩) n c l)(i:Nat)(p:PR)(hp:okP p)(hi:i<n):
 OwnP ((w.setCell ⟨g,i*2,none⟩ (.string (T p.1))).setCell ⟨g,i*2+1,none⟩ (.string (T p.2))) base (some ⟨g,0,none⟩) n c (l.set i p):=by
 refine⟨fun q hq=>?_,by rw[List.length_set];exact h.2.1,?_,?_,?_⟩
 ·rcases List.mem_or_eq_of_mem_set hq with h1|h1
  ·exact h.1 q h1
  ·subst h1;exact hp
 ·simpa [World.setCell]using h.2.2.1
 ·rw[cellsP_len,List.length_set,h.2.1]
 ·rcases h.2.2.2.2 with⟨he,h0⟩|⟨g',cap,cur,he,hb,hg,hnc,hcm,hsz,ht⟩
  ·cases he
  ·injection he with e1 e2 e3
   simp at e1
   subst e1
   refine .inr ⟨g,cap,(cur.setIfInBounds (i*2) (.string (T p.1))).setIfInBounds (i*2+1) (.string (T p.2)),?_,hb,?_,hnc,hcm,by simpa using hsz,?_⟩
   ·rw[←e3]
   ·simp[World.setCell,Array.getElem?_modify,hg]
   ·rw[←cellsP_set,←ht]
    simp only[Array.toList_setIfInBounds,List.take_set]
theorem OwnP.cellAt {w:World}{base n c g:Nat}{l:List PR}(h:OwnP w base (some ⟨g,0,none⟩) n c l)(i:Nat)(hi:i<n):w.cell? ⟨g,i*2,none⟩=some (.string (T (l.getD i nil2).1))∧w.cell? ⟨g,i*2+1,none⟩=some (.string (T (l.getD i nil2).2))∧g<w.heap.size∧base≤g:=by
 obtain⟨hb,cur,hg,ht⟩:=own_block h
 obtain⟨b,off,e,hlt,h0,h1⟩:=h.prs.2 i (by rw[h.2.1];exact hi)
 simp at e
 obtain⟨rfl,rfl⟩:=e
 rw[Nat.zero_add]at h0 h1
 exact⟨h0,h1,hlt,hb⟩
end Pi8
namespace Pr2
open Bytes8 Blk8 Own8 OwnE Fa Fb Fc Fo Pr8 Pa8 Ps8 Pl8 Pq8 Pi8
theorem rjoin_code (n v:List Int)(hn:AllB n)(hv:AllB v)(hmax:n.length≤9223372036854775807)(w:World):
 Calls Tryz.prog 146 #[.agg #[.string (T n),.string (T v)]] w fun e w'=> ∃(A:Option Addr) (m c:Nat),e= .returned (.tuple #[.slice A m c,.int .i64 (flawI n v)])∧Below w.heap.size w w':=
 (rjoin_any n v hn hv hmax w).mono fun e w' ⟨A,c,h1,h2,h3⟩=>⟨A,_,c,h1,h3.below⟩
theorem less_pr {p q:PR}(hp:okP p)(hq:okP q):Op.bytesLess (T (pay p.1 p.2)).toList (T (pay q.1 q.2)).toList=ltP p q:=bytesLess_T (pay_all hp.1 hp.2.1) (pay_all hq.1 hq.2.1)
theorem blank_cells:cellsP [nil2]=[.string {data:= #[]},.string {data:= #[]}]:=by rw[T_nil];rfl
theorem ownP_new {w:World}{base n c:Nat}{A:Option Addr}{l:List PR}(h:OwnP w base A n c l): ∀b off,A=some ⟨b,off,none⟩→0<l.length→base≤b:=fun b off e h0=>by
 obtain⟨g,e2,h1,_,_⟩:=OwnE.cell h.2.2 (i:=0) (by rw[cellsP_len];omega)
 rw[e]at e2
 injection e2 with e2
 injection e2 with e3 e4
 omega
set_option maxRecDepth 100000 in
theorem rlist_new (a:Option Addr)(l:List PR)(len cap:Nat)(w:World)(hP:Prs w a l)(hL:l.length=len)(hmax:len≤100000):
 Calls Tryz.prog 96 #[.slice a len cap] w (ListedN l w):=by
 by_cases h0:len=0
 ·subst h0
  have he:listE l=16:=by unfold listE;rw[if_pos (List.eq_nil_of_length_eq_zero hL)]
  have HE:=yH he
  clear he hP hL
  go_enter Tryz.func96,Tryz.ntmps96
  go_wp2
  go_ret2
  exact listedN_none HE.out (by decide) (Below.refl _ _)
 have h0b:((len:Int)==0)=false:=by simp;omega
 have hne:l≠ []:=fun e=>h0 (by rw[←hL,e];rfl)
 have HP:=yH hP
 have HL:=yH hL
 have HOk:=yH hP.1
 have HF:=yH fun k w=>rjoin_code (l.getD k nil2).1 (l.getD k nil2).2 (hP.1.at_ k).1 (hP.1.at_ k).2.1 (hP.1.at_ k).2.2.1 w
 have HAt:=yH fun k h1 h2 h3=>(by
  have e:=codeL_at l k h1 h2 h3
  unfold listE
  rw[if_neg hne,if_neg (by rw[e];exact h3),e]:listE l=flawI (l.getD k nil2).1 (l.getD k nil2).2)
 have HAll:=yH (fun(h: ∀j,j<len→flawI (l.getD j nil2).1 (l.getD j nil2).2=0)=>(by
  have hf: ∀p∈l,flawI p.1 p.2=0:=fun p hp=>by
   obtain⟨i,hi,rfl⟩:=mem_getD hp
   exact h i (by omega)
  unfold listE
  rw[if_neg hne,codeL_zero l hf,if_pos rfl]:listE l=(if(ded l).length≤16 then 0 else 21)))
 have hmx:Tryz.prog.follows .mixedOrders=true:=by kernel_rfl
 clear hP hL h0 hne
 go_enter Tryz.func96,Tryz.ntmps96
 go_wp2
 go_loopw [4,5] (fun s i wr=> ∃(k n:Nat) (A:Option Addr) (c:Nat),k≤len∧i= .int .i64 (k:Int)∧s= .slice A n c∧n≤k∧Hid (OwnP wr w.heap.size A n c (rowL l k))∧Hid (∀j,j<k→flawI (l.getD j nil2).1 (l.getD j nil2).2=0)∧Hid (Below w.heap.size w wr)) (fun _ i _=>len-(intOf i).toNat)
 case atStart=>exact⟨0,0,none,0,by omega,rfl,rfl,by omega,(by rw[rowL_zero];exact yH (OwnP.nil w _ (yR _))),yH (fun j hj=>absurd hj (by omega)),yH (Below.refl _ _)⟩
 case round=>
  obtain⟨i,n,A,c,hi,rfl,rfl,hn,hO,hall,hB⟩:=hrel
  rcases Nat.lt_or_ge i len with hlt|hge
  ·obtain⟨b,off,rfl,hbl,hc0,hc1⟩:=(HP.out.below hB.out).2 i (by have:=HL.out;omega)
   have hin:(i:Int)<(len:Int):=by omega
   have HFk:=yH (HF.out i)
   by_cases hf:flawI (l.getD i nil2).1 (l.getD i nil2).2=0
   ·have hall2:=yH (fun j (hj:j<i+1)=>(by
     rcases Nat.lt_or_ge j i with h1|h1
     ·exact hall.out j h1
     ·obtain rfl:j=i:=by omega
      exact hf:flawI (l.getD j nil2).1 (l.getD j nil2).2=0))
    have HR:=yH (fun t (ht:t<i+1)=>(⟨(HOk.out.at_ t).1,(HOk.out.at_ t).2.1,hall2.out t ht⟩:okR (l.getD t nil2)))
    have HRow:Hid (∀t,t<n→okR ((rowL l i).getD t nil2)):=yH fun t ht=>by
     have hm:(rowL l i).getD t nil2∈rowL l i:=getD_mem' (by rw[hO.out.2.1];exact ht)
     exact rowL_okR (fun t ht=>HR.out t (by omega)) (by have:=HL.out;omega) _ ((list_mem _ _).1 hm)
    rw[hf]at HFk
    clear hf hall
    generalize hX1:T (l.getD i nil2).1=X1 at*
    generalize hX2:T (l.getD i nil2).2=X2 at*
    have HX1:=yH hX1
    have HX2:=yH hX2
    clear hX1 hX2
    go_wp2_with(go_at_call 146;(with_reducible refine(HFk.out _).mono ?_);rintro e w2 ⟨A6,m6,c6,rfl,hb⟩;have O2:=yH (hO.out.kept hb (yR _));have B2:=yH (hB.out.trans (hb.mono hB.out.size));clear hb)
    clear hO hB hc0 hc1 hbl
    go_loopw [8] (fun s wr=> ∃k:Nat,k≤n∧s= .int .i64 (k:Int)∧Hid (∀t,t<k→ltP ((rowL l i).getD t nil2) (l.getD i nil2)=true)∧Hid (OwnP wr w.heap.size A n c (rowL l i))∧Hid (Below w.heap.size w wr)) (fun s _=>n-(intOf s).toNat)
    case atStart=>exact⟨0,by omega,rfl,yH (fun t ht=>absurd ht (by omega)),O2,B2⟩
    case round=>
     obtain⟨k,hk,rfl,hlow,hO,hB⟩:=hrel
     clear O2 B2
     obtain⟨b',off',eb,hbl,hc0,hc1⟩:=(HP.out.below hB.out).2 i (by have:=HL.out;omega)
     simp at eb
     obtain⟨rfl,rfl⟩:=eb
     rw[HX1.out]at hc0
     rw[HX2.out]at hc1
     rcases Nat.lt_or_ge k n with hkn|hkn
     ·obtain⟨g,rfl⟩:=own_some hO.out (by omega)
      obtain⟨hd0,hd1,hgl,hgb⟩:=Pi8.OwnP.cellAt hO.out k hkn
      have hin2:(k:Int)<(n:Int):=by omega
      have hd2:decide (k<n)=true:=decide_eq_true hkn
      have r1:=HRow.out k hkn
      have r2:=HR.out i (by omega)
      obtain⟨q1,q2⟩:=flaw_len r1.2.2
      obtain⟨q3,q4⟩:=flaw_len r2.2.2
      have hbl2:=less_pr (okR_okP r1) (okR_okP r2)
      have HY1:=yH fun w=>rpayload_grew ((rowL l i).getD k nil2).1 ((rowL l i).getD k nil2).2 (by omega) w
      have HY2:=yH fun w=>rpayload_grew (l.getD i nil2).1 (l.getD i nil2).2 (by omega) w
      have heq:=eql_pr (okR_okP r1) (okR_okP r2)
      have HTot:=yH (fun h=>ltP_total r1 r2 h)
      have HOx:=yH (okR_okP r2)
      dsimp only[pv]at HY1 HY2
      rw[HX1.out,HX2.out]at HY2 heq
      have p0:=cell_grown hgl hd0
      have p1:=cell_grown hgl hd1
      have x0:=cell_grown hbl hc0
      have x1:=cell_grown hbl hc1
      have HB:=yH hB.out
      clear hd0 hd1 hc0 hc1 q1 q2 q3 q4 r1 r2
      generalize T (pay ((rowL l i).getD k nil2).1 ((rowL l i).getD k nil2).2)=S1 at*
      generalize T (pay (l.getD i nil2).1 (l.getD i nil2).2)=S2 at*
      generalize hR1:T ((rowL l i).getD k nil2).1=R1 at*
      generalize hR2:T ((rowL l i).getD k nil2).2=R2 at*
      clear hR1 hR2
      have K1:Hid (∀q os,Calls Tryz.prog 32 #[.agg #[.string R1,.string R2]] (Sort.grow (wr.drewN q) os) fun e w'=>e= .returned (.string S1)∧ ∃q' os',w'=Sort.grow ((Sort.grow (wr.drewN q) os).drewN q') os'):=yH fun q os=>HY1.out _
      have K2:Hid (∀q os,Calls Tryz.prog 32 #[.agg #[.string X1,.string X2]] (Sort.grow (wr.drewN q) os) fun e w'=>e= .returned (.string S2)∧ ∃q' os',w'=Sort.grow ((Sort.grow (wr.drewN q) os).drewN q') os'):=yH fun q os=>HY2.out _
      clear HY1 HY2
      cases hz:ltP ((rowL l i).getD k nil2) (l.getD i nil2)with
      |true=>
       rw[hz]at hbl2
       have hlow2:=yH (fun t (ht:t<k+1)=>(by
        rcases Nat.lt_or_ge t k with h1|h1
        ·exact hlow.out t h1
        ·obtain rfl:t=k:=by omega
         exact hz:ltP ((rowL l i).getD t nil2) (l.getD i nil2)=true))
       clear hz hlow
       go_wp2_with fail
       go_quiet_grown (first|(go_at_call 32;with_reducible refine Calls.grown_of (K1.out _ _))|(go_at_call 32;with_reducible refine Calls.grown_of (K2.out _ _)))
       have HG:=yH (Grew.below (w:=wr) ⟨nq,osq,rfl⟩)
       have O3:=yH (hO.out.kept HG.out (yR _))
       have B3:=yH (HB.out.trans (Below.mono HG.out HB.out.size))
       go_wp2
       go_round
       case rel=>exact⟨k+1,by omega,by go_num,hlow2,O3,B3⟩
       case measure=>simp[intOf];omega
      |false=>
       rw[hz]at hbl2
       have HZ:=yH hz
       clear hz
       go_wp2_with fail
       go_quiet_grown (first|(go_at_call 32;with_reducible refine Calls.grown_of (K1.out _ _))|(go_at_call 32;with_reducible refine Calls.grown_of (K2.out _ _)))
       have HG:=yH (Grew.below (w:=wr) ⟨nq,osq,rfl⟩)
       have O3:=yH (hO.out.kept HG.out (yR _))
       have B3:=yH (HB.out.trans (Below.mono HG.out HB.out.size))
       have y0:=p0 nq osq
       have y1:=p1 nq osq
       have z0:=x0 nq osq
       have z1:=x1 nq osq
       clear K1 K2 p0 p1 x0 x1 HG hO hB HB
       generalize Sort.grow (wr.drewN nq) osq=W3 at*
       by_cases he:(rowL l i).getD k nil2=l.getD i nil2
       ·have hm:l.getD i nil2∈rowL l i:=by rw[←he];exact getD_mem' (by rw[O3.out.2.1];exact hkn)
        have HTh:=yH (rowL_there (by have:=HL.out;omega) HR.out hm)
        rw[decide_eq_true he]at heq
        clear he hm
        go_wp2_with fail
        go_quiet (fail)
        go_wp2
        go_round
        case rel=>exact⟨i+1,n,_,c,by omega,by go_num,rfl,by omega,by rw[HTh.out];exact O3,hall2,yH (below_drewN B3.out _)⟩
        case measure=>simp[intOf];omega
       ·have hxl:ltP (l.getD i nil2) ((rowL l i).getD k nil2)=true:=by
         cases h:ltP (l.getD i nil2) ((rowL l i).getD k nil2)with
         |true=>rfl
         |false=>exact absurd (HTot.out HZ.out h) he
        have HIn:=yH (rowL_ins (by have:=HL.out;omega) HR.out (by rw[O3.out.2.1];exact hk) hlow.out (fun _=>hxl))
        rw[decide_eq_false he]at heq
        clear he hxl HTot HZ hlow
        go_wp2_with fail
        go_quiet (fail)
        have O4:Hid (OwnP (W3.drewN nq) w.heap.size (some ⟨g,0,none⟩) n c (rowL l i)):=O3
        have B4:Hid (Below w.heap.size w (W3.drewN nq)):=yH (below_drewN B3.out _)
        clear O3 B3 y0 y1 z0 z1
        generalize W3.drewN nq=W4 at*
        go_wp2_with(at_builtin;refine wpList_append_elt pairElt rfl (.tmp 64) (.tmp 66) rfl w.heap.size _ n c (cellsP (rowL l i)) rfl (O4.out.2.2.alloc (.cells #[.string {data:= #[]},.string {data:= #[]}] 77)) ⟨W4.heap.size,0,none⟩ 1 1 [.string {data:= #[]},.string {data:= #[]}] rfl rfl (Blk.news (Blk.new W4 [.string {data:= #[]},.string {data:= #[]}] 77)) (by intro u hu;simp at hu;subst hu;rfl) (by omega) (by omega) ?_;intro A7 c7 w7 ho7 hbel7;have O7:=yH (⟨fun q hq=>(by
         rcases List.mem_append.1 hq with h|h
         ·exact O4.out.1 q h
         ·simp at h;subst h;exact⟨(fun x hx=>by cases hx),(fun x hx=>by cases hx),Nat.zero_le _,Nat.zero_le _⟩),by rw[List.length_append,O4.out.2.1];rfl,by rw[cellsP_app,blank_cells];exact ho7⟩:OwnP w7 w.heap.size A7 (n+1) c7 (rowL l i++ [nil2]));have B7:=yH ((B4.out.alloc B4.out.size (.cells #[.string {data:= #[]},.string {data:= #[]}] 77)).trans hbel7);clear ho7 hbel7)
        have HLr:=yH O4.out.2.1
        have HSt0:=yH (show shiftL (rowL l i) n=rowL l i++ [nil2]by rw[←HLr.out];exact shiftL_start _)
        clear O4 B4
        obtain⟨g7,rfl⟩:=own_some O7.out (by omega)
        go_loopw [9] (fun s wr=> ∃j:Nat,k≤j∧j≤n∧s= .int .i64 (j:Int)∧Hid (OwnP wr w.heap.size (some ⟨g7,0,none⟩) (n+1) c7 (shiftL (rowL l i) j))∧Hid (Below w.heap.size w wr)) (fun s _=>(intOf s).toNat)
        case atStart=>exact⟨n,hk,yR _,by go_num,(by rw[HSt0.out];exact O7),B7⟩
        case round=>
         obtain⟨j,hkj,hjn,rfl,hO8,hB8⟩:=hrel
         clear O7 B7
         rcases Nat.lt_or_ge k j with hlt8|hge8
         ·obtain⟨j,rfl⟩: ∃j',j=j'+1:=⟨j-1,by omega⟩
          have e:((j+1:Nat):Int)=(j:Int)+1:=by omega
          have hin8:(k:Int)<(j:Int)+1:=by omega
          have hj1:(j:Int)+1<(n:Int)+1:=by omega
          have hj0:(j:Int)<(n:Int)+1:=by omega
          have hjp:(0:Int)≤(j:Int)+1:=by omega
          have hjt:((j:Int)+1).toNat=j+1:=by omega
          obtain⟨v0,v1,hgl8,hgb8⟩:=Pi8.OwnP.cellAt hO8.out j (by omega)
          obtain⟨u0,u1,_,_⟩:=Pi8.OwnP.cellAt hO8.out (j+1) (by omega)
          have hfz:=Pi8.OwnP.frozen hO8.out
          have HSt:=yH (shiftL_step (rowL l i) j (by rw[HLr.out];omega))
          have HOj:=yH (hO8.out.1.at_ j)
          have HSet:=yH (Pi8.OwnP.set hO8.out (j+1) ((shiftL (rowL l i) (j+1)).getD j nil2) HOj.out (by omega))
          rw[HSt.out]at HSet
          rw[e]
          clear e HSt HOj
          generalize T ((shiftL (rowL l i) (j+1)).getD j nil2).1=V1 at*
          generalize T ((shiftL (rowL l i) (j+1)).getD j nil2).2=V2 at*
          generalize T ((shiftL (rowL l i) (j+1)).getD (j+1) nil2).1=U1 at*
          generalize T ((shiftL (rowL l i) (j+1)).getD (j+1) nil2).2=U2 at*
          go_wp2
          go_round
          case rel=>exact⟨j,by omega,by omega,by go_num,HSet,yH ((hB8.out.setCell (p:=⟨g7,(j+1)*2,none⟩) hgb8 _).setCell (p:=⟨g7,(j+1)*2+1,none⟩) hgb8 _)⟩
          case measure=>simp[intOf]<;>omega
         ·obtain rfl:j=k:=by omega
          obtain⟨b9,off9,eb9,hbl9,hs0,hs1⟩:=(HP.out.below hB8.out).2 i (by have:=HL.out;omega)
          simp at eb9
          obtain⟨rfl,rfl⟩:=eb9
          rw[HX1.out]at hs0
          rw[HX2.out]at hs1
          obtain⟨u0,u1,hgl8,hgb8⟩:=Pi8.OwnP.cellAt hO8.out j (by omega)
          have hfz:=Pi8.OwnP.frozen hO8.out
          have hj1:(j:Int)<(n:Int)+1:=by omega
          have HSet:=yH (Pi8.OwnP.set hO8.out j (l.getD i nil2) HOx.out (by omega))
          rw[shiftL_end _ _ _ (by rw[HLr.out];exact hjn),HIn.out,HX1.out,HX2.out]at HSet
          generalize T ((shiftL (rowL l i) j).getD j nil2).1=U1 at*
          generalize T ((shiftL (rowL l i) j).getD j nil2).2=U2 at*
          go_wp2
          go_round
          case rel=>exact⟨i+1,n+1,_,c7,by omega,by go_num,rfl,by omega,HSet,hall2,yH ((hB8.out.setCell (p:=⟨g7,j*2,none⟩) hgb8 _).setCell (p:=⟨g7,j*2+1,none⟩) hgb8 _)⟩
          case measure=>simp[intOf];omega
     ·have hnot: ¬(k:Int)<(n:Int):=by omega
      have hd2:decide (k<n)=false:=decide_eq_false (by omega)
      have hd3: ¬k<n:=by omega
      have HIn:=yH (rowL_ins (by have:=HL.out;omega) HR.out (by rw[hO.out.2.1];exact hk) hlow.out (fun h=>absurd h (by rw[hO.out.2.1];omega)))
      have HOx:=yH (okR_okP (HR.out i (by omega)))
      clear hlow hbl hc0 hc1
      go_wp2_with fail
      go_quiet (fail)
      obtain⟨nq1,hnq⟩: ∃x,x=nq:=⟨_,rfl⟩
      rw[←hnq]
      clear hnq nq
      go_wp2_with fail
      go_quiet (fail)
      have O4:Hid (OwnP ((wr.drewN nq1).drewN nq) w.heap.size A n c (rowL l i)):=hO
      have B4:Hid (Below w.heap.size w ((wr.drewN nq1).drewN nq)):=yH (below_drewN (below_drewN hB.out _) _)
      clear hO hB
      generalize (wr.drewN nq1).drewN nq=W4 at*
      go_wp2_with(at_builtin;refine wpList_append_elt pairElt rfl (.tmp 64) (.tmp 66) rfl w.heap.size _ n c (cellsP (rowL l i)) rfl (O4.out.2.2.alloc (.cells #[.string {data:= #[]},.string {data:= #[]}] 77)) ⟨W4.heap.size,0,none⟩ 1 1 [.string {data:= #[]},.string {data:= #[]}] rfl rfl (Blk.news (Blk.new W4 [.string {data:= #[]},.string {data:= #[]}] 77)) (by intro u hu;simp at hu;subst hu;rfl) (by omega) (by omega) ?_;intro A7 c7 w7 ho7 hbel7;have O7:=yH (⟨fun q hq=>(by
       rcases List.mem_append.1 hq with h|h
       ·exact O4.out.1 q h
       ·simp at h;subst h;exact⟨(fun x hx=>by cases hx),(fun x hx=>by cases hx),Nat.zero_le _,Nat.zero_le _⟩),by rw[List.length_append,O4.out.2.1];rfl,by rw[cellsP_app,blank_cells];exact ho7⟩:OwnP w7 w.heap.size A7 (n+1) c7 (rowL l i++ [nil2]));have B7:=yH ((B4.out.alloc B4.out.size (.cells #[.string {data:= #[]},.string {data:= #[]}] 77)).trans hbel7);clear ho7 hbel7)
      have HLr:=yH O4.out.2.1
      have HSt0:=yH (show shiftL (rowL l i) n=rowL l i++ [nil2]by rw[←HLr.out];exact shiftL_start _)
      clear O4 B4
      obtain⟨g7,rfl⟩:=own_some O7.out (by omega)
      go_loopw [9] (fun s wr=> ∃j:Nat,k≤j∧j≤n∧s= .int .i64 (j:Int)∧Hid (OwnP wr w.heap.size (some ⟨g7,0,none⟩) (n+1) c7 (shiftL (rowL l i) j))∧Hid (Below w.heap.size w wr)) (fun s _=>(intOf s).toNat)
      case atStart=>exact⟨n,hk,yR _,by go_num,(by rw[HSt0.out];exact O7),B7⟩
      case round=>
       obtain⟨j,hkj,hjn,rfl,hO8,hB8⟩:=hrel
       clear O7 B7
       rcases Nat.lt_or_ge k j with hlt8|hge8
       ·exfalso;omega
       ·obtain rfl:j=k:=by omega
        obtain⟨b9,off9,eb9,hbl9,hs0,hs1⟩:=(HP.out.below hB8.out).2 i (by have:=HL.out;omega)
        simp at eb9
        obtain⟨rfl,rfl⟩:=eb9
        rw[HX1.out]at hs0
        rw[HX2.out]at hs1
        obtain⟨u0,u1,hgl8,hgb8⟩:=Pi8.OwnP.cellAt hO8.out j (by omega)
        have hfz:=Pi8.OwnP.frozen hO8.out
        have hj1:(j:Int)<(n:Int)+1:=by omega
        have HSet:=yH (Pi8.OwnP.set hO8.out j (l.getD i nil2) HOx.out (by omega))
        rw[shiftL_end _ _ _ (by rw[HLr.out];exact hjn),HIn.out,HX1.out,HX2.out]at HSet
        generalize T ((shiftL (rowL l i) j).getD j nil2).1=U1 at*
        generalize T ((shiftL (rowL l i) j).getD j nil2).2=U2 at*
        go_wp2
        go_round
        case rel=>exact⟨i+1,n+1,_,c7,by omega,by go_num,rfl,by omega,HSet,hall2,yH ((hB8.out.setCell (p:=⟨g7,j*2,none⟩) hgb8 _).setCell (p:=⟨g7,j*2+1,none⟩) hgb8 _)⟩
        case measure=>simp[intOf];omega
   ·have hER:=yH (HAt.out i (by have:=HL.out;omega) hall.out hf)
    have hfb:(flawI (l.getD i nil2).1 (l.getD i nil2).2 !=0)=true:=by simpa using hf
    have hf0:=hf
    clear hall hf
    generalize T (l.getD i nil2).1=E1 at*
    generalize T (l.getD i nil2).2=E2 at*
    generalize flawI (l.getD i nil2).1 (l.getD i nil2).2=F at*
    have HF0:=yH hf0
    clear hf0
    go_wp2_with(go_at_call 146;(with_reducible refine(HFk.out _).mono ?_);rintro e w2 ⟨A6,m6,c6,rfl,hb⟩;have B2:=yH (hB.out.trans (hb.mono hB.out.size));clear hb)
    go_ret2
    exact listedN_none hER.out HF0.out B2.out
  ·obtain rfl:i=len:=by omega
   have ht:l.take i=l:=List.take_of_length_le (by have:=HL.out;omega)
   have hrow:rowL l i=sortP (ded l):=by unfold rowL;rw[ht]
   have hE:=HAll.out hall.out
   have hlen:=hO.out.2.1
   rw[hrow]at hO hlen
   rw[sortP_len]at hlen
   clear ht hall hrow
   by_cases h16:(ded l).length≤16
   ·rw[if_pos h16]at hE
    have HE:=yH hE
    have HLs:=yH (show listL l=sortP (ded l)from if_pos hE)
    have h16n:n≤16:=by omega
    have HLn:=yH hlen
    clear hE hlen
    go_wp2
    go_ret2
    unfold ListedN
    rw[HLs.out,HE.out,sortP_len,HLn.out]
    exact⟨_,_,rfl,hO.out.prs,hB.out,fun b off e h0=>ownP_new hO.out b off e (by rw[sortP_len,HLn.out];exact h0)⟩
   ·rw[if_neg h16]at hE
    have HE:=yH hE
    have h16n:16<n:=by omega
    clear hE hlen
    go_wp2
    go_ret2
    exact listedN_none HE.out (by decide) hB.out
end Pr2
end Go.Proofs.YtiddkgcafpaekaaGreat
