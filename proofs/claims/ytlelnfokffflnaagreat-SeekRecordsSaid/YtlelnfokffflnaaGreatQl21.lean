/-
  Texts beneath the proof.
-/
import Derived.Shelf.SlSortCmp.QuietGrown
import Derived.Test.YtlelnfokffflnaaGreatQl20
set_option linter.unusedVariables false
set_option linter.unusedSimpArgs false
set_option maxRecDepth 100000
set_option maxHeartbeats 16000000
open Go.ChangeShapes Go.WideShapes Go.ChangeAt Go.RowKit
namespace Go.Proofs.YtlelnfokffflnaaGreat
namespace Pl8
open Bytes8 Own8 OwnE Fa Pr8 Ps8
def codeL:List PR→Int
 | []=>0
 |p::r=>if flawI p.1 p.2=0 then codeL r else flawI p.1 p.2
theorem aIs: ∀(l:List PR) (k:Nat),k<l.length→(∀j,j<k→flawI (l.getD j nil2).1 (l.getD j nil2).2=0)→flawI (l.getD k nil2).1 (l.getD k nil2).2≠0→codeL l=flawI (l.getD k nil2).1 (l.getD k nil2).2
 |p::l,0,_,_,h=>by
  unfold codeL;rw[if_neg (by simpa using h)];rfl
 |p::l,k+1,hk,hj,h=>by
  unfold codeL
  rw[if_pos (by simpa using hj 0 (by omega))]
  exact aIs l k (by simpa using hk) (fun j hjk=>by simpa using hj (j+1) (by omega)) (by simpa using h)
theorem aEQ: ∀(l:List PR),(∀p∈l,flawI p.1 p.2=0)→codeL l=0
 | [],_=>rfl
 |p::l,h=>by unfold codeL;rw[if_pos (h p (by simp))];exact aEQ l fun q hq=>h q (by simp[hq])
def listE (l:List PR):Int:=if l=[]then 16 else if codeL l=0 then(if(ded l).length≤16 then 0 else 21)else codeL l
def listL (l:List PR):List PR:=if listE l=0 then sortP (ded l)else []
def ListedN (l:List PR)(w:World)(e:Ending)(w':World):Prop:= ∃A c,e= .returned (.tuple #[.slice A (listL l).length c,.int .i64 (listE l)])∧Prs w' A (listL l)∧Below w.heap.size w w'∧ ∀b off,A=some ⟨b,off,none⟩→0<(listL l).length→w.heap.size≤b
theorem aBP {l:List PR}{w w':World}{x:Int}(h:listE l=x)(d:x≠0)(a:Below w.heap.size w w'):ListedN l w (.returned (.tuple #[.slice none 0 0,.int .i64 x])) w':=by
 have c:listL l=[]:=if_neg (by rw[h];exact d)
 unfold ListedN
 rw[c,h]
 exact⟨none,0,rfl,Prs.nil _ _,a,fun b off e=>by cases e⟩
theorem aFt {w:World}{base n c:Nat}{A:Option Addr}{l:List PR}(h:OwnP w base A n c l)(i:0<n): ∃g,A=some ⟨g,0,none⟩:=by
 rcases h.2.2.2.2 with⟨a,f⟩|⟨d,b,e,a,_⟩
 ·omega
 ·injection a with e1 e2 e3
  exact⟨d,e1⟩
end Pl8
namespace Pb8
end Pb8
namespace Pq8
open OwnE Fb Fc Fo Seq8 Pr8 Ps8
def Rises (l:List PR):Prop:=l.Pairwise fun x y=>ltP x y=true
theorem aJq (a b c:List Int)(h:ltL a b=false)(k:ltL b c=false):ltL a c=false:=by
 cases d:ltL a c with
 |false=>rfl
 |true=>
  cases e:ltL b a with
  |true=>rw[aBO _ _ _ e d]at k;cases k
  |false=>rw[aD7 _ _ h e]at d;rw[d]at k;cases k
theorem aMX (l:List PR):(sortP l).Pairwise fun x y=>(!ltP y x)=true:=by
 unfold sortP
 refine List.pairwise_mergeSort ?_ ?_ l
 ·intro a b c h k
  simp only[Bool.not_eq_true']at h k⊢
  exact aJq _ _ _ k h
 ·intro a b
  cases h:ltP b a with
  |false=>rfl
  |true=>rw[show ltP a b=false from aGb _ _ h];rfl
theorem aHs {l:List PR}(a: ∀p∈l,okR p)(c:l.Nodup):Rises (sortP l):=by
 have d:=aMX l
 have b:(sortP l).Nodup:=(aB1 l).nodup_iff.2 c
 refine(d.and b).imp_of_mem fun {x y} hx hy h=>?_
 cases k:ltP x y with
 |true=>rfl
 |false=>exact absurd (aGi (a x ((aBb l x).1 hx)) (a y ((aBb l y).1 hy)) k (by simpa using h.1)) h.2
theorem aFu: ∀(l m:List PR),Rises l→Rises m→(∀p,p∈l↔p∈m)→l=m
 | [],[],_,_,_=>rfl
 | [],b::m,_,_,h=>absurd ((h b).2 (by simp)) (by simp)
 |a::l,[],_,_,h=>absurd ((h a).1 (by simp)) (by simp)
 |a::l,b::m,hl,hm,h=>by
  obtain⟨l1,l2⟩:=List.pairwise_cons.1 hl
  obtain⟨g,k⟩:=List.pairwise_cons.1 hm
  have d:a=b:=by
   rcases List.mem_cons.1 ((h a).1 (by simp))with e|j
   ·exact e
   ·rcases List.mem_cons.1 ((h b).2 (by simp))with e|i
    ·exact e.symm
    ·have this:ltP b a=false:=aGb _ _ (l1 b i)
     rw[g a j]at this;cases this
  subst d
  have f: ∀q,ltP a q=true→q≠a:=fun q hq e=>by
   rw[e,show ltP a a=false from aCY _]at hq;cases hq
  rw[aFu l m l2 k fun p=>⟨fun hp=>by
   rcases List.mem_cons.1 ((h p).1 (by simp[hp]))with e|c
   ·exact absurd e (f p (l1 p hp))
   ·exact c,fun hp=>by
   rcases List.mem_cons.1 ((h p).2 (by simp[hp]))with e|c
   ·exact absurd e (f p (g p hp))
   ·exact c⟩]
theorem aB2 {l:List PR}(a: ∀p∈l,okR p):Rises (sortP (ded l)):=aHs (fun p hp=>a p ((aC0 l p).1 hp)) (aGh l)
theorem list_mem (l:List PR)(p:PR):p∈sortP (ded l)↔p∈l:=(aBb _ p).trans (aC0 l p)
theorem aKA {l m:List PR}(a: ∀p∈l,okR p)(b: ∀p∈m,okR p)(h: ∀p,p∈l↔p∈m):sortP (ded l)=sortP (ded m):=
 aFu _ _ (aB2 a) (aB2 b) fun p=>(list_mem l p).trans ((h p).trans (list_mem m p).symm)
theorem aCf {p:PR}(h:okR p):okP p:=by
 obtain⟨b,a⟩:=aBi h.2.2
 exact⟨h.1,h.2.1,Nat.le_trans b (by decide),Nat.le_trans a (by decide)⟩
theorem OwnP.keptB {w w':World}{base i:Nat}{A:Option Addr}{n c:Nat}{l:List PR}(h:OwnP w base A n c l)(j:KeptB w.heap.size i w w')(o:i<base):OwnP w' base A n c l:=by
 refine⟨h.1,h.2.1,Nat.le_trans h.2.2.1 j.size,h.2.2.2.1,?_⟩
 rcases h.2.2.2.2 with e|⟨g,a,b,e,k,f,m⟩
 ·exact .inl e
 ·refine .inr ⟨g,a,b,e,k,?_,m⟩
  have d:g<w.heap.size:=by
   rcases Nat.lt_or_ge g w.heap.size with h|h
   ·exact h
   ·rw[Array.getElem?_eq_none h]at f;cases f
  rw[j.block g d (by omega)];exact f
def MadeP (gq:Nat)(a:Option Addr)(len cap:Nat)(f:Nat→Int)(w:World)(e:Ending)(w':World):Prop:=
 ∃(L:List PR) (A:Option Addr) (c k':Nat),e= .returned (.slice A L.length c)∧OwnP w' w.heap.size A L.length c L∧((∀p∈L,okR p)∧0<L.length∧L.length≤16)∧SeqIn w' gq a len cap f k'∧KeptB w.heap.size gq w w'
end Pq8
namespace Pi8
open Bytes8 Blk8 Fa Fo Pr8 Ps8 Pq8
def shiftL (R:List PR)(j:Nat):List PR:=(List.range (R.length+1)).map fun t=>if t≤j then(R++ [nil2]).getD t nil2 else R.getD (t-1) nil2
theorem aAF (R:List PR)(j:Nat):(shiftL R j).length=R.length+1:=by unfold shiftL;simp
theorem aBQ (R:List PR)(j t:Nat)(a:t<R.length+1):(shiftL R j).getD t nil2=if t≤j then(R++ [nil2]).getD t nil2 else R.getD (t-1) nil2:=by
 unfold shiftL
 rw[List.getD_eq_getElem?_getD,List.getElem?_map,List.getElem?_range a]
 rfl
theorem aFv {l m:List PR}(h:l.length=m.length)(k: ∀t,t<l.length→l.getD t nil2=m.getD t nil2):l=m:=by
 apply List.ext_getElem h
 intro i a b
 have:=k i a
 rwa[List.getD_eq_getElem?_getD,List.getD_eq_getElem?_getD,List.getElem?_eq_getElem a,List.getElem?_eq_getElem b]at this
theorem aER {l m:List PR}{t:Nat}(h:t<l.length):(l++m).getD t nil2=l.getD t nil2:=by
 rw[List.getD_eq_getElem?_getD,List.getD_eq_getElem?_getD,List.getElem?_append_left h]
theorem aIt {l:List PR}{i t:Nat}{p:PR}(a:i<l.length):(l.set i p).getD t nil2=if t=i then p else l.getD t nil2:=by
 rw[List.getD_eq_getElem?_getD,List.getD_eq_getElem?_getD,List.getElem?_set]
 by_cases h:i=t
 ·subst h;simp[a]
 ·rw[if_neg h,if_neg (fun e=>h e.symm)]
theorem aDp (R:List PR):shiftL R R.length=R++ [nil2]:=by
 refine aFv (by rw[aAF];simp) fun t ht=>?_
 rw[aAF]at ht
 rw[aBQ R _ t ht,if_pos (by omega)]
theorem aHt (R:List PR)(j:Nat)(b:j+1≤R.length):(shiftL R (j+1)).set (j+1) ((shiftL R (j+1)).getD j nil2)=shiftL R j:=by
 refine aFv (by rw[List.length_set,aAF,aAF]) fun t ht=>?_
 rw[List.length_set,aAF]at ht
 rw[aIt (by rw[aAF];omega),aBQ R j t ht]
 by_cases h:t=j+1
 ·subst h
  rw[if_pos rfl,if_neg (by omega),aBQ R (j+1) j (by omega),if_pos (by omega),aER (by omega)]
  rfl
 ·rw[if_neg h,aBQ R (j+1) t ht]
  by_cases a:t≤j
  ·rw[if_pos (by omega),if_pos a]
  ·rw[if_neg (by omega),if_neg a]
def insL (R:List PR)(k:Nat)(x:PR):List PR:=R.take k++x::R.drop k
theorem aES (R:List PR)(k:Nat)(x:PR)(b:k≤R.length):(shiftL R k).set k x=insL R k x:=by
 have c:(insL R k x).length=R.length+1:=by unfold insL;simp;omega
 refine aFv (by rw[List.length_set,aAF,c]) fun t ht=>?_
 rw[List.length_set,aAF]at ht
 rw[aIt (by rw[aAF];omega),aBQ R k t ht]
 unfold insL
 rw[List.getD_eq_getElem?_getD (l:=R.take k++x::R.drop k)]
 by_cases h:t=k
 ·subst h
  rw[if_pos rfl,List.getElem?_append_right (by simp;omega)]
  simp[Nat.min_eq_left b]
 ·rw[if_neg h]
  by_cases a:t≤k
  ·rw[if_pos a,aER (by omega),List.getElem?_append_left (by simp;omega),List.getElem?_take_of_lt (by omega),List.getD_eq_getElem?_getD]
  ·rw[if_neg a,List.getElem?_append_right (by simp;omega),List.length_take,Nat.min_eq_left b]
   obtain⟨d,rfl⟩: ∃d,t=k+1+d:=⟨t-k-1,by omega⟩
   rw[show k+1+d-k=d+1 by omega,List.getElem?_cons_succ,List.getElem?_drop,List.getD_eq_getElem?_getD,show k+1+d-1=k+d by omega]
theorem aMY (R:List PR)(k:Nat)(x q:PR):q∈insL R k x↔q∈R∨q=x:=by
 unfold insL
 conv=>rhs;rw[←List.take_append_drop k R]
 simp only[List.mem_append,List.mem_cons]
 constructor
 ·rintro(h|h|h)
  ·exact Or.inl (Or.inl h)
  ·exact Or.inr h
  ·exact Or.inl (Or.inr h)
 ·rintro((h|h)|h)
  ·exact Or.inl h
  ·exact Or.inr (Or.inr h)
  ·exact Or.inr (Or.inl h)
theorem aJr {R:List PR}{k:Nat}{x:PR}(e:Rises R)(l:k≤R.length)(j: ∀t,t<k→ltP (R.getD t nil2) x=true)(g:k<R.length→ltP x (R.getD k nil2)=true):Rises (insL R k x):=by
 unfold insL Rises
 have h:=e.sublist (List.drop_sublist k R)
 have b: ∀q∈R.drop k,ltP x q=true:=fun q c=>by
  obtain⟨i,d,rfl⟩:=List.mem_iff_getElem.1 c
  rw[List.length_drop]at d
  have a:=g (by omega)
  rw[List.getElem_drop]
  rcases Nat.eq_zero_or_pos i with f|f
  ·subst f
   rwa[List.getD_eq_getElem?_getD,List.getElem?_eq_getElem (by omega)]at a
  ·refine aBO _ _ _ a ?_
   have:=List.pairwise_iff_getElem.1 e k (k+i) (by omega) (by omega) (by omega)
   rwa[List.getD_eq_getElem?_getD,List.getElem?_eq_getElem (show k<R.length by omega)]
 rw[List.pairwise_append]
 refine⟨e.sublist (List.take_sublist k R),List.pairwise_cons.2 ⟨b,h⟩,fun p hp q c=>?_⟩
 obtain⟨i,d,rfl⟩:=List.mem_iff_getElem.1 hp
 rw[List.length_take]at d
 have a:=j i (by omega)
 rw[List.getElem_take]
 rw[List.getD_eq_getElem?_getD,List.getElem?_eq_getElem (show i<R.length by omega)]at a
 rcases List.mem_cons.1 c with rfl|c
 ·exact a
 ·exact aBO _ _ _ a (b q c)
def rowL (l:List PR)(i:Nat):List PR:=sortP (ded (l.take i))
theorem aCH {l:List PR}{i:Nat}(h: ∀t,t<i→okR (l.getD t nil2))(b:i≤l.length): ∀p∈l.take i,okR p:=fun p hp=>by
 obtain⟨t,a,rfl⟩:=List.mem_iff_getElem.1 hp
 rw[List.length_take]at a
 have:=h t (by omega)
 rw[List.getElem_take]
 rwa[List.getD_eq_getElem?_getD,List.getElem?_eq_getElem (show t<l.length by omega)]at this
theorem aJs {l:List PR}{i:Nat}(b:i<l.length)(h: ∀t,t<i+1→okR (l.getD t nil2))(d:l.getD i nil2∈rowL l i):rowL l (i+1)=rowL l i:=by
 have c:=aCH h (by omega)
 have a:=aCH (fun t ht=>h t (by omega)) (show i≤l.length by omega)
 refine aKA c a fun p=>?_
 rw[aEc b]
 simp only[List.mem_append,List.mem_singleton]
 exact⟨fun k=>k.elim id fun e=>by rw[e];exact(list_mem _ _).1 d,Or.inl⟩
theorem aIu {l:List PR}{i k:Nat}(b:i<l.length)(h: ∀t,t<i+1→okR (l.getD t nil2))(d:k≤(rowL l i).length)(e: ∀t,t<k→ltP ((rowL l i).getD t nil2) (l.getD i nil2)=true)(a:k<(rowL l i).length→ltP (l.getD i nil2) ((rowL l i).getD k nil2)=true):insL (rowL l i) k (l.getD i nil2)=rowL l (i+1):=by
 have f:=aCH h (by omega)
 have c:=aCH (fun t ht=>h t (by omega)) (show i≤l.length by omega)
 refine aFu _ _ (aJr (aB2 c) d e a) (aB2 f) fun p=>?_
 rw[aMY]
 unfold rowL
 rw[list_mem,list_mem,aEc b]
 simp
theorem aKB (l:List PR):rowL l 0=[]:=by unfold rowL ded sortP;simp
theorem aET: ∀(l:List PR) (i:Nat) (p:PR),((cellsP l).set (i*2) (.string (T p.1))).set (i*2+1) (.string (T p.2))=cellsP (l.set i p)
 | [],_,_=>rfl
 |q::l,0,p=>by simp[cellsP]
 |q::l,i+1,p=>by
  have ih:=aET l i p
  rw[show(i+1)*2=i*2+1+1 by omega]
  simp only[cellsP,List.set_cons_succ]
  rw[ih]
theorem OwnP.frozen {w:World}{base n c g:Nat}{l:List PR}(h:OwnP w base (some ⟨g,0,none⟩) n c l)(i:Nat):w.frozen? ⟨g,i,none⟩=false:=by
 obtain⟨_,b,a,_⟩:=aGj h
 simp[World.frozen?,a]
theorem OwnP.set {w:World}{base n c g:Nat}{l:List PR}(h:OwnP w base (some ⟨g,0,none⟩) n c l)(i:Nat)(p:PR)(s:okP p)(v:i<n):
 OwnP ((w.setCell ⟨g,i*2,none⟩ (.string (T p.1))).setCell ⟨g,i*2+1,none⟩ (.string (T p.2))) base (some ⟨g,0,none⟩) n c (l.set i p):=by
 refine⟨fun q hq=>?_,by rw[List.length_set];exact h.2.1,?_,?_,?_⟩
 ·rcases List.mem_or_eq_of_mem_set hq with k|k
  ·exact h.1 q k
  ·subst k;exact s
 ·simpa [World.setCell]using h.2.2.1
 ·rw[aB0,List.length_set,h.2.1]
 ·rcases h.2.2.2.2 with⟨b,t⟩|⟨u,a,e,b,o,m,d,f,j,r⟩
  ·cases b
  ·injection b with e1 e2 e3
   simp at e1
   subst e1
   refine .inr ⟨g,a,(e.setIfInBounds (i*2) (.string (T p.1))).setIfInBounds (i*2+1) (.string (T p.2)),?_,o,?_,d,f,by simpa using j,?_⟩
   ·rw[←e3]
   ·simp[World.setCell,Array.getElem?_modify,m]
   ·rw[←aET,←r]
    simp only[Array.toList_setIfInBounds,List.take_set]
theorem OwnP.cellAt {w:World}{base n c g:Nat}{l:List PR}(h:OwnP w base (some ⟨g,0,none⟩) n c l)(i:Nat)(o:i<n):w.cell? ⟨g,i*2,none⟩=some (.string (T (l.getD i nil2).1))∧w.cell? ⟨g,i*2+1,none⟩=some (.string (T (l.getD i nil2).2))∧g<w.heap.size∧base≤g:=by
 obtain⟨j,m,p,q⟩:=aGj h
 obtain⟨b,k,e,a,d,f⟩:=h.prs.2 i (by rw[h.2.1];exact o)
 simp at e
 obtain⟨rfl,rfl⟩:=e
 rw[Nat.zero_add]at d f
 exact⟨d,f,a,j⟩
end Pi8
namespace Pr2
open Bytes8 Blk8 Own8 OwnE Fa Fb Fc Fo Pr8 Pa8 Ps8 Pl8 Pq8 Pi8
theorem aJt (n v:List Int)(b:AllB n)(d:AllB v)(a:n.length≤9223372036854775807)(w:World):
 Calls Tryz.prog 128 #[.agg #[.string (T n),.string (T v)]] w fun e w'=> ∃(A:Option Addr) (m c:Nat),e= .returned (.tuple #[.slice A m c,.int .i64 (flawI n v)])∧Below w.heap.size w w':=
 (aKi n v b d a w).mono fun e w' ⟨A,c,h1,h2,h3⟩=>⟨A,_,c,h1,h3.below⟩
theorem aOL {p q:PR}(b:okP p)(a:okP q):Op.bytesLess (T (pay p.1 p.2)).toList (T (pay q.1 q.2)).toList=ltP p q:=aHm (aBr b.1 b.2.1) (aBr a.1 a.2.1)
theorem aEd:cellsP [nil2]=[.string {data:= #[]},.string {data:= #[]}]:=by rw[aFp];rfl
theorem aMZ {w:World}{base n c:Nat}{A:Option Addr}{l:List PR}(h:OwnP w base A n c l): ∀b off,A=some ⟨b,off,none⟩→0<l.length→base≤b:=fun b off e h0=>by
 obtain⟨g,a,d,_,_⟩:=OwnE.cell h.2.2 (i:=0) (by rw[aB0];omega)
 rw[e]at a
 injection a with a
 injection a with e3 e4
 omega
set_option maxRecDepth 100000 in
theorem aGk (a:Option Addr)(l:List PR)(len aT:Nat)(w:World)(hP:Prs w a l)(hL:l.length=len)(aZ:len≤100000):
 Calls Tryz.prog 75 #[.slice a len aT] w (ListedN l w):=by
 by_cases h0:len=0
 ·subst h0
  have he:listE l=16:=by unfold listE;rw[if_pos (List.eq_nil_of_length_eq_zero hL)]
  have HE:=yH he
  clear he hP hL
  go_enter Tryz.func75,Tryz.ntmps75
  go_wp2
  go_ret2
  exact aBP HE.out (by decide) (Below.refl _ _)
 have a3:((len:Int)==0)=false:=by simp;omega
 have ap:l≠ []:=fun e=>h0 (by rw[←hL,e];rfl)
 have HP:=yH hP
 have Z:=yH hL
 have aJ:=yH hP.1
 have HF:=yH fun k w=>aJt (l.getD k nil2).1 (l.getD k nil2).2 (hP.1.at_ k).1 (hP.1.at_ k).2.1 (hP.1.at_ k).2.2.1 w
 have aX:=yH fun k h1 h2 h3=>(by
  have e:=aIs l k h1 h2 h3
  unfold listE
  rw[if_neg ap,if_neg (by rw[e];exact h3),e]:listE l=flawI (l.getD k nil2).1 (l.getD k nil2).2)
 have aC:=yH (fun(h: ∀j,j<len→flawI (l.getD j nil2).1 (l.getD j nil2).2=0)=>(by
  have hf: ∀p∈l,flawI p.1 p.2=0:=fun p hp=>by
   obtain⟨i,hi,rfl⟩:=aIr hp
   exact h i (by omega)
  unfold listE
  rw[if_neg ap,aEQ l hf,if_pos rfl]:listE l=(if(ded l).length≤16 then 0 else 21)))
 have ba:Tryz.prog.follows .mixedOrders=true:=by kernel_rfl
 clear hP hL h0 ap
 go_enter Tryz.func75,Tryz.ntmps75
 go_wp2
 go_loopw [4,5] (fun s i wr=> ∃(k n:Nat) (A:Option Addr) (c:Nat),k≤len∧i= .int .i64 (k:Int)∧s= .slice A n c∧n≤k∧Hid (OwnP wr w.heap.size A n c (rowL l k))∧Hid (∀j,j<k→flawI (l.getD j nil2).1 (l.getD j nil2).2=0)∧Hid (Below w.heap.size w wr)) (fun _ i _=>len-(intOf i).toNat)
 case atStart=>exact⟨0,0,none,0,by omega,rfl,rfl,by omega,(by rw[aKB];exact yH (OwnP.nil w _ (yR _))),yH (fun j hj=>absurd hj (by omega)),yH (Below.refl _ _)⟩
 case round=>
  obtain⟨i,n,A,c,hi,rfl,rfl,hn,z,r,C⟩:=hrel
  rcases Nat.lt_or_ge i len with bc|a4
  ·obtain⟨b,off,rfl,M,G,I⟩:=(HP.out.below C.out).2 i (by have:=Z.out;omega)
   have a9:(i:Int)<(len:Int):=by omega
   have al:=yH (HF.out i)
   by_cases hf:flawI (l.getD i nil2).1 (l.getD i nil2).2=0
   ·have y:=yH (fun j (hj:j<i+1)=>(by
     rcases Nat.lt_or_ge j i with h1|h1
     ·exact r.out j h1
     ·obtain rfl:j=i:=by omega
      exact hf:flawI (l.getD j nil2).1 (l.getD j nil2).2=0))
    have HR:=yH (fun t (Y:t<i+1)=>(⟨(aJ.out.at_ t).1,(aJ.out.at_ t).2.1,y.out t Y⟩:okR (l.getD t nil2)))
    have ay:Hid (∀t,t<n→okR ((rowL l i).getD t nil2)):=yH fun t Y=>by
     have hm:(rowL l i).getD t nil2∈rowL l i:=aEa (by rw[z.out.2.1];exact Y)
     exact aCH (fun t Y=>HR.out t (by omega)) (by have:=Z.out;omega) _ ((list_mem _ _).1 hm)
    rw[hf]at al
    clear hf r
    generalize aE:T (l.getD i nil2).1=X1 at*
    generalize av:T (l.getD i nil2).2=X2 at*
    have E:=yH aE
    have H:=yH av
    clear aE av
    go_wp2_with(go_at_call 128;(with_reducible refine(al.out _).mono ?_);rintro e w2 ⟨A6,m6,c6,rfl,hb⟩;have O2:=yH (z.out.kept hb (yR _));have B2:=yH (C.out.trans (hb.mono C.out.size));clear hb)
    clear z C G I M
    go_loopw [8] (fun s wr=> ∃k:Nat,k≤n∧s= .int .i64 (k:Int)∧Hid (∀t,t<k→ltP ((rowL l i).getD t nil2) (l.getD i nil2)=true)∧Hid (OwnP wr w.heap.size A n c (rowL l i))∧Hid (Below w.heap.size w wr)) (fun s _=>n-(intOf s).toNat)
    case atStart=>exact⟨0,by omega,rfl,yH (fun t Y=>absurd Y (by omega)),O2,B2⟩
    case round=>
     obtain⟨k,hk,rfl,v,z,C⟩:=hrel
     clear O2 B2
     obtain⟨b',a0,eb,M,G,I⟩:=(HP.out.below C.out).2 i (by have:=Z.out;omega)
     simp at eb
     obtain⟨rfl,rfl⟩:=eb
     rw[E.out]at G
     rw[H.out]at I
     rcases Nat.lt_or_ge k n with L|L
     ·obtain⟨g,rfl⟩:=aFt z.out (by omega)
      obtain⟨aL,aq,aD,a8⟩:=Pi8.OwnP.cellAt z.out k L
      have aY:(k:Int)<(n:Int):=by omega
      have aV:decide (k<n)=true:=decide_eq_true L
      have r1:=ay.out k L
      have r2:=HR.out i (by omega)
      obtain⟨q1,q2⟩:=aBi r1.2.2
      obtain⟨q3,q4⟩:=aBi r2.2.2
      have ac:=aOL (aCf r1) (aCf r2)
      have aj:=yH fun w=>aCw ((rowL l i).getD k nil2).1 ((rowL l i).getD k nil2).2 (by omega) w
      have aa:=yH fun w=>aCw (l.getD i nil2).1 (l.getD i nil2).2 (by omega) w
      have ao:=aOa (aCf r1) (aCf r2)
      have ae:=yH (fun h=>aGi r1 r2 h)
      have am:=yH (aCf r2)
      dsimp only[pv]at aj aa
      rw[E.out,H.out]at aa ao
      have p0:=cell_grown aD aL
      have p1:=cell_grown aD aq
      have x0:=cell_grown M G
      have x1:=cell_grown M I
      have HB:=yH C.out
      clear aL aq G I q1 q2 q3 q4 r1 r2
      generalize T (pay ((rowL l i).getD k nil2).1 ((rowL l i).getD k nil2).2)=S1 at*
      generalize T (pay (l.getD i nil2).1 (l.getD i nil2).2)=S2 at*
      generalize aU:T ((rowL l i).getD k nil2).1=R1 at*
      generalize aR:T ((rowL l i).getD k nil2).2=R2 at*
      clear aU aR
      have K1:Hid (∀q os,Calls Tryz.prog 129 #[.agg #[.string R1,.string R2]] (Sort.grow (wr.drewN q) os) fun e w'=>e= .returned (.string S1)∧ ∃q' os',w'=Sort.grow ((Sort.grow (wr.drewN q) os).drewN q') os'):=yH fun q os=>aj.out _
      have K2:Hid (∀q os,Calls Tryz.prog 129 #[.agg #[.string X1,.string X2]] (Sort.grow (wr.drewN q) os) fun e w'=>e= .returned (.string S2)∧ ∃q' os',w'=Sort.grow ((Sort.grow (wr.drewN q) os).drewN q') os'):=yH fun q os=>aa.out _
      clear aj aa
      cases hz:ltP ((rowL l i).getD k nil2) (l.getD i nil2)with
      |true=>
       rw[hz]at ac
       have ak:=yH (fun t (Y:t<k+1)=>(by
        rcases Nat.lt_or_ge t k with h1|h1
        ·exact v.out t h1
        ·obtain rfl:t=k:=by omega
         exact hz:ltP ((rowL l i).getD t nil2) (l.getD i nil2)=true))
       clear hz v
       go_wp2_with fail
       go_quiet_grown (first|(go_at_call 129;with_reducible refine Calls.grown_of (K1.out _ _))|(go_at_call 129;with_reducible refine Calls.grown_of (K2.out _ _)))
       have HG:=yH (Grew.below (w:=wr) ⟨nq,osq,rfl⟩)
       have O3:=yH (z.out.kept HG.out (yR _))
       have B3:=yH (HB.out.trans (Below.mono HG.out HB.out.size))
       go_wp2
       go_round
       case rel=>exact⟨k+1,by omega,by go_num,ak,O3,B3⟩
       case measure=>simp[intOf];omega
      |false=>
       rw[hz]at ac
       have HZ:=yH hz
       clear hz
       go_wp2_with fail
       go_quiet_grown (first|(go_at_call 129;with_reducible refine Calls.grown_of (K1.out _ _))|(go_at_call 129;with_reducible refine Calls.grown_of (K2.out _ _)))
       have HG:=yH (Grew.below (w:=wr) ⟨nq,osq,rfl⟩)
       have O3:=yH (z.out.kept HG.out (yR _))
       have B3:=yH (HB.out.trans (Below.mono HG.out HB.out.size))
       have y0:=p0 nq osq
       have y1:=p1 nq osq
       have z0:=x0 nq osq
       have z1:=x1 nq osq
       clear K1 K2 p0 p1 x0 x1 HG z C HB
       generalize Sort.grow (wr.drewN nq) osq=W3 at*
       by_cases he:(rowL l i).getD k nil2=l.getD i nil2
       ·have hm:l.getD i nil2∈rowL l i:=by rw[←he];exact aEa (by rw[O3.out.2.1];exact L)
        have aP:=yH (aJs (by have:=Z.out;omega) HR.out hm)
        rw[decide_eq_true he]at ao
        clear he hm
        go_wp2_with fail
        go_quiet (fail)
        go_wp2
        go_round
        case rel=>exact⟨i+1,n,_,c,by omega,by go_num,rfl,by omega,by rw[aP.out];exact O3,y,yH (below_drewN B3.out _)⟩
        case measure=>simp[intOf];omega
       ·have aA:ltP (l.getD i nil2) ((rowL l i).getD k nil2)=true:=by
         cases h:ltP (l.getD i nil2) ((rowL l i).getD k nil2)with
         |true=>rfl
         |false=>exact absurd (ae.out HZ.out h) he
        have an:=yH (aIu (by have:=Z.out;omega) HR.out (by rw[O3.out.2.1];exact hk) v.out (fun _=>aA))
        rw[decide_eq_false he]at ao
        clear he aA ae HZ v
        go_wp2_with fail
        go_quiet (fail)
        have V:Hid (OwnP (W3.drewN nq) w.heap.size (some ⟨g,0,none⟩) n c (rowL l i)):=O3
        have B4:Hid (Below w.heap.size w (W3.drewN nq)):=yH (below_drewN B3.out _)
        clear O3 B3 y0 y1 z0 z1
        generalize W3.drewN nq=W4 at*
        go_wp2_with(at_builtin;refine aAT aEb rfl (.tmp 64) (.tmp 66) rfl w.heap.size _ n c (cellsP (rowL l i)) rfl (V.out.2.2.alloc (.cells #[.string {data:= #[]},.string {data:= #[]}] 82)) ⟨W4.heap.size,0,none⟩ 1 1 [.string {data:= #[]},.string {data:= #[]}] rfl rfl (Blk.news (Blk.new W4 [.string {data:= #[]},.string {data:= #[]}] 82)) (by intro u hu;simp at hu;subst hu;rfl) (by omega) (by omega) ?_;intro A7 c7 w7 R o;have O7:=yH (⟨fun q hq=>(by
         rcases List.mem_append.1 hq with h|h
         ·exact V.out.1 q h
         ·simp at h;subst h;exact⟨(fun x hx=>by cases hx),(fun x hx=>by cases hx),Nat.zero_le _,Nat.zero_le _⟩),by rw[List.length_append,V.out.2.1];rfl,by rw[aBv,aEd];exact R⟩:OwnP w7 w.heap.size A7 (n+1) c7 (rowL l i++ [nil2]));have B7:=yH ((B4.out.alloc B4.out.size (.cells #[.string {data:= #[]},.string {data:= #[]}] 82)).trans o);clear R o)
        have D:=yH V.out.2.1
        have X:=yH (show shiftL (rowL l i) n=rowL l i++ [nil2]by rw[←D.out];exact aDp _)
        clear V B4
        obtain⟨g7,rfl⟩:=aFt O7.out (by omega)
        go_loopw [9] (fun s wr=> ∃j:Nat,k≤j∧j≤n∧s= .int .i64 (j:Int)∧Hid (OwnP wr w.heap.size (some ⟨g7,0,none⟩) (n+1) c7 (shiftL (rowL l i) j))∧Hid (Below w.heap.size w wr)) (fun s _=>(intOf s).toNat)
        case atStart=>exact⟨n,hk,yR _,by go_num,(by rw[X.out];exact O7),B7⟩
        case round=>
         obtain⟨j,aQ,ag,rfl,m,J⟩:=hrel
         clear O7 B7
         rcases Nat.lt_or_ge k j with aH|aI
         ·obtain⟨j,rfl⟩: ∃j',j=j'+1:=⟨j-1,by omega⟩
          have e:((j+1:Nat):Int)=(j:Int)+1:=by omega
          have a2:(k:Int)<(j:Int)+1:=by omega
          have au:(j:Int)+1<(n:Int)+1:=by omega
          have a6:(j:Int)<(n:Int)+1:=by omega
          have a5:(0:Int)≤(j:Int)+1:=by omega
          have a7:((j:Int)+1).toNat=j+1:=by omega
          obtain⟨v0,v1,ab,f⟩:=Pi8.OwnP.cellAt m.out j (by omega)
          obtain⟨u0,u1,_,_⟩:=Pi8.OwnP.cellAt m.out (j+1) (by omega)
          have ar:=Pi8.OwnP.frozen m.out
          have aK:=yH (aHt (rowL l i) j (by rw[D.out];omega))
          have aF:=yH (m.out.1.at_ j)
          have d:=yH (Pi8.OwnP.set m.out (j+1) ((shiftL (rowL l i) (j+1)).getD j nil2) aF.out (by omega))
          rw[aK.out]at d
          rw[e]
          clear e aK aF
          generalize T ((shiftL (rowL l i) (j+1)).getD j nil2).1=V1 at*
          generalize T ((shiftL (rowL l i) (j+1)).getD j nil2).2=V2 at*
          generalize T ((shiftL (rowL l i) (j+1)).getD (j+1) nil2).1=U1 at*
          generalize T ((shiftL (rowL l i) (j+1)).getD (j+1) nil2).2=U2 at*
          go_wp2
          go_round
          case rel=>exact⟨j,by omega,by omega,by go_num,d,yH ((J.out.setCell (p:=⟨g7,(j+1)*2,none⟩) f _).setCell (p:=⟨g7,(j+1)*2+1,none⟩) f _)⟩
          case measure=>simp[intOf]<;>omega
         ·obtain rfl:j=k:=by omega
          obtain⟨b9,aB,N,aM,ai,af⟩:=(HP.out.below J.out).2 i (by have:=Z.out;omega)
          simp at N
          obtain⟨rfl,rfl⟩:=N
          rw[E.out]at ai
          rw[H.out]at af
          obtain⟨u0,u1,ab,f⟩:=Pi8.OwnP.cellAt m.out j (by omega)
          have ar:=Pi8.OwnP.frozen m.out
          have au:(j:Int)<(n:Int)+1:=by omega
          have d:=yH (Pi8.OwnP.set m.out j (l.getD i nil2) am.out (by omega))
          rw[aES _ _ _ (by rw[D.out];exact ag),an.out,E.out,H.out]at d
          generalize T ((shiftL (rowL l i) j).getD j nil2).1=U1 at*
          generalize T ((shiftL (rowL l i) j).getD j nil2).2=U2 at*
          go_wp2
          go_round
          case rel=>exact⟨i+1,n+1,_,c7,by omega,by go_num,rfl,by omega,d,y,yH ((J.out.setCell (p:=⟨g7,j*2,none⟩) f _).setCell (p:=⟨g7,j*2+1,none⟩) f _)⟩
          case measure=>simp[intOf];omega
     ·have a1: ¬(k:Int)<(n:Int):=by omega
      have aV:decide (k<n)=false:=decide_eq_false (by omega)
      have bd: ¬k<n:=by omega
      have an:=yH (aIu (by have:=Z.out;omega) HR.out (by rw[z.out.2.1];exact hk) v.out (fun h=>absurd h (by rw[z.out.2.1];omega)))
      have am:=yH (aCf (HR.out i (by omega)))
      clear v M G I
      go_wp2_with fail
      go_quiet (fail)
      obtain⟨ah,aN⟩: ∃x,x=nq:=⟨_,rfl⟩
      rw[←aN]
      clear aN nq
      go_wp2_with fail
      go_quiet (fail)
      have V:Hid (OwnP ((wr.drewN ah).drewN nq) w.heap.size A n c (rowL l i)):=z
      have B4:Hid (Below w.heap.size w ((wr.drewN ah).drewN nq)):=yH (below_drewN (below_drewN C.out _) _)
      clear z C
      generalize (wr.drewN ah).drewN nq=W4 at*
      go_wp2_with(at_builtin;refine aAT aEb rfl (.tmp 64) (.tmp 66) rfl w.heap.size _ n c (cellsP (rowL l i)) rfl (V.out.2.2.alloc (.cells #[.string {data:= #[]},.string {data:= #[]}] 82)) ⟨W4.heap.size,0,none⟩ 1 1 [.string {data:= #[]},.string {data:= #[]}] rfl rfl (Blk.news (Blk.new W4 [.string {data:= #[]},.string {data:= #[]}] 82)) (by intro u hu;simp at hu;subst hu;rfl) (by omega) (by omega) ?_;intro A7 c7 w7 R o;have O7:=yH (⟨fun q hq=>(by
       rcases List.mem_append.1 hq with h|h
       ·exact V.out.1 q h
       ·simp at h;subst h;exact⟨(fun x hx=>by cases hx),(fun x hx=>by cases hx),Nat.zero_le _,Nat.zero_le _⟩),by rw[List.length_append,V.out.2.1];rfl,by rw[aBv,aEd];exact R⟩:OwnP w7 w.heap.size A7 (n+1) c7 (rowL l i++ [nil2]));have B7:=yH ((B4.out.alloc B4.out.size (.cells #[.string {data:= #[]},.string {data:= #[]}] 82)).trans o);clear R o)
      have D:=yH V.out.2.1
      have X:=yH (show shiftL (rowL l i) n=rowL l i++ [nil2]by rw[←D.out];exact aDp _)
      clear V B4
      obtain⟨g7,rfl⟩:=aFt O7.out (by omega)
      go_loopw [9] (fun s wr=> ∃j:Nat,k≤j∧j≤n∧s= .int .i64 (j:Int)∧Hid (OwnP wr w.heap.size (some ⟨g7,0,none⟩) (n+1) c7 (shiftL (rowL l i) j))∧Hid (Below w.heap.size w wr)) (fun s _=>(intOf s).toNat)
      case atStart=>exact⟨n,hk,yR _,by go_num,(by rw[X.out];exact O7),B7⟩
      case round=>
       obtain⟨j,aQ,ag,rfl,m,J⟩:=hrel
       clear O7 B7
       rcases Nat.lt_or_ge k j with aH|aI
       ·exfalso;omega
       ·obtain rfl:j=k:=by omega
        obtain⟨b9,aB,N,aM,ai,af⟩:=(HP.out.below J.out).2 i (by have:=Z.out;omega)
        simp at N
        obtain⟨rfl,rfl⟩:=N
        rw[E.out]at ai
        rw[H.out]at af
        obtain⟨u0,u1,ab,f⟩:=Pi8.OwnP.cellAt m.out j (by omega)
        have ar:=Pi8.OwnP.frozen m.out
        have au:(j:Int)<(n:Int)+1:=by omega
        have d:=yH (Pi8.OwnP.set m.out j (l.getD i nil2) am.out (by omega))
        rw[aES _ _ _ (by rw[D.out];exact ag),an.out,E.out,H.out]at d
        generalize T ((shiftL (rowL l i) j).getD j nil2).1=U1 at*
        generalize T ((shiftL (rowL l i) j).getD j nil2).2=U2 at*
        go_wp2
        go_round
        case rel=>exact⟨i+1,n+1,_,c7,by omega,by go_num,rfl,by omega,d,y,yH ((J.out.setCell (p:=⟨g7,j*2,none⟩) f _).setCell (p:=⟨g7,j*2+1,none⟩) f _)⟩
        case measure=>simp[intOf];omega
   ·have aO:=yH (aX.out i (by have:=Z.out;omega) r.out hf)
    have bb:(flawI (l.getD i nil2).1 (l.getD i nil2).2 !=0)=true:=by simpa using hf
    have aG:=hf
    clear r hf
    generalize T (l.getD i nil2).1=E1 at*
    generalize T (l.getD i nil2).2=E2 at*
    generalize flawI (l.getD i nil2).1 (l.getD i nil2).2=F at*
    have aS:=yH aG
    clear aG
    go_wp2_with(go_at_call 128;(with_reducible refine(al.out _).mono ?_);rintro e w2 ⟨A6,m6,c6,rfl,hb⟩;have B2:=yH (C.out.trans (hb.mono C.out.size));clear hb)
    go_ret2
    exact aBP aO.out aS.out B2.out
  ·obtain rfl:i=len:=by omega
   have Y:l.take i=l:=List.take_of_length_le (by have:=Z.out;omega)
   have ad:rowL l i=sortP (ded l):=by unfold rowL;rw[Y]
   have hE:=aC.out r.out
   have B:=z.out.2.1
   rw[ad]at z B
   rw[aBw]at B
   clear Y r ad
   by_cases aw:(ded l).length≤16
   ·rw[if_pos aw]at hE
    have HE:=yH hE
    have aW:=yH (show listL l=sortP (ded l)from if_pos hE)
    have ax:n≤16:=by omega
    have az:=yH B
    clear hE B
    go_wp2
    go_ret2
    unfold ListedN
    rw[aW.out,HE.out,aBw,az.out]
    exact⟨_,_,rfl,z.out.prs,C.out,fun b off e h0=>aMZ z.out b off e (by rw[aBw,az.out];exact h0)⟩
   ·rw[if_neg aw]at hE
    have HE:=yH hE
    have ax:16<n:=by omega
    clear hE B
    go_wp2
    go_ret2
    exact aBP HE.out (by decide) C.out
end Pr2
end Go.Proofs.YtlelnfokffflnaaGreat
