/-
  Texts beneath.
-/
import Derived.Shelf.SlSortCmp.QuietGrown
import Derived.Test.YteaikbodkgjkdaaGreatQl20
set_option linter.unusedVariables false
set_option linter.unusedSimpArgs false
set_option maxRecDepth 100000
set_option maxHeartbeats 16000000
open Go.ChangeShapes Go.WideShapes Go.ChangeAt Go.RowKit
namespace Go.Proofs.YteaikbodkgjkdaaGreat
namespace Pl8
open Bytes8 Own8 OwnE Fa Pr8 Ps8
def codeL:List PR→Int
 | []=>0
 |p::r=>if flawI p.1 p.2=0 then codeL r else flawI p.1 p.2
theorem aIs: ∀(l:List PR) (k:Nat),k<l.length→(∀j,j<k→flawI (l.getD j nil2).1 (l.getD j nil2).2=0)→flawI (l.getD k nil2).1 (l.getD k nil2).2≠0→codeL l=flawI (l.getD k nil2).1 (l.getD k nil2).2
 |p::l,0,_,_,h=>by
  unfold codeL;rw[if_neg (by simpa using h)];rfl
 |p::l,k+1,hk,hj,h=>by
  unfold codeL
  rw[if_pos (by simpa using hj 0 (by omega))]
  exact aIs l k (by simpa using hk) (fun j hjk=>by simpa using hj (j+1) (by omega)) (by simpa using h)
theorem aEQ: ∀(l:List PR),(∀p∈l,flawI p.1 p.2=0)→codeL l=0
 | [],_=>rfl
 |p::l,h=>by unfold codeL;rw[if_pos (h p (by simp))];exact aEQ l fun q hq=>h q (by simp[hq])
def listE (l:List PR):Int:=if l=[]then 16 else if codeL l=0 then(if(ded l).length≤16 then 0 else 21)else codeL l
def listL (l:List PR):List PR:=if listE l=0 then sortP (ded l)else []
def ListedN (l:List PR)(w:World)(e:Ending)(w':World):Prop:= ∃A c,e= .returned (.tuple #[.slice A (listL l).length c,.int .i64 (listE l)])∧Prs w' A (listL l)∧Below w.heap.size w w'∧ ∀b off,A=some ⟨b,off,none⟩→0<(listL l).length→w.heap.size≤b
theorem aBP {l:List PR}{w w':World}{x:Int}(h:listE l=x)(d:x≠0)(a:Below w.heap.size w w'):ListedN l w (.returned (.tuple #[.slice none 0 0,.int .i64 x])) w':=by
 have c:listL l=[]:=if_neg (by rw[h];exact d)
 unfold ListedN
 rw[c,h]
 exact⟨none,0,rfl,Prs.nil _ _,a,fun b off e=>by cases e⟩
theorem aFt {w:World}{base n c:Nat}{A:Option Addr}{l:List PR}(h:OwnP w base A n c l)(i:0<n): ∃g,A=some ⟨g,0,none⟩:=by
 rcases h.2.2.2.2 with⟨a,f⟩|⟨e,d,b,a,_⟩
 ·omega
 ·injection a with e1 e2 e3
  exact⟨e,e1⟩
end Pl8
namespace Pb8
end Pb8
namespace Pq8
open OwnE Fb Fc Fo Seq8 Pr8 Ps8
def Rises (l:List PR):Prop:=l.Pairwise fun x y=>ltP x y=true
theorem aJo (a b c:List Int)(h:ltL a b=false)(k:ltL b c=false):ltL a c=false:=by
 cases d:ltL a c with
 |false=>rfl
 |true=>
  cases e:ltL b a with
  |true=>rw[aBO _ _ _ e d]at k;cases k
  |false=>rw[aD7 _ _ h e]at d;rw[d]at k;cases k
theorem aMX (l:List PR):(sortP l).Pairwise fun x y=>(!ltP y x)=true:=by
 unfold sortP
 refine List.pairwise_mergeSort ?_ ?_ l
 ·intro a b c h k
  simp only[Bool.not_eq_true']at h k⊢
  exact aJo _ _ _ k h
 ·intro a b
  cases h:ltP b a with
  |false=>rfl
  |true=>rw[show ltP a b=false from aGa _ _ h];rfl
theorem aHp {l:List PR}(a: ∀p∈l,okR p)(c:l.Nodup):Rises (sortP l):=by
 have b:=aMX l
 have d:(sortP l).Nodup:=(aB1 l).nodup_iff.2 c
 refine(b.and d).imp_of_mem fun {x y} hx hy h=>?_
 cases k:ltP x y with
 |true=>rfl
 |false=>exact absurd (aGh (a x ((aBb l x).1 hx)) (a y ((aBb l y).1 hy)) k (by simpa using h.1)) h.2
theorem aFu: ∀(l m:List PR),Rises l→Rises m→(∀p,p∈l↔p∈m)→l=m
 | [],[],_,_,_=>rfl
 | [],b::m,_,_,h=>absurd ((h b).2 (by simp)) (by simp)
 |a::l,[],_,_,h=>absurd ((h a).1 (by simp)) (by simp)
 |a::l,b::m,hl,hm,h=>by
  obtain⟨l1,l2⟩:=List.pairwise_cons.1 hl
  obtain⟨f,i⟩:=List.pairwise_cons.1 hm
  have d:a=b:=by
   rcases List.mem_cons.1 ((h a).1 (by simp))with e|j
   ·exact e
   ·rcases List.mem_cons.1 ((h b).2 (by simp))with e|k
    ·exact e.symm
    ·have this:ltP b a=false:=aGa _ _ (l1 b k)
     rw[f a j]at this;cases this
  subst d
  have g: ∀q,ltP a q=true→q≠a:=fun q hq e=>by
   rw[e,show ltP a a=false from aCY _]at hq;cases hq
  rw[aFu l m l2 i fun p=>⟨fun hp=>by
   rcases List.mem_cons.1 ((h p).1 (by simp[hp]))with e|c
   ·exact absurd e (g p (l1 p hp))
   ·exact c,fun hp=>by
   rcases List.mem_cons.1 ((h p).2 (by simp[hp]))with e|c
   ·exact absurd e (g p (f p hp))
   ·exact c⟩]
theorem aB2 {l:List PR}(a: ∀p∈l,okR p):Rises (sortP (ded l)):=aHp (fun p hp=>a p ((aC0 l p).1 hp)) (aGg l)
theorem list_mem (l:List PR)(p:PR):p∈sortP (ded l)↔p∈l:=(aBb _ p).trans (aC0 l p)
theorem aKz {l m:List PR}(b: ∀p∈l,okR p)(a: ∀p∈m,okR p)(h: ∀p,p∈l↔p∈m):sortP (ded l)=sortP (ded m):=
 aFu _ _ (aB2 b) (aB2 a) fun p=>(list_mem l p).trans ((h p).trans (list_mem m p).symm)
theorem aCf {p:PR}(h:okR p):okP p:=by
 obtain⟨a,b⟩:=aBi h.2.2
 exact⟨h.1,h.2.1,Nat.le_trans a (by decide),Nat.le_trans b (by decide)⟩
theorem OwnP.keptB {w w':World}{base j:Nat}{A:Option Addr}{n c:Nat}{l:List PR}(h:OwnP w base A n c l)(i:KeptB w.heap.size j w w')(o:j<base):OwnP w' base A n c l:=by
 refine⟨h.1,h.2.1,Nat.le_trans h.2.2.1 i.size,h.2.2.2.1,?_⟩
 rcases h.2.2.2.2 with e|⟨g,f,a,e,k,d,m⟩
 ·exact .inl e
 ·refine .inr ⟨g,f,a,e,k,?_,m⟩
  have b:g<w.heap.size:=by
   rcases Nat.lt_or_ge g w.heap.size with h|h
   ·exact h
   ·rw[Array.getElem?_eq_none h]at d;cases d
  rw[i.block g b (by omega)];exact d
def MadeP (gq:Nat)(a:Option Addr)(len cap:Nat)(f:Nat→Int)(w:World)(e:Ending)(w':World):Prop:=
 ∃(L:List PR) (A:Option Addr) (c k':Nat),e= .returned (.slice A L.length c)∧OwnP w' w.heap.size A L.length c L∧((∀p∈L,okR p)∧0<L.length∧L.length≤16)∧SeqIn w' gq a len cap f k'∧KeptB w.heap.size gq w w'
end Pq8
namespace Pi8
open Bytes8 Blk8 Fa Fo Pr8 Ps8 Pq8
def shiftL (R:List PR)(j:Nat):List PR:=(List.range (R.length+1)).map fun t=>if t≤j then(R++ [nil2]).getD t nil2 else R.getD (t-1) nil2
theorem aAF (R:List PR)(j:Nat):(shiftL R j).length=R.length+1:=by unfold shiftL;simp
theorem aBQ (R:List PR)(j t:Nat)(a:t<R.length+1):(shiftL R j).getD t nil2=if t≤j then(R++ [nil2]).getD t nil2 else R.getD (t-1) nil2:=by
 unfold shiftL
 rw[yD,List.getElem?_map,List.getElem?_range a]
 rfl
theorem aFv {l m:List PR}(h:l.length=m.length)(k: ∀t,t<l.length→l.getD t nil2=m.getD t nil2):l=m:=by
 apply List.ext_getElem h
 intro i a b
 have:=k i a
 rwa[yD,yD,yG a,yG b]at this
theorem aER {l m:List PR}{t:Nat}(h:t<l.length):(l++m).getD t nil2=l.getD t nil2:=by
 rw[yD,yD,List.getElem?_append_left h]
theorem aIt {l:List PR}{i t:Nat}{p:PR}(a:i<l.length):(l.set i p).getD t nil2=if t=i then p else l.getD t nil2:=by
 rw[yD,yD,List.getElem?_set]
 by_cases h:i=t
 ·subst h;simp[a]
 ·rw[if_neg h,if_neg (fun e=>h e.symm)]
theorem aDp (R:List PR):shiftL R R.length=R++ [nil2]:=by
 refine aFv (by rw[aAF];simp) fun t ht=>?_
 rw[aAF]at ht
 rw[aBQ R _ t ht,if_pos (by omega)]
theorem aHq (R:List PR)(j:Nat)(b:j+1≤R.length):(shiftL R (j+1)).set (j+1) ((shiftL R (j+1)).getD j nil2)=shiftL R j:=by
 refine aFv (by rw[List.length_set,aAF,aAF]) fun t ht=>?_
 rw[List.length_set,aAF]at ht
 rw[aIt (by rw[aAF];omega),aBQ R j t ht]
 by_cases h:t=j+1
 ·subst h
  rw[if_pos rfl,if_neg (by omega),aBQ R (j+1) j (by omega),if_pos (by omega),aER (by omega)]
  rfl
 ·rw[if_neg h,aBQ R (j+1) t ht]
  by_cases a:t≤j
  ·rw[if_pos (by omega),if_pos a]
  ·rw[if_neg (by omega),if_neg a]
def insL (R:List PR)(k:Nat)(x:PR):List PR:=R.take k++x::R.drop k
theorem aES (R:List PR)(k:Nat)(x:PR)(a:k≤R.length):(shiftL R k).set k x=insL R k x:=by
 have c:(insL R k x).length=R.length+1:=by unfold insL;simp;omega
 refine aFv (by rw[List.length_set,aAF,c]) fun t ht=>?_
 rw[List.length_set,aAF]at ht
 rw[aIt (by rw[aAF];omega),aBQ R k t ht]
 unfold insL
 rw[yD (l:=R.take k++x::R.drop k)]
 by_cases h:t=k
 ·subst h
  rw[if_pos rfl,List.getElem?_append_right (by simp;omega)]
  simp[Nat.min_eq_left a]
 ·rw[if_neg h]
  by_cases b:t≤k
  ·rw[if_pos b,aER (by omega),List.getElem?_append_left (by simp;omega),List.getElem?_take_of_lt (by omega),yD]
  ·rw[if_neg b,List.getElem?_append_right (by simp;omega),List.length_take,Nat.min_eq_left a]
   obtain⟨d,rfl⟩: ∃d,t=k+1+d:=⟨t-k-1,by omega⟩
   rw[show k+1+d-k=d+1 by omega,List.getElem?_cons_succ,List.getElem?_drop,yD,show k+1+d-1=k+d by omega]
theorem aMY (R:List PR)(k:Nat)(x q:PR):q∈insL R k x↔q∈R∨q=x:=by
 unfold insL
 conv=>rhs;rw[←List.take_append_drop k R]
 simp only[List.mem_append,List.mem_cons]
 constructor
 ·rintro(h|h|h)
  ·exact Or.inl (Or.inl h)
  ·exact Or.inr h
  ·exact Or.inl (Or.inr h)
 ·rintro((h|h)|h)
  ·exact Or.inl h
  ·exact Or.inr (Or.inr h)
  ·exact Or.inr (Or.inl h)
theorem aJp {R:List PR}{k:Nat}{x:PR}(d:Rises R)(m:k≤R.length)(l: ∀t,t<k→ltP (R.getD t nil2) x=true)(j:k<R.length→ltP x (R.getD k nil2)=true):Rises (insL R k x):=by
 unfold insL Rises
 have g:=d.sublist (List.drop_sublist k R)
 have c: ∀q∈R.drop k,ltP x q=true:=fun q b=>by
  obtain⟨i,e,rfl⟩:=List.mem_iff_getElem.1 b
  rw[List.length_drop]at e
  have a:=j (by omega)
  rw[List.getElem_drop]
  rcases Nat.eq_zero_or_pos i with f|f
  ·subst f
   rwa[yD,yG (by omega)]at a
  ·refine aBO _ _ _ a ?_
   have:=List.pairwise_iff_getElem.1 d k (k+i) (by omega) (by omega) (by omega)
   rwa[yD,yG (show k<R.length by omega)]
 rw[List.pairwise_append]
 refine⟨d.sublist (List.take_sublist k R),List.pairwise_cons.2 ⟨c,g⟩,fun p hp q b=>?_⟩
 obtain⟨i,e,rfl⟩:=List.mem_iff_getElem.1 hp
 rw[List.length_take]at e
 have a:=l i (by omega)
 rw[List.getElem_take]
 rw[yD,yG (show i<R.length by omega)]at a
 rcases List.mem_cons.1 b with rfl|b
 ·exact a
 ·exact aBO _ _ _ a (c q b)
def rowL (l:List PR)(i:Nat):List PR:=sortP (ded (l.take i))
theorem aCH {l:List PR}{i:Nat}(h: ∀t,t<i→okR (l.getD t nil2))(b:i≤l.length): ∀p∈l.take i,okR p:=fun p hp=>by
 obtain⟨t,a,rfl⟩:=List.mem_iff_getElem.1 hp
 rw[List.length_take]at a
 have:=h t (by omega)
 rw[List.getElem_take]
 rwa[yD,yG (show t<l.length by omega)]at this
theorem aJq {l:List PR}{i:Nat}(c:i<l.length)(h: ∀t,t<i+1→okR (l.getD t nil2))(b:l.getD i nil2∈rowL l i):rowL l (i+1)=rowL l i:=by
 have a:=aCH h (by omega)
 have d:=aCH (fun t ht=>h t (by omega)) (show i≤l.length by omega)
 refine aKz a d fun p=>?_
 rw[aEc c]
 simp only[List.mem_append,List.mem_singleton]
 exact⟨fun k=>k.elim id fun e=>by rw[e];exact(list_mem _ _).1 b,Or.inl⟩
theorem aIu {l:List PR}{i k:Nat}(e:i<l.length)(h: ∀t,t<i+1→okR (l.getD t nil2))(a:k≤(rowL l i).length)(c: ∀t,t<k→ltP ((rowL l i).getD t nil2) (l.getD i nil2)=true)(b:k<(rowL l i).length→ltP (l.getD i nil2) ((rowL l i).getD k nil2)=true):insL (rowL l i) k (l.getD i nil2)=rowL l (i+1):=by
 have f:=aCH h (by omega)
 have d:=aCH (fun t ht=>h t (by omega)) (show i≤l.length by omega)
 refine aFu _ _ (aJp (aB2 d) a c b) (aB2 f) fun p=>?_
 rw[aMY]
 unfold rowL
 rw[list_mem,list_mem,aEc e]
 simp
theorem aKA (l:List PR):rowL l 0=[]:=by unfold rowL ded sortP;simp
theorem aET: ∀(l:List PR) (i:Nat) (p:PR),((cellsP l).set (i*2) (.string (T p.1))).set (i*2+1) (.string (T p.2))=cellsP (l.set i p)
 | [],_,_=>rfl
 |q::l,0,p=>by simp[cellsP]
 |q::l,i+1,p=>by
  have ih:=aET l i p
  rw[show(i+1)*2=i*2+1+1 by omega]
  simp only[cellsP,List.set_cons_succ]
  rw[ih]
theorem OwnP.frozen {w:World}{base n c g:Nat}{l:List PR}(h:OwnP w base (some ⟨g,0,none⟩) n c l)(i:Nat):w.frozen? ⟨g,i,none⟩=false:=by
 obtain⟨_,a,b,_⟩:=aGi h
 simp[World.frozen?,b]
theorem OwnP.set {w:World}{base n c g:Nat}{l:List PR}(h:OwnP w base (some ⟨g,0,none⟩) n c l)(i:Nat)(p:PR)(m:okP p)(u:i<n):
 OwnP ((w.setCell ⟨g,i*2,none⟩ (.string (T p.1))).setCell ⟨g,i*2+1,none⟩ (.string (T p.2))) base (some ⟨g,0,none⟩) n c (l.set i p):=by
 refine⟨fun q hq=>?_,by rw[List.length_set];exact h.2.1,?_,?_,?_⟩
 ·rcases List.mem_or_eq_of_mem_set hq with f|f
  ·exact h.1 q f
  ·subst f;exact m
 ·simpa [World.setCell]using h.2.2.1
 ·rw[aB0,List.length_set,h.2.1]
 ·rcases h.2.2.2.2 with⟨e,t⟩|⟨v,j,a,e,r,s,d,b,k,o⟩
  ·cases e
  ·injection e with e1 e2 e3
   simp at e1
   subst e1
   refine .inr ⟨g,j,(a.setIfInBounds (i*2) (.string (T p.1))).setIfInBounds (i*2+1) (.string (T p.2)),?_,r,?_,d,b,by simpa using k,?_⟩
   ·rw[←e3]
   ·simp[World.setCell,Array.getElem?_modify,s]
   ·rw[←aET,←o]
    simp only[Array.toList_setIfInBounds,List.take_set]
theorem OwnP.cellAt {w:World}{base n c g:Nat}{l:List PR}(h:OwnP w base (some ⟨g,0,none⟩) n c l)(i:Nat)(o:i<n):w.cell? ⟨g,i*2,none⟩=some (.string (T (l.getD i nil2).1))∧w.cell? ⟨g,i*2+1,none⟩=some (.string (T (l.getD i nil2).2))∧g<w.heap.size∧base≤g:=by
 obtain⟨m,j,q,p⟩:=aGi h
 obtain⟨b,k,e,a,d,f⟩:=h.prs.2 i (by rw[h.2.1];exact o)
 simp at e
 obtain⟨rfl,rfl⟩:=e
 rw[Nat.zero_add]at d f
 exact⟨d,f,a,m⟩
end Pi8
namespace Pr2
open Bytes8 Blk8 Own8 OwnE Fa Fb Fc Fo Pr8 Pa8 Ps8 Pl8 Pq8 Pi8
theorem aJr (n v:List Int)(d:AllB n)(b:AllB v)(a:n.length≤9223372036854775807)(w:World):
 Calls Tryz.prog 108 #[.agg #[.string (T n),.string (T v)]] w fun e w'=> ∃(A:Option Addr) (m c:Nat),e= .returned (.tuple #[.slice A m c,.int .i64 (flawI n v)])∧Below w.heap.size w w':=
 (aKh n v d b a w).mono fun e w' ⟨A,c,h1,h2,h3⟩=>⟨A,_,c,h1,h3.below⟩
theorem aOL {p q:PR}(a:okP p)(b:okP q):Op.bytesLess (T (pay p.1 p.2)).toList (T (pay q.1 q.2)).toList=ltP p q:=aHj (aBr a.1 a.2.1) (aBr b.1 b.2.1)
theorem aEd:cellsP [nil2]=[.string {data:= #[]},.string {data:= #[]}]:=by rw[aFp];rfl
theorem aMZ {w:World}{base n c:Nat}{A:Option Addr}{l:List PR}(h:OwnP w base A n c l): ∀b off,A=some ⟨b,off,none⟩→0<l.length→base≤b:=fun b off e h0=>by
 obtain⟨g,a,d,_,_⟩:=OwnE.cell h.2.2 (i:=0) (by rw[aB0];omega)
 rw[e]at a
 injection a with a
 injection a with e3 e4
 omega
set_option maxRecDepth 100000 in
theorem aGj (a:Option Addr)(l:List PR)(len aW:Nat)(w:World)(hP:Prs w a l)(hL:l.length=len)(a2:len≤100000):
 Calls Tryz.prog 62 #[.slice a len aW] w (ListedN l w):=by
 by_cases h0:len=0
 ·subst h0
  have he:listE l=16:=by unfold listE;rw[if_pos (List.eq_nil_of_length_eq_zero hL)]
  have HE:=yH he
  clear he hP hL
  go_enter Tryz.func62,Tryz.ntmps62
  go_wp2
  go_ret2
  exact aBP HE.out (by decide) (yB _ _)
 have bc:((len:Int)==0)=false:=by simp;omega
 have af:l≠ []:=fun e=>h0 (by rw[←hL,e];rfl)
 have HP:=yH hP
 have Z:=yH hL
 have ar:=yH hP.1
 have HF:=yH fun k w=>aJr (l.getD k nil2).1 (l.getD k nil2).2 (hP.1.at_ k).1 (hP.1.at_ k).2.1 (hP.1.at_ k).2.2.1 w
 have aO:=yH fun k h1 h2 h3=>(by
  have e:=aIs l k h1 h2 h3
  unfold listE
  rw[if_neg af,if_neg (by rw[e];exact h3),e]:listE l=flawI (l.getD k nil2).1 (l.getD k nil2).2)
 have aG:=yH (fun(h: ∀j,j<len→flawI (l.getD j nil2).1 (l.getD j nil2).2=0)=>(by
  have hf: ∀p∈l,flawI p.1 p.2=0:=fun p hp=>by
   obtain⟨i,hi,rfl⟩:=aIr hp
   exact h i (by omega)
  unfold listE
  rw[if_neg af,aEQ l hf,if_pos rfl]:listE l=(if(ded l).length≤16 then 0 else 21)))
 have a6:Tryz.prog.follows .mixedOrders=true:=by kernel_rfl
 clear hP hL h0 af
 go_enter Tryz.func62,Tryz.ntmps62
 go_wp2
 go_loopw [4,5] (fun s i wr=> ∃(k n:Nat) (A:Option Addr) (c:Nat),k≤len∧i= .int .i64 (k:Int)∧s= .slice A n c∧n≤k∧Hid (OwnP wr w.heap.size A n c (rowL l k))∧Hid (∀j,j<k→flawI (l.getD j nil2).1 (l.getD j nil2).2=0)∧Hid (Below w.heap.size w wr)) (fun _ i _=>len-(intOf i).toNat)
 case atStart=>exact⟨0,0,none,0,by omega,rfl,rfl,by omega,(by rw[aKA];exact yH (OwnP.nil w _ (yR _))),yH (fun j hj=>absurd hj (by omega)),yH (yB _ _)⟩
 case round=>
  obtain⟨i,n,A,c,hi,rfl,rfl,hn,z,v,C⟩:=hrel
  rcases Nat.lt_or_ge i len with a5|a8
  ·obtain⟨b,off,rfl,R,H,E⟩:=(HP.out.below C.out).2 i (by have:=Z.out;omega)
   have bb:(i:Int)<(len:Int):=by omega
   have ah:=yH (HF.out i)
   by_cases hf:flawI (l.getD i nil2).1 (l.getD i nil2).2=0
   ·have y:=yH (fun j (hj:j<i+1)=>(by
     rcases Nat.lt_or_ge j i with h1|h1
     ·exact v.out j h1
     ·obtain rfl:j=i:=by omega
      exact hf:flawI (l.getD j nil2).1 (l.getD j nil2).2=0))
    have HR:=yH (fun t (Y:t<i+1)=>(⟨(ar.out.at_ t).1,(ar.out.at_ t).2.1,y.out t Y⟩:okR (l.getD t nil2)))
    have aC:Hid (∀t,t<n→okR ((rowL l i).getD t nil2)):=yH fun t Y=>by
     have hm:(rowL l i).getD t nil2∈rowL l i:=aEa (by rw[z.out.2.1];exact Y)
     exact aCH (fun t Y=>HR.out t (by omega)) (by have:=Z.out;omega) _ ((list_mem _ _).1 hm)
    rw[hf]at ah
    clear hf v
    generalize aq:T (l.getD i nil2).1=X1 at*
    generalize aA:T (l.getD i nil2).2=X2 at*
    have G:=yH aq
    have J:=yH aA
    clear aq aA
    go_wp2_with(go_at_call 108;(with_reducible refine(ah.out _).mono ?_);rintro e w2 ⟨A6,m6,c6,rfl,hb⟩;have O2:=yH (z.out.kept hb (yR _));have B2:=yH (C.out.trans (hb.mono C.out.size));clear hb)
    clear z C H E R
    go_loopw [8] (fun s wr=> ∃k:Nat,k≤n∧s= .int .i64 (k:Int)∧Hid (∀t,t<k→ltP ((rowL l i).getD t nil2) (l.getD i nil2)=true)∧Hid (OwnP wr w.heap.size A n c (rowL l i))∧Hid (Below w.heap.size w wr)) (fun s _=>n-(intOf s).toNat)
    case atStart=>exact⟨0,by omega,rfl,yH (fun t Y=>absurd Y (by omega)),O2,B2⟩
    case round=>
     obtain⟨k,hk,rfl,r,z,C⟩:=hrel
     clear O2 B2
     obtain⟨b',aY,eb,R,H,E⟩:=(HP.out.below C.out).2 i (by have:=Z.out;omega)
     simp at eb
     obtain⟨rfl,rfl⟩:=eb
     rw[G.out]at H
     rw[J.out]at E
     rcases Nat.lt_or_ge k n with L|L
     ·obtain⟨g,rfl⟩:=aFt z.out (by omega)
      obtain⟨aI,aH,ax,bd⟩:=Pi8.OwnP.cellAt z.out k L
      have aZ:(k:Int)<(n:Int):=by omega
      have aT:decide (k<n)=true:=decide_eq_true L
      have r1:=aC.out k L
      have r2:=HR.out i (by omega)
      obtain⟨q1,q2⟩:=aBi r1.2.2
      obtain⟨q3,q4⟩:=aBi r2.2.2
      have ad:=aOL (aCf r1) (aCf r2)
      have ak:=yH fun w=>aCw ((rowL l i).getD k nil2).1 ((rowL l i).getD k nil2).2 (by omega) w
      have aa:=yH fun w=>aCw (l.getD i nil2).1 (l.getD i nil2).2 (by omega) w
      have al:=aOa (aCf r1) (aCf r2)
      have ae:=yH (fun h=>aGh r1 r2 h)
      have ai:=yH (aCf r2)
      dsimp only[pv]at ak aa
      rw[G.out,J.out]at aa al
      have p0:=cell_grown ax aI
      have p1:=cell_grown ax aH
      have x0:=cell_grown R H
      have x1:=cell_grown R E
      have HB:=yH C.out
      clear aI aH H E q1 q2 q3 q4 r1 r2
      generalize T (pay ((rowL l i).getD k nil2).1 ((rowL l i).getD k nil2).2)=S1 at*
      generalize T (pay (l.getD i nil2).1 (l.getD i nil2).2)=S2 at*
      generalize aX:T ((rowL l i).getD k nil2).1=R1 at*
      generalize aS:T ((rowL l i).getD k nil2).2=R2 at*
      clear aX aS
      have K1:Hid (∀q os,Calls Tryz.prog 43 #[.agg #[.string R1,.string R2]] (Sort.grow (wr.drewN q) os) fun e w'=>e= .returned (.string S1)∧ ∃q' os',w'=Sort.grow ((Sort.grow (wr.drewN q) os).drewN q') os'):=yH fun q os=>ak.out _
      have K2:Hid (∀q os,Calls Tryz.prog 43 #[.agg #[.string X1,.string X2]] (Sort.grow (wr.drewN q) os) fun e w'=>e= .returned (.string S2)∧ ∃q' os',w'=Sort.grow ((Sort.grow (wr.drewN q) os).drewN q') os'):=yH fun q os=>aa.out _
      clear ak aa
      cases hz:ltP ((rowL l i).getD k nil2) (l.getD i nil2)with
      |true=>
       rw[hz]at ad
       have am:=yH (fun t (Y:t<k+1)=>(by
        rcases Nat.lt_or_ge t k with h1|h1
        ·exact r.out t h1
        ·obtain rfl:t=k:=by omega
         exact hz:ltP ((rowL l i).getD t nil2) (l.getD i nil2)=true))
       clear hz r
       go_wp2_with fail
       go_quiet_grown (first|(go_at_call 43;with_reducible refine Calls.grown_of (K1.out _ _))|(go_at_call 43;with_reducible refine Calls.grown_of (K2.out _ _)))
       have HG:=yH (Grew.below (w:=wr) ⟨nq,osq,rfl⟩)
       have O3:=yH (z.out.kept HG.out (yR _))
       have B3:=yH (HB.out.trans (Below.mono HG.out HB.out.size))
       go_wp2
       go_round
       case rel=>exact⟨k+1,by omega,by go_num,am,O3,B3⟩
       case measure=>simp[intOf];omega
      |false=>
       rw[hz]at ad
       have HZ:=yH hz
       clear hz
       go_wp2_with fail
       go_quiet_grown (first|(go_at_call 43;with_reducible refine Calls.grown_of (K1.out _ _))|(go_at_call 43;with_reducible refine Calls.grown_of (K2.out _ _)))
       have HG:=yH (Grew.below (w:=wr) ⟨nq,osq,rfl⟩)
       have O3:=yH (z.out.kept HG.out (yR _))
       have B3:=yH (HB.out.trans (Below.mono HG.out HB.out.size))
       have y0:=p0 nq osq
       have y1:=p1 nq osq
       have z0:=x0 nq osq
       have z1:=x1 nq osq
       clear K1 K2 p0 p1 x0 x1 HG z C HB
       generalize Sort.grow (wr.drewN nq) osq=W3 at*
       by_cases he:(rowL l i).getD k nil2=l.getD i nil2
       ·have hm:l.getD i nil2∈rowL l i:=by rw[←he];exact aEa (by rw[O3.out.2.1];exact L)
        have aP:=yH (aJq (by have:=Z.out;omega) HR.out hm)
        rw[decide_eq_true he]at al
        clear he hm
        go_wp2_with fail
        go_quiet (fail)
        go_wp2
        go_round
        case rel=>exact⟨i+1,n,_,c,by omega,by go_num,rfl,by omega,by rw[aP.out];exact O3,y,yH (below_drewN B3.out _)⟩
        case measure=>simp[intOf];omega
       ·have ay:ltP (l.getD i nil2) ((rowL l i).getD k nil2)=true:=by
         cases h:ltP (l.getD i nil2) ((rowL l i).getD k nil2)with
         |true=>rfl
         |false=>exact absurd (ae.out HZ.out h) he
        have ap:=yH (aIu (by have:=Z.out;omega) HR.out (by rw[O3.out.2.1];exact hk) r.out (fun _=>ay))
        rw[decide_eq_false he]at al
        clear he ay ae HZ r
        go_wp2_with fail
        go_quiet (fail)
        have X:Hid (OwnP (W3.drewN nq) w.heap.size (some ⟨g,0,none⟩) n c (rowL l i)):=O3
        have B4:Hid (Below w.heap.size w (W3.drewN nq)):=yH (below_drewN B3.out _)
        clear O3 B3 y0 y1 z0 z1
        generalize W3.drewN nq=W4 at*
        go_wp2_with(at_builtin;refine aAT aEb rfl (.tmp 64) (.tmp 66) rfl w.heap.size _ n c (cellsP (rowL l i)) rfl (X.out.2.2.alloc (.cells #[.string {data:= #[]},.string {data:= #[]}] 24)) ⟨W4.heap.size,0,none⟩ 1 1 [.string {data:= #[]},.string {data:= #[]}] rfl rfl (Blk.news (Blk.new W4 [.string {data:= #[]},.string {data:= #[]}] 24)) (by intro u hu;simp at hu;subst hu;rfl) (by omega) (by omega) ?_;intro A7 c7 w7 M o;have O7:=yH (⟨fun q hq=>(by
         rcases List.mem_append.1 hq with h|h
         ·exact X.out.1 q h
         ·simp at h;subst h;exact⟨(fun x hx=>by cases hx),(fun x hx=>by cases hx),Nat.zero_le _,Nat.zero_le _⟩),by rw[yA,X.out.2.1];rfl,by rw[aBv,aEd];exact M⟩:OwnP w7 w.heap.size A7 (n+1) c7 (rowL l i++ [nil2]));have B7:=yH ((B4.out.alloc B4.out.size (.cells #[.string {data:= #[]},.string {data:= #[]}] 24)).trans o);clear M o)
        have D:=yH X.out.2.1
        have N:=yH (show shiftL (rowL l i) n=rowL l i++ [nil2]by rw[←D.out];exact aDp _)
        clear X B4
        obtain⟨g7,rfl⟩:=aFt O7.out (by omega)
        go_loopw [9] (fun s wr=> ∃j:Nat,k≤j∧j≤n∧s= .int .i64 (j:Int)∧Hid (OwnP wr w.heap.size (some ⟨g7,0,none⟩) (n+1) c7 (shiftL (rowL l i) j))∧Hid (Below w.heap.size w wr)) (fun s _=>(intOf s).toNat)
        case atStart=>exact⟨n,hk,yR _,by go_num,(by rw[N.out];exact O7),B7⟩
        case round=>
         obtain⟨j,aQ,ag,rfl,m,I⟩:=hrel
         clear O7 B7
         rcases Nat.lt_or_ge k j with aK|aD
         ·obtain⟨j,rfl⟩: ∃j',j=j'+1:=⟨j-1,by omega⟩
          have e:((j+1:Nat):Int)=(j:Int)+1:=by omega
          have a0:(k:Int)<(j:Int)+1:=by omega
          have az:(j:Int)+1<(n:Int)+1:=by omega
          have a4:(j:Int)<(n:Int)+1:=by omega
          have a7:(0:Int)≤(j:Int)+1:=by omega
          have ba:((j:Int)+1).toNat=j+1:=by omega
          obtain⟨v0,v1,ab,d⟩:=Pi8.OwnP.cellAt m.out j (by omega)
          obtain⟨u0,u1,_,_⟩:=Pi8.OwnP.cellAt m.out (j+1) (by omega)
          have aF:=Pi8.OwnP.frozen m.out
          have aN:=yH (aHq (rowL l i) j (by rw[D.out];omega))
          have av:=yH (m.out.1.at_ j)
          have f:=yH (Pi8.OwnP.set m.out (j+1) ((shiftL (rowL l i) (j+1)).getD j nil2) av.out (by omega))
          rw[aN.out]at f
          rw[e]
          clear e aN av
          generalize T ((shiftL (rowL l i) (j+1)).getD j nil2).1=V1 at*
          generalize T ((shiftL (rowL l i) (j+1)).getD j nil2).2=V2 at*
          generalize T ((shiftL (rowL l i) (j+1)).getD (j+1) nil2).1=U1 at*
          generalize T ((shiftL (rowL l i) (j+1)).getD (j+1) nil2).2=U2 at*
          go_wp2
          go_round
          case rel=>exact⟨j,by omega,by omega,by go_num,f,yH ((I.out.setCell (p:=⟨g7,(j+1)*2,none⟩) d _).setCell (p:=⟨g7,(j+1)*2+1,none⟩) d _)⟩
          case measure=>simp[intOf]<;>omega
         ·obtain rfl:j=k:=by omega
          obtain⟨b9,aE,V,aw,aj,an⟩:=(HP.out.below I.out).2 i (by have:=Z.out;omega)
          simp at V
          obtain⟨rfl,rfl⟩:=V
          rw[G.out]at aj
          rw[J.out]at an
          obtain⟨u0,u1,ab,d⟩:=Pi8.OwnP.cellAt m.out j (by omega)
          have aF:=Pi8.OwnP.frozen m.out
          have az:(j:Int)<(n:Int)+1:=by omega
          have f:=yH (Pi8.OwnP.set m.out j (l.getD i nil2) ai.out (by omega))
          rw[aES _ _ _ (by rw[D.out];exact ag),ap.out,G.out,J.out]at f
          generalize T ((shiftL (rowL l i) j).getD j nil2).1=U1 at*
          generalize T ((shiftL (rowL l i) j).getD j nil2).2=U2 at*
          go_wp2
          go_round
          case rel=>exact⟨i+1,n+1,_,c7,by omega,by go_num,rfl,by omega,f,y,yH ((I.out.setCell (p:=⟨g7,j*2,none⟩) d _).setCell (p:=⟨g7,j*2+1,none⟩) d _)⟩
          case measure=>simp[intOf];omega
     ·have a1: ¬(k:Int)<(n:Int):=by omega
      have aT:decide (k<n)=false:=decide_eq_false (by omega)
      have a3: ¬k<n:=by omega
      have ap:=yH (aIu (by have:=Z.out;omega) HR.out (by rw[z.out.2.1];exact hk) r.out (fun h=>absurd h (by rw[z.out.2.1];omega)))
      have ai:=yH (aCf (HR.out i (by omega)))
      clear r R H E
      go_wp2_with fail
      go_quiet (fail)
      obtain⟨ao,aM⟩: ∃x,x=nq:=⟨_,rfl⟩
      rw[←aM]
      clear aM nq
      go_wp2_with fail
      go_quiet (fail)
      have X:Hid (OwnP ((wr.drewN ao).drewN nq) w.heap.size A n c (rowL l i)):=z
      have B4:Hid (Below w.heap.size w ((wr.drewN ao).drewN nq)):=yH (below_drewN (below_drewN C.out _) _)
      clear z C
      generalize (wr.drewN ao).drewN nq=W4 at*
      go_wp2_with(at_builtin;refine aAT aEb rfl (.tmp 64) (.tmp 66) rfl w.heap.size _ n c (cellsP (rowL l i)) rfl (X.out.2.2.alloc (.cells #[.string {data:= #[]},.string {data:= #[]}] 24)) ⟨W4.heap.size,0,none⟩ 1 1 [.string {data:= #[]},.string {data:= #[]}] rfl rfl (Blk.news (Blk.new W4 [.string {data:= #[]},.string {data:= #[]}] 24)) (by intro u hu;simp at hu;subst hu;rfl) (by omega) (by omega) ?_;intro A7 c7 w7 M o;have O7:=yH (⟨fun q hq=>(by
       rcases List.mem_append.1 hq with h|h
       ·exact X.out.1 q h
       ·simp at h;subst h;exact⟨(fun x hx=>by cases hx),(fun x hx=>by cases hx),Nat.zero_le _,Nat.zero_le _⟩),by rw[yA,X.out.2.1];rfl,by rw[aBv,aEd];exact M⟩:OwnP w7 w.heap.size A7 (n+1) c7 (rowL l i++ [nil2]));have B7:=yH ((B4.out.alloc B4.out.size (.cells #[.string {data:= #[]},.string {data:= #[]}] 24)).trans o);clear M o)
      have D:=yH X.out.2.1
      have N:=yH (show shiftL (rowL l i) n=rowL l i++ [nil2]by rw[←D.out];exact aDp _)
      clear X B4
      obtain⟨g7,rfl⟩:=aFt O7.out (by omega)
      go_loopw [9] (fun s wr=> ∃j:Nat,k≤j∧j≤n∧s= .int .i64 (j:Int)∧Hid (OwnP wr w.heap.size (some ⟨g7,0,none⟩) (n+1) c7 (shiftL (rowL l i) j))∧Hid (Below w.heap.size w wr)) (fun s _=>(intOf s).toNat)
      case atStart=>exact⟨n,hk,yR _,by go_num,(by rw[N.out];exact O7),B7⟩
      case round=>
       obtain⟨j,aQ,ag,rfl,m,I⟩:=hrel
       clear O7 B7
       rcases Nat.lt_or_ge k j with aK|aD
       ·exfalso;omega
       ·obtain rfl:j=k:=by omega
        obtain⟨b9,aE,V,aw,aj,an⟩:=(HP.out.below I.out).2 i (by have:=Z.out;omega)
        simp at V
        obtain⟨rfl,rfl⟩:=V
        rw[G.out]at aj
        rw[J.out]at an
        obtain⟨u0,u1,ab,d⟩:=Pi8.OwnP.cellAt m.out j (by omega)
        have aF:=Pi8.OwnP.frozen m.out
        have az:(j:Int)<(n:Int)+1:=by omega
        have f:=yH (Pi8.OwnP.set m.out j (l.getD i nil2) ai.out (by omega))
        rw[aES _ _ _ (by rw[D.out];exact ag),ap.out,G.out,J.out]at f
        generalize T ((shiftL (rowL l i) j).getD j nil2).1=U1 at*
        generalize T ((shiftL (rowL l i) j).getD j nil2).2=U2 at*
        go_wp2
        go_round
        case rel=>exact⟨i+1,n+1,_,c7,by omega,by go_num,rfl,by omega,f,y,yH ((I.out.setCell (p:=⟨g7,j*2,none⟩) d _).setCell (p:=⟨g7,j*2+1,none⟩) d _)⟩
        case measure=>simp[intOf];omega
   ·have aR:=yH (aO.out i (by have:=Z.out;omega) v.out hf)
    have a9:(flawI (l.getD i nil2).1 (l.getD i nil2).2 !=0)=true:=by simpa using hf
    have aJ:=hf
    clear v hf
    generalize T (l.getD i nil2).1=E1 at*
    generalize T (l.getD i nil2).2=E2 at*
    generalize flawI (l.getD i nil2).1 (l.getD i nil2).2=F at*
    have aU:=yH aJ
    clear aJ
    go_wp2_with(go_at_call 108;(with_reducible refine(ah.out _).mono ?_);rintro e w2 ⟨A6,m6,c6,rfl,hb⟩;have B2:=yH (C.out.trans (hb.mono C.out.size));clear hb)
    go_ret2
    exact aBP aR.out aU.out B2.out
  ·obtain rfl:i=len:=by omega
   have Y:l.take i=l:=List.take_of_length_le (by have:=Z.out;omega)
   have ac:rowL l i=sortP (ded l):=by unfold rowL;rw[Y]
   have hE:=aG.out v.out
   have B:=z.out.2.1
   rw[ac]at z B
   rw[aBw]at B
   clear Y v ac
   by_cases au:(ded l).length≤16
   ·rw[if_pos au]at hE
    have HE:=yH hE
    have aV:=yH (show listL l=sortP (ded l)from if_pos hE)
    have aL:n≤16:=by omega
    have aB:=yH B
    clear hE B
    go_wp2
    go_ret2
    unfold ListedN
    rw[aV.out,HE.out,aBw,aB.out]
    exact⟨_,_,rfl,z.out.prs,C.out,fun b off e h0=>aMZ z.out b off e (by rw[aBw,aB.out];exact h0)⟩
   ·rw[if_neg au]at hE
    have HE:=yH hE
    have aL:16<n:=by omega
    clear hE B
    go_wp2
    go_ret2
    exact aBP HE.out (by decide) C.out
end Pr2
end Go.Proofs.YteaikbodkgjkdaaGreat
