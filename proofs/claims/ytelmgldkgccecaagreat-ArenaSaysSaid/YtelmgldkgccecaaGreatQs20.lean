/-
  Texts beneath the proof.
-/
import Derived.Test.YtelmgldkgccecaaGreatQs1
import Derived.Shelf.SlSortCmp.QuietGrown
import Derived.Test.YtelmgldkgccecaaGreatQs19
import Derived.Test.YtelmgldkgccecaaGreatQs18
import Derived.Test.YtelmgldkgccecaaGreatQs5
import Derived.Test.YtelmgldkgccecaaGreatQs4
set_option linter.unusedVariables false
set_option linter.unusedSimpArgs false
set_option maxRecDepth 100000
set_option maxHeartbeats 16000000
open Go.ChangeShapes Go.WideShapes Go.ChangeAt Go.RowKit
namespace Go.Proofs.YtelmgldkgccecaaGreat
namespace Pi8
open Bytes8 Blk8 Fa Fo Pr8 Ps8 Pq8
def shiftL (R:List PR)(j:Nat):List PR:=(List.range (R.length+1)).map fun t=>if t≤j then(R++ [nil2]).getD t nil2 else R.getD (t-1) nil2
theorem shiftL_len (R:List PR)(j:Nat):(shiftL R j).length=R.length+1:=by unfold shiftL;simp
theorem shiftL_at (R:List PR)(j t:Nat)(ht:t<R.length+1):(shiftL R j).getD t nil2=if t≤j then(R++ [nil2]).getD t nil2 else R.getD (t-1) nil2:=by
 unfold shiftL
 rw[List.getD_eq_getElem?_getD,List.getElem?_map,List.getElem?_range ht]
 rfl
theorem getD_ext {l m:List PR}(h:l.length=m.length)(k: ∀t,t<l.length→l.getD t nil2=m.getD t nil2):l=m:=by
 apply List.ext_getElem h
 intro i h1 h2
 have:=k i h1
 rwa[List.getD_eq_getElem?_getD,List.getD_eq_getElem?_getD,List.getElem?_eq_getElem h1,List.getElem?_eq_getElem h2]at this
theorem getD_app_l {l m:List PR}{t:Nat}(h:t<l.length):(l++m).getD t nil2=l.getD t nil2:=by
 rw[List.getD_eq_getElem?_getD,List.getD_eq_getElem?_getD,List.getElem?_append_left h]
theorem getD_set {l:List PR}{i t:Nat}{p:PR}(hi:i<l.length):(l.set i p).getD t nil2=if t=i then p else l.getD t nil2:=by
 rw[List.getD_eq_getElem?_getD,List.getD_eq_getElem?_getD,List.getElem?_set]
 by_cases h:i=t
 ·subst h;simp[hi]
 ·rw[if_neg h,if_neg (fun e=>h e.symm)]
theorem shiftL_start (R:List PR):shiftL R R.length=R++ [nil2]:=by
 refine getD_ext (by rw[shiftL_len];simp) fun t ht=>?_
 rw[shiftL_len]at ht
 rw[shiftL_at R _ t ht,if_pos (by omega)]
theorem shiftL_step (R:List PR)(j:Nat)(hj:j+1≤R.length):(shiftL R (j+1)).set (j+1) ((shiftL R (j+1)).getD j nil2)=shiftL R j:=by
 refine getD_ext (by rw[List.length_set,shiftL_len,shiftL_len]) fun t ht=>?_
 rw[List.length_set,shiftL_len]at ht
 rw[getD_set (by rw[shiftL_len];omega),shiftL_at R j t ht]
 by_cases h:t=j+1
 ·subst h
  rw[if_pos rfl,if_neg (by omega),shiftL_at R (j+1) j (by omega),if_pos (by omega),getD_app_l (by omega)]
  rfl
 ·rw[if_neg h,shiftL_at R (j+1) t ht]
  by_cases h2:t≤j
  ·rw[if_pos (by omega),if_pos h2]
  ·rw[if_neg (by omega),if_neg h2]
def insL (R:List PR)(k:Nat)(x:PR):List PR:=R.take k++x::R.drop k
theorem shiftL_end (R:List PR)(k:Nat)(x:PR)(hk:k≤R.length):(shiftL R k).set k x=insL R k x:=by
 have hl:(insL R k x).length=R.length+1:=by unfold insL;simp;omega
 refine getD_ext (by rw[List.length_set,shiftL_len,hl]) fun t ht=>?_
 rw[List.length_set,shiftL_len]at ht
 rw[getD_set (by rw[shiftL_len];omega),shiftL_at R k t ht]
 unfold insL
 rw[List.getD_eq_getElem?_getD (l:=R.take k++x::R.drop k)]
 by_cases h:t=k
 ·subst h
  rw[if_pos rfl,List.getElem?_append_right (by simp;omega)]
  simp[Nat.min_eq_left hk]
 ·rw[if_neg h]
  by_cases h2:t≤k
  ·rw[if_pos h2,getD_app_l (by omega),List.getElem?_append_left (by simp;omega),List.getElem?_take_of_lt (by omega),List.getD_eq_getElem?_getD]
  ·rw[if_neg h2,List.getElem?_append_right (by simp;omega),List.length_take,Nat.min_eq_left hk]
   obtain⟨d,rfl⟩: ∃d,t=k+1+d:=⟨t-k-1,by omega⟩
   rw[show k+1+d-k=d+1 by omega,List.getElem?_cons_succ,List.getElem?_drop,List.getD_eq_getElem?_getD,show k+1+d-1=k+d by omega]
theorem insL_mem (R:List PR)(k:Nat)(x q:PR):q∈insL R k x↔q∈R∨q=x:=by
 unfold insL
 conv=>rhs;rw[←List.take_append_drop k R]
 simp only[List.mem_append,List.mem_cons]
 constructor
 ·rintro(h|h|h)
  ·exact Or.inl (Or.inl h)
  ·exact Or.inr h
  ·exact Or.inl (Or.inr h)
 ·rintro((h|h)|h)
  ·exact Or.inl h
  ·exact Or.inr (Or.inr h)
  ·exact Or.inr (Or.inl h)
theorem insL_rises {R:List PR}{k:Nat}{x:PR}(hR:Rises R)(hk:k≤R.length)(h1: ∀t,t<k→ltP (R.getD t nil2) x=true)(h2:k<R.length→ltP x (R.getD k nil2)=true):Rises (insL R k x):=by
 unfold insL Rises
 have hd:=hR.sublist (List.drop_sublist k R)
 have hkd: ∀q∈R.drop k,ltP x q=true:=fun q hq=>by
  obtain⟨i,hi,rfl⟩:=List.mem_iff_getElem.1 hq
  rw[List.length_drop]at hi
  have hx:=h2 (by omega)
  rw[List.getElem_drop]
  rcases Nat.eq_zero_or_pos i with h0|h0
  ·subst h0
   rwa[List.getD_eq_getElem?_getD,List.getElem?_eq_getElem (by omega)]at hx
  ·refine ltL_trans _ _ _ hx ?_
   have:=List.pairwise_iff_getElem.1 hR k (k+i) (by omega) (by omega) (by omega)
   rwa[List.getD_eq_getElem?_getD,List.getElem?_eq_getElem (show k<R.length by omega)]
 rw[List.pairwise_append]
 refine⟨hR.sublist (List.take_sublist k R),List.pairwise_cons.2 ⟨hkd,hd⟩,fun p hp q hq=>?_⟩
 obtain⟨i,hi,rfl⟩:=List.mem_iff_getElem.1 hp
 rw[List.length_take]at hi
 have hx:=h1 i (by omega)
 rw[List.getElem_take]
 rw[List.getD_eq_getElem?_getD,List.getElem?_eq_getElem (show i<R.length by omega)]at hx
 rcases List.mem_cons.1 hq with rfl|hq
 ·exact hx
 ·exact ltL_trans _ _ _ hx (hkd q hq)
def rowL (l:List PR)(i:Nat):List PR:=sortP (ded (l.take i))
theorem rowL_okR {l:List PR}{i:Nat}(h: ∀t,t<i→okR (l.getD t nil2))(hi:i≤l.length): ∀p∈l.take i,okR p:=fun p hp=>by
 obtain⟨t,ht,rfl⟩:=List.mem_iff_getElem.1 hp
 rw[List.length_take]at ht
 have:=h t (by omega)
 rw[List.getElem_take]
 rwa[List.getD_eq_getElem?_getD,List.getElem?_eq_getElem (show t<l.length by omega)]at this
theorem rowL_there {l:List PR}{i:Nat}(hi:i<l.length)(h: ∀t,t<i+1→okR (l.getD t nil2))(hm:l.getD i nil2∈rowL l i):rowL l (i+1)=rowL l i:=by
 have h1:=rowL_okR h (by omega)
 have h2:=rowL_okR (fun t ht=>h t (by omega)) (show i≤l.length by omega)
 refine list_same h1 h2 fun p=>?_
 rw[take_step hi]
 simp only[List.mem_append,List.mem_singleton]
 exact⟨fun k=>k.elim id fun e=>by rw[e];exact(list_mem _ _).1 hm,Or.inl⟩
theorem rowL_ins {l:List PR}{i k:Nat}(hi:i<l.length)(h: ∀t,t<i+1→okR (l.getD t nil2))(hk:k≤(rowL l i).length)(h1: ∀t,t<k→ltP ((rowL l i).getD t nil2) (l.getD i nil2)=true)(h2:k<(rowL l i).length→ltP (l.getD i nil2) ((rowL l i).getD k nil2)=true):insL (rowL l i) k (l.getD i nil2)=rowL l (i+1):=by
 have o1:=rowL_okR h (by omega)
 have o2:=rowL_okR (fun t ht=>h t (by omega)) (show i≤l.length by omega)
 refine rises_eq _ _ (insL_rises (list_rises o2) hk h1 h2) (list_rises o1) fun p=>?_
 rw[insL_mem]
 unfold rowL
 rw[list_mem,list_mem,take_step hi]
 simp
theorem rowL_zero (l:List PR):rowL l 0=[]:=by unfold rowL ded sortP;simp
theorem cellsP_set: ∀(l:List PR) (i:Nat) (p:PR),((cellsP l).set (i*2) (.string (T p.1))).set (i*2+1) (.string (T p.2))=cellsP (l.set i p)
 | [],_,_=>rfl
 |q::l,0,p=>by simp[cellsP]
 |q::l,i+1,p=>by
  have ih:=cellsP_set l i p
  rw[show(i+1)*2=i*2+1+1 by omega]
  simp only[cellsP,List.set_cons_succ]
  rw[ih]
theorem OwnP.frozen {w:World}{base n c g:Nat}{l:List PR}(h:OwnP w base (some ⟨g,0,none⟩) n c l)(i:Nat):w.frozen? ⟨g,i,none⟩=false:=by
 obtain⟨_,cur,hg,_⟩:=own_block h
 simp[World.frozen?,hg]
theorem OwnP.set {w:World}{base n c g:Nat}{l:List PR}(h:OwnP w base (some ⟨g,0,none⟩) n c l)(i:Nat)(p:PR)(hp:okP p)(hi:i<n):
 OwnP ((w.setCell ⟨g,i*2,none⟩ (.string (T p.1))).setCell ⟨g,i*2+1,none⟩ (.string (T p.2))) base (some ⟨g,0,none⟩) n c (l.set i p):=by
 refine⟨fun q hq=>?_,by rw[List.length_set];exact h.2.1,?_,?_,?_⟩
 ·rcases List.mem_or_eq_of_mem_set hq with h1|h1
  ·exact h.1 q h1
  ·subst h1;exact hp
 ·simpa [World.setCell]using h.2.2.1
 ·rw[cellsP_len,List.length_set,h.2.1]
 ·rcases h.2.2.2.2 with⟨he,h0⟩|⟨g',cap,cur,he,hb,hg,hnc,hcm,hsz,ht⟩
  ·cases he
  ·injection he with e1 e2 e3
   simp at e1
   subst e1
   refine .inr ⟨g,cap,(cur.setIfInBounds (i*2) (.string (T p.1))).setIfInBounds (i*2+1) (.string (T p.2)),?_,hb,?_,hnc,hcm,by simpa using hsz,?_⟩
   ·rw[←e3]
   ·simp[World.setCell,Array.getElem?_modify,hg]
   ·rw[←cellsP_set,←ht]
    simp only[Array.toList_setIfInBounds,List.take_set]
theorem OwnP.cellAt {w:World}{base n c g:Nat}{l:List PR}(h:OwnP w base (some ⟨g,0,none⟩) n c l)(i:Nat)(hi:i<n):w.cell? ⟨g,i*2,none⟩=some (.string (T (l.getD i nil2).1))∧w.cell? ⟨g,i*2+1,none⟩=some (.string (T (l.getD i nil2).2))∧g<w.heap.size∧base≤g:=by
 obtain⟨hb,cur,hg,ht⟩:=own_block h
 obtain⟨b,off,e,hlt,h0,h1⟩:=h.prs.2 i (by rw[h.2.1];exact hi)
 simp at e
 obtain⟨rfl,rfl⟩:=e
 rw[Nat.zero_add]at h0 h1
 exact⟨h0,h1,hlt,hb⟩
end Pi8
namespace Pr2
open Bytes8 Blk8 Own8 OwnE Fa Fb Fc Fo Pr8 Pa8 Ps8 Pl8 Pq8 Pi8
theorem rjoin_code (n v:List Int)(hn:AllB n)(hv:AllB v)(hmax:n.length≤9223372036854775807)(w:World):
 Calls Tryz.prog 197 #[.agg #[.string (T n),.string (T v)]] w fun e w'=> ∃(A:Option Addr) (m c:Nat),e= .returned (.tuple #[.slice A m c,.int .i64 (flawI n v)])∧Below w.heap.size w w':=
 (rjoin_any n v hn hv hmax w).mono fun e w' ⟨A,c,h1,h2,h3⟩=>⟨A,_,c,h1,h3.below⟩
theorem less_pr {p q:PR}(hp:okP p)(hq:okP q):Op.bytesLess (T (pay p.1 p.2)).toList (T (pay q.1 q.2)).toList=ltP p q:=bytesLess_T (pay_all hp.1 hp.2.1) (pay_all hq.1 hq.2.1)
theorem blank_cells:cellsP [nil2]=[.string {data:= #[]},.string {data:= #[]}]:=by rw[T_nil];rfl
theorem ownP_new {w:World}{base n c:Nat}{A:Option Addr}{l:List PR}(h:OwnP w base A n c l): ∀b off,A=some ⟨b,off,none⟩→0<l.length→base≤b:=fun b off e h0=>by
 obtain⟨g,e2,h1,_,_⟩:=OwnE.cell h.2.2 (i:=0) (by rw[cellsP_len];omega)
 rw[e]at e2
 injection e2 with e2
 injection e2 with e3 e4
 omega
set_option maxRecDepth 100000 in
theorem rlist_new (a:Option Addr)(l:List PR)(len cap:Nat)(w:World)(hP:Prs w a l)(hL:l.length=len)(hmax:len≤100000):
 Calls Tryz.prog 141 #[.slice a len cap] w (ListedN l w):=by
 by_cases h0:len=0
 ·subst h0
  have he:listE l=16:=by unfold listE;rw[if_pos (List.eq_nil_of_length_eq_zero hL)]
  have HE:=jH he
  clear he hP hL
  go_enter Tryz.func141,Tryz.ntmps141
  go_wp2
  go_ret2
  exact listedN_none HE.out (by decide) (Below.refl _ _)
 have h0b:((len:Int)==0)=false:=by simp;omega
 have hne:l≠ []:=fun e=>h0 (by rw[←hL,e];rfl)
 have HP:=jH hP
 have HL:=jH hL
 have HOk:=jH hP.1
 have HF:=jH fun k w=>rjoin_code (l.getD k nil2).1 (l.getD k nil2).2 (hP.1.at_ k).1 (hP.1.at_ k).2.1 (hP.1.at_ k).2.2.1 w
 have HAt:=jH fun k h1 h2 h3=>(by
  have e:=codeL_at l k h1 h2 h3
  unfold listE
  rw[if_neg hne,if_neg (by rw[e];exact h3),e]:listE l=flawI (l.getD k nil2).1 (l.getD k nil2).2)
 have HAll:=jH (fun(h: ∀j,j<len→flawI (l.getD j nil2).1 (l.getD j nil2).2=0)=>(by
  have hf: ∀p∈l,flawI p.1 p.2=0:=fun p hp=>by
   obtain⟨i,hi,rfl⟩:=mem_getD hp
   exact h i (by omega)
  unfold listE
  rw[if_neg hne,codeL_zero l hf,if_pos rfl]:listE l=(if(ded l).length≤16 then 0 else 21)))
 have hmx:Tryz.prog.follows .mixedOrders=true:=by kernel_rfl
 clear hP hL h0 hne
 go_enter Tryz.func141,Tryz.ntmps141
 go_wp2
 go_loopw [4,5] (fun s i wr=> ∃(k n:Nat) (A:Option Addr) (c:Nat),k≤len∧i= .int .i64 (k:Int)∧s= .slice A n c∧n≤k∧Hid (OwnP wr w.heap.size A n c (rowL l k))∧Hid (∀j,j<k→flawI (l.getD j nil2).1 (l.getD j nil2).2=0)∧Hid (Below w.heap.size w wr)) (fun _ i _=>len-(intOf i).toNat)
 case atStart=>exact⟨0,0,none,0,by omega,rfl,rfl,by omega,(by rw[rowL_zero];exact jH (OwnP.nil w _ (jR _))),jH (fun j hj=>absurd hj (by omega)),jH (Below.refl _ _)⟩
 case round=>
  obtain⟨i,n,A,c,hi,rfl,rfl,hn,hO,hall,hB⟩:=hrel
  rcases Nat.lt_or_ge i len with hlt|hge
  ·obtain⟨b,off,rfl,hbl,hc0,hc1⟩:=(HP.out.below hB.out).2 i (by have:=HL.out;omega)
   have hin:(i:Int)<(len:Int):=by omega
   have HFk:=jH (HF.out i)
   by_cases hf:flawI (l.getD i nil2).1 (l.getD i nil2).2=0
   ·have hall2:=jH (fun j (hj:j<i+1)=>(by
     rcases Nat.lt_or_ge j i with h1|h1
     ·exact hall.out j h1
     ·obtain rfl:j=i:=by omega
      exact hf:flawI (l.getD j nil2).1 (l.getD j nil2).2=0))
    have HR:=jH (fun t (ht:t<i+1)=>(⟨(HOk.out.at_ t).1,(HOk.out.at_ t).2.1,hall2.out t ht⟩:okR (l.getD t nil2)))
    have HRow:Hid (∀t,t<n→okR ((rowL l i).getD t nil2)):=jH fun t ht=>by
     have hm:(rowL l i).getD t nil2∈rowL l i:=getD_mem' (by rw[hO.out.2.1];exact ht)
     exact rowL_okR (fun t ht=>HR.out t (by omega)) (by have:=HL.out;omega) _ ((list_mem _ _).1 hm)
    rw[hf]at HFk
    clear hf hall
    generalize hX1:T (l.getD i nil2).1=X1 at*
    generalize hX2:T (l.getD i nil2).2=X2 at*
    have HX1:=jH hX1
    have HX2:=jH hX2
    clear hX1 hX2
    go_wp2_with(go_at_call 197;(with_reducible refine(HFk.out _).mono ?_);rintro e w2 ⟨A6,m6,c6,rfl,hb⟩;have O2:=jH (hO.out.kept hb (jR _));have B2:=jH (hB.out.trans (hb.mono hB.out.size));clear hb)
    clear hO hB hc0 hc1 hbl
    go_loopw [8] (fun s wr=> ∃k:Nat,k≤n∧s= .int .i64 (k:Int)∧Hid (∀t,t<k→ltP ((rowL l i).getD t nil2) (l.getD i nil2)=true)∧Hid (OwnP wr w.heap.size A n c (rowL l i))∧Hid (Below w.heap.size w wr)) (fun s _=>n-(intOf s).toNat)
    case atStart=>exact⟨0,by omega,rfl,jH (fun t ht=>absurd ht (by omega)),O2,B2⟩
    case round=>
     obtain⟨k,hk,rfl,hlow,hO,hB⟩:=hrel
     clear O2 B2
     obtain⟨b',off',eb,hbl,hc0,hc1⟩:=(HP.out.below hB.out).2 i (by have:=HL.out;omega)
     simp at eb
     obtain⟨rfl,rfl⟩:=eb
     rw[HX1.out]at hc0
     rw[HX2.out]at hc1
     rcases Nat.lt_or_ge k n with hkn|hkn
     ·obtain⟨g,rfl⟩:=own_some hO.out (by omega)
      obtain⟨hd0,hd1,hgl,hgb⟩:=Pi8.OwnP.cellAt hO.out k hkn
      have hin2:(k:Int)<(n:Int):=by omega
      have hd2:decide (k<n)=true:=decide_eq_true hkn
      have r1:=HRow.out k hkn
      have r2:=HR.out i (by omega)
      obtain⟨q1,q2⟩:=flaw_len r1.2.2
      obtain⟨q3,q4⟩:=flaw_len r2.2.2
      have hbl2:=less_pr (okR_okP r1) (okR_okP r2)
      have HY1:=jH fun w=>rpayload_grew ((rowL l i).getD k nil2).1 ((rowL l i).getD k nil2).2 (by omega) w
      have HY2:=jH fun w=>rpayload_grew (l.getD i nil2).1 (l.getD i nil2).2 (by omega) w
      have heq:=eql_pr (okR_okP r1) (okR_okP r2)
      have HTot:=jH (fun h=>ltP_total r1 r2 h)
      have HOx:=jH (okR_okP r2)
      dsimp only[pv]at HY1 HY2
      rw[HX1.out,HX2.out]at HY2 heq
      have p0:=cell_grown hgl hd0
      have p1:=cell_grown hgl hd1
      have x0:=cell_grown hbl hc0
      have x1:=cell_grown hbl hc1
      have HB:=jH hB.out
      clear hd0 hd1 hc0 hc1 q1 q2 q3 q4 r1 r2
      generalize T (pay ((rowL l i).getD k nil2).1 ((rowL l i).getD k nil2).2)=S1 at*
      generalize T (pay (l.getD i nil2).1 (l.getD i nil2).2)=S2 at*
      generalize hR1:T ((rowL l i).getD k nil2).1=R1 at*
      generalize hR2:T ((rowL l i).getD k nil2).2=R2 at*
      clear hR1 hR2
      have K1:Hid (∀q os,Calls Tryz.prog 42 #[.agg #[.string R1,.string R2]] (Sort.grow (wr.drewN q) os) fun e w'=>e= .returned (.string S1)∧ ∃q' os',w'=Sort.grow ((Sort.grow (wr.drewN q) os).drewN q') os'):=jH fun q os=>HY1.out _
      have K2:Hid (∀q os,Calls Tryz.prog 42 #[.agg #[.string X1,.string X2]] (Sort.grow (wr.drewN q) os) fun e w'=>e= .returned (.string S2)∧ ∃q' os',w'=Sort.grow ((Sort.grow (wr.drewN q) os).drewN q') os'):=jH fun q os=>HY2.out _
      clear HY1 HY2
      cases hz:ltP ((rowL l i).getD k nil2) (l.getD i nil2)with
      |true=>
       rw[hz]at hbl2
       have hlow2:=jH (fun t (ht:t<k+1)=>(by
        rcases Nat.lt_or_ge t k with h1|h1
        ·exact hlow.out t h1
        ·obtain rfl:t=k:=by omega
         exact hz:ltP ((rowL l i).getD t nil2) (l.getD i nil2)=true))
       clear hz hlow
       go_wp2_with fail
       go_quiet_grown (first|(go_at_call 42;with_reducible refine Calls.grown_of (K1.out _ _))|(go_at_call 42;with_reducible refine Calls.grown_of (K2.out _ _)))
       have HG:=jH (Grew.below (w:=wr) ⟨nq,osq,rfl⟩)
       have O3:=jH (hO.out.kept HG.out (jR _))
       have B3:=jH (HB.out.trans (Below.mono HG.out HB.out.size))
       go_wp2
       go_round
       case rel=>exact⟨k+1,by omega,by go_num,hlow2,O3,B3⟩
       case measure=>simp[intOf];omega
      |false=>
       rw[hz]at hbl2
       have HZ:=jH hz
       clear hz
       go_wp2_with fail
       go_quiet_grown (first|(go_at_call 42;with_reducible refine Calls.grown_of (K1.out _ _))|(go_at_call 42;with_reducible refine Calls.grown_of (K2.out _ _)))
       have HG:=jH (Grew.below (w:=wr) ⟨nq,osq,rfl⟩)
       have O3:=jH (hO.out.kept HG.out (jR _))
       have B3:=jH (HB.out.trans (Below.mono HG.out HB.out.size))
       have y0:=p0 nq osq
       have y1:=p1 nq osq
       have z0:=x0 nq osq
       have z1:=x1 nq osq
       clear K1 K2 p0 p1 x0 x1 HG hO hB HB
       generalize Sort.grow (wr.drewN nq) osq=W3 at*
       by_cases he:(rowL l i).getD k nil2=l.getD i nil2
       ·have hm:l.getD i nil2∈rowL l i:=by rw[←he];exact getD_mem' (by rw[O3.out.2.1];exact hkn)
        have HTh:=jH (rowL_there (by have:=HL.out;omega) HR.out hm)
        rw[decide_eq_true he]at heq
        clear he hm
        go_wp2_with fail
        go_quiet (fail)
        go_wp2
        go_round
        case rel=>exact⟨i+1,n,_,c,by omega,by go_num,rfl,by omega,by rw[HTh.out];exact O3,hall2,jH (below_drewN B3.out _)⟩
        case measure=>simp[intOf];omega
       ·have hxl:ltP (l.getD i nil2) ((rowL l i).getD k nil2)=true:=by
         cases h:ltP (l.getD i nil2) ((rowL l i).getD k nil2)with
         |true=>rfl
         |false=>exact absurd (HTot.out HZ.out h) he
        have HIn:=jH (rowL_ins (by have:=HL.out;omega) HR.out (by rw[O3.out.2.1];exact hk) hlow.out (fun _=>hxl))
        rw[decide_eq_false he]at heq
        clear he hxl HTot HZ hlow
        go_wp2_with fail
        go_quiet (fail)
        have O4:Hid (OwnP (W3.drewN nq) w.heap.size (some ⟨g,0,none⟩) n c (rowL l i)):=O3
        have B4:Hid (Below w.heap.size w (W3.drewN nq)):=jH (below_drewN B3.out _)
        clear O3 B3 y0 y1 z0 z1
        generalize W3.drewN nq=W4 at*
        go_wp2_with(at_builtin;refine wpList_append_elt pairElt rfl (.tmp 64) (.tmp 66) rfl w.heap.size _ n c (cellsP (rowL l i)) rfl (O4.out.2.2.alloc (.cells #[.string {data:= #[]},.string {data:= #[]}] 88)) ⟨W4.heap.size,0,none⟩ 1 1 [.string {data:= #[]},.string {data:= #[]}] rfl rfl (Blk.news (Blk.new W4 [.string {data:= #[]},.string {data:= #[]}] 88)) (by intro u hu;simp at hu;subst hu;rfl) (by omega) (by omega) ?_;intro A7 c7 w7 ho7 hbel7;have O7:=jH (⟨fun q hq=>(by
         rcases List.mem_append.1 hq with h|h
         ·exact O4.out.1 q h
         ·simp at h;subst h;exact⟨(fun x hx=>by cases hx),(fun x hx=>by cases hx),Nat.zero_le _,Nat.zero_le _⟩),by rw[List.length_append,O4.out.2.1];rfl,by rw[cellsP_app,blank_cells];exact ho7⟩:OwnP w7 w.heap.size A7 (n+1) c7 (rowL l i++ [nil2]));have B7:=jH ((B4.out.alloc B4.out.size (.cells #[.string {data:= #[]},.string {data:= #[]}] 88)).trans hbel7);clear ho7 hbel7)
        have HLr:=jH O4.out.2.1
        have HSt0:=jH (show shiftL (rowL l i) n=rowL l i++ [nil2]by rw[←HLr.out];exact shiftL_start _)
        clear O4 B4
        obtain⟨g7,rfl⟩:=own_some O7.out (by omega)
        go_loopw [9] (fun s wr=> ∃j:Nat,k≤j∧j≤n∧s= .int .i64 (j:Int)∧Hid (OwnP wr w.heap.size (some ⟨g7,0,none⟩) (n+1) c7 (shiftL (rowL l i) j))∧Hid (Below w.heap.size w wr)) (fun s _=>(intOf s).toNat)
        case atStart=>exact⟨n,hk,jR _,by go_num,(by rw[HSt0.out];exact O7),B7⟩
        case round=>
         obtain⟨j,hkj,hjn,rfl,hO8,hB8⟩:=hrel
         clear O7 B7
         rcases Nat.lt_or_ge k j with hlt8|hge8
         ·obtain⟨j,rfl⟩: ∃j',j=j'+1:=⟨j-1,by omega⟩
          have e:((j+1:Nat):Int)=(j:Int)+1:=by omega
          have hin8:(k:Int)<(j:Int)+1:=by omega
          have hj1:(j:Int)+1<(n:Int)+1:=by omega
          have hj0:(j:Int)<(n:Int)+1:=by omega
          have hjp:(0:Int)≤(j:Int)+1:=by omega
          have hjt:((j:Int)+1).toNat=j+1:=by omega
          obtain⟨v0,v1,hgl8,hgb8⟩:=Pi8.OwnP.cellAt hO8.out j (by omega)
          obtain⟨u0,u1,_,_⟩:=Pi8.OwnP.cellAt hO8.out (j+1) (by omega)
          have hfz:=Pi8.OwnP.frozen hO8.out
          have HSt:=jH (shiftL_step (rowL l i) j (by rw[HLr.out];omega))
          have HOj:=jH (hO8.out.1.at_ j)
          have HSet:=jH (Pi8.OwnP.set hO8.out (j+1) ((shiftL (rowL l i) (j+1)).getD j nil2) HOj.out (by omega))
          rw[HSt.out]at HSet
          rw[e]
          clear e HSt HOj
          generalize T ((shiftL (rowL l i) (j+1)).getD j nil2).1=V1 at*
          generalize T ((shiftL (rowL l i) (j+1)).getD j nil2).2=V2 at*
          generalize T ((shiftL (rowL l i) (j+1)).getD (j+1) nil2).1=U1 at*
          generalize T ((shiftL (rowL l i) (j+1)).getD (j+1) nil2).2=U2 at*
          go_wp2
          go_round
          case rel=>exact⟨j,by omega,by omega,by go_num,HSet,jH ((hB8.out.setCell (p:=⟨g7,(j+1)*2,none⟩) hgb8 _).setCell (p:=⟨g7,(j+1)*2+1,none⟩) hgb8 _)⟩
          case measure=>simp[intOf]<;>omega
         ·obtain rfl:j=k:=by omega
          obtain⟨b9,off9,eb9,hbl9,hs0,hs1⟩:=(HP.out.below hB8.out).2 i (by have:=HL.out;omega)
          simp at eb9
          obtain⟨rfl,rfl⟩:=eb9
          rw[HX1.out]at hs0
          rw[HX2.out]at hs1
          obtain⟨u0,u1,hgl8,hgb8⟩:=Pi8.OwnP.cellAt hO8.out j (by omega)
          have hfz:=Pi8.OwnP.frozen hO8.out
          have hj1:(j:Int)<(n:Int)+1:=by omega
          have HSet:=jH (Pi8.OwnP.set hO8.out j (l.getD i nil2) HOx.out (by omega))
          rw[shiftL_end _ _ _ (by rw[HLr.out];exact hjn),HIn.out,HX1.out,HX2.out]at HSet
          generalize T ((shiftL (rowL l i) j).getD j nil2).1=U1 at*
          generalize T ((shiftL (rowL l i) j).getD j nil2).2=U2 at*
          go_wp2
          go_round
          case rel=>exact⟨i+1,n+1,_,c7,by omega,by go_num,rfl,by omega,HSet,hall2,jH ((hB8.out.setCell (p:=⟨g7,j*2,none⟩) hgb8 _).setCell (p:=⟨g7,j*2+1,none⟩) hgb8 _)⟩
          case measure=>simp[intOf];omega
     ·have hnot: ¬(k:Int)<(n:Int):=by omega
      have hd2:decide (k<n)=false:=decide_eq_false (by omega)
      have hd3: ¬k<n:=by omega
      have HIn:=jH (rowL_ins (by have:=HL.out;omega) HR.out (by rw[hO.out.2.1];exact hk) hlow.out (fun h=>absurd h (by rw[hO.out.2.1];omega)))
      have HOx:=jH (okR_okP (HR.out i (by omega)))
      clear hlow hbl hc0 hc1
      go_wp2_with fail
      go_quiet (fail)
      obtain⟨nq1,hnq⟩: ∃x,x=nq:=⟨_,rfl⟩
      rw[←hnq]
      clear hnq nq
      go_wp2_with fail
      go_quiet (fail)
      have O4:Hid (OwnP ((wr.drewN nq1).drewN nq) w.heap.size A n c (rowL l i)):=hO
      have B4:Hid (Below w.heap.size w ((wr.drewN nq1).drewN nq)):=jH (below_drewN (below_drewN hB.out _) _)
      clear hO hB
      generalize (wr.drewN nq1).drewN nq=W4 at*
      go_wp2_with(at_builtin;refine wpList_append_elt pairElt rfl (.tmp 64) (.tmp 66) rfl w.heap.size _ n c (cellsP (rowL l i)) rfl (O4.out.2.2.alloc (.cells #[.string {data:= #[]},.string {data:= #[]}] 88)) ⟨W4.heap.size,0,none⟩ 1 1 [.string {data:= #[]},.string {data:= #[]}] rfl rfl (Blk.news (Blk.new W4 [.string {data:= #[]},.string {data:= #[]}] 88)) (by intro u hu;simp at hu;subst hu;rfl) (by omega) (by omega) ?_;intro A7 c7 w7 ho7 hbel7;have O7:=jH (⟨fun q hq=>(by
       rcases List.mem_append.1 hq with h|h
       ·exact O4.out.1 q h
       ·simp at h;subst h;exact⟨(fun x hx=>by cases hx),(fun x hx=>by cases hx),Nat.zero_le _,Nat.zero_le _⟩),by rw[List.length_append,O4.out.2.1];rfl,by rw[cellsP_app,blank_cells];exact ho7⟩:OwnP w7 w.heap.size A7 (n+1) c7 (rowL l i++ [nil2]));have B7:=jH ((B4.out.alloc B4.out.size (.cells #[.string {data:= #[]},.string {data:= #[]}] 88)).trans hbel7);clear ho7 hbel7)
      have HLr:=jH O4.out.2.1
      have HSt0:=jH (show shiftL (rowL l i) n=rowL l i++ [nil2]by rw[←HLr.out];exact shiftL_start _)
      clear O4 B4
      obtain⟨g7,rfl⟩:=own_some O7.out (by omega)
      go_loopw [9] (fun s wr=> ∃j:Nat,k≤j∧j≤n∧s= .int .i64 (j:Int)∧Hid (OwnP wr w.heap.size (some ⟨g7,0,none⟩) (n+1) c7 (shiftL (rowL l i) j))∧Hid (Below w.heap.size w wr)) (fun s _=>(intOf s).toNat)
      case atStart=>exact⟨n,hk,jR _,by go_num,(by rw[HSt0.out];exact O7),B7⟩
      case round=>
       obtain⟨j,hkj,hjn,rfl,hO8,hB8⟩:=hrel
       clear O7 B7
       rcases Nat.lt_or_ge k j with hlt8|hge8
       ·exfalso;omega
       ·obtain rfl:j=k:=by omega
        obtain⟨b9,off9,eb9,hbl9,hs0,hs1⟩:=(HP.out.below hB8.out).2 i (by have:=HL.out;omega)
        simp at eb9
        obtain⟨rfl,rfl⟩:=eb9
        rw[HX1.out]at hs0
        rw[HX2.out]at hs1
        obtain⟨u0,u1,hgl8,hgb8⟩:=Pi8.OwnP.cellAt hO8.out j (by omega)
        have hfz:=Pi8.OwnP.frozen hO8.out
        have hj1:(j:Int)<(n:Int)+1:=by omega
        have HSet:=jH (Pi8.OwnP.set hO8.out j (l.getD i nil2) HOx.out (by omega))
        rw[shiftL_end _ _ _ (by rw[HLr.out];exact hjn),HIn.out,HX1.out,HX2.out]at HSet
        generalize T ((shiftL (rowL l i) j).getD j nil2).1=U1 at*
        generalize T ((shiftL (rowL l i) j).getD j nil2).2=U2 at*
        go_wp2
        go_round
        case rel=>exact⟨i+1,n+1,_,c7,by omega,by go_num,rfl,by omega,HSet,hall2,jH ((hB8.out.setCell (p:=⟨g7,j*2,none⟩) hgb8 _).setCell (p:=⟨g7,j*2+1,none⟩) hgb8 _)⟩
        case measure=>simp[intOf];omega
   ·have hER:=jH (HAt.out i (by have:=HL.out;omega) hall.out hf)
    have hfb:(flawI (l.getD i nil2).1 (l.getD i nil2).2 !=0)=true:=by simpa using hf
    have hf0:=hf
    clear hall hf
    generalize T (l.getD i nil2).1=E1 at*
    generalize T (l.getD i nil2).2=E2 at*
    generalize flawI (l.getD i nil2).1 (l.getD i nil2).2=F at*
    have HF0:=jH hf0
    clear hf0
    go_wp2_with(go_at_call 197;(with_reducible refine(HFk.out _).mono ?_);rintro e w2 ⟨A6,m6,c6,rfl,hb⟩;have B2:=jH (hB.out.trans (hb.mono hB.out.size));clear hb)
    go_ret2
    exact listedN_none hER.out HF0.out B2.out
  ·obtain rfl:i=len:=by omega
   have ht:l.take i=l:=List.take_of_length_le (by have:=HL.out;omega)
   have hrow:rowL l i=sortP (ded l):=by unfold rowL;rw[ht]
   have hE:=HAll.out hall.out
   have hlen:=hO.out.2.1
   rw[hrow]at hO hlen
   rw[sortP_len]at hlen
   clear ht hall hrow
   by_cases h16:(ded l).length≤16
   ·rw[if_pos h16]at hE
    have HE:=jH hE
    have HLs:=jH (show listL l=sortP (ded l)from if_pos hE)
    have h16n:n≤16:=by omega
    have HLn:=jH hlen
    clear hE hlen
    go_wp2
    go_ret2
    unfold ListedN
    rw[HLs.out,HE.out,sortP_len,HLn.out]
    exact⟨_,_,rfl,hO.out.prs,hB.out,fun b off e h0=>ownP_new hO.out b off e (by rw[sortP_len,HLn.out];exact h0)⟩
   ·rw[if_neg h16]at hE
    have HE:=jH hE
    have h16n:16<n:=by omega
    clear hE hlen
    go_wp2
    go_ret2
    exact listedN_none HE.out (by decide) hB.out
end Pr2
namespace Nh
open Bytes8 Blk8 Own8 OwnA OwnE Rows2 Ob Od Ga Ma Kf Mb Mc Md Mf Mg Fa Fb Dc Yc Yd Na Nb Nc Nd Nf Hm Se Ya Pr8 Pl8
def Mk.kn (m:Mk)(i:Nat):Kn:=m.datas.getD i ⟨[],0,0,0,[]⟩
def posW (f:Nat→Nat)(x:Nat)(who:List Nat):Nat→Nat
 |0=>0
 |j+1=>if x<f (who.getD j 0)then posW f x who j else j+1
theorem posW_le (f:Nat→Nat)(x:Nat)(who:List Nat): ∀j,posW f x who j≤j
 |0=>jR _
 |j+1=>by
  unfold posW
  split
  ·exact Nat.le_trans (posW_le f x who j) (Nat.le_succ _)
  ·exact jR _
def insW (f:Nat→Nat)(who:List Nat)(k:Nat):List Nat:=who.take (posW f (f k) who who.length)++k::who.drop (posW f (f k) who who.length)
theorem insW_len (f:Nat→Nat)(who:List Nat)(k:Nat):(insW f who k).length=who.length+1:=by
 have:=posW_le f (f k) who who.length
 unfold insW
 rw[List.length_append,List.length_cons,List.length_take,List.length_drop]
 omega
theorem insW_mem {f:Nat→Nat}{who:List Nat}{k x:Nat}(h:x∈insW f who k):x=k∨x∈who:=by
 unfold insW at h
 rcases List.mem_append.1 h with h|h
 ·exact .inr (List.mem_of_mem_take h)
 ·rcases List.mem_cons.1 h with h|h
  ·exact .inl h
  ·exact .inr (List.mem_of_mem_drop h)
def dataStep (s:Mk×List Nat)(q:PR):Mk×List Nat:=
 let r:=Mk.dataOf s.1 q.1 (pay q.1 q.2)
 (r.2,insW (fun i=>(Mk.kn r.2 i).at_) s.2 r.1)
def Mk.dataAll (m:Mk)(l:List PR):Mk×List Nat:=l.foldl dataStep (m,[])
theorem dataAll_step (m:Mk)(l:List PR)(k:Nat)(h:k<l.length):Mk.dataAll m (l.take (k+1))=dataStep (Mk.dataAll m (l.take k)) l[k]:=by
 unfold Mk.dataAll
 rw[List.take_succ_eq_append_getElem h,List.foldl_append]
 rfl
theorem idxK_some {l:List Kn}{s:List Int}{i:Nat}(h:idxK l s=some i):i<l.length:=by
 unfold idxK at h
 exact(List.findIdx?_eq_some_iff_getElem.1 h).1
structure DKeeps (m m':Mk):Prop where
 C:m'.C=m.C
 main:m'.main=m.main
 n8:m'.h.N 8=m.h.N 8
 n9:m'.h.N 9=m.h.N 9
 len:m.b.length≤m'.b.length
 datas:m.datas.length≤m'.datas.length
theorem DKeeps.refl (m:Mk):DKeeps m m:=⟨rfl,rfl,rfl,rfl,jR _,jR _⟩
theorem DKeeps.trans {a b c:Mk}(h:DKeeps a b)(k:DKeeps b c):DKeeps a c:=⟨k.C.trans h.C,k.main.trans h.main,k.n8.trans h.n8,k.n9.trans h.n9,Nat.le_trans h.len k.len,Nat.le_trans h.datas k.datas⟩
theorem inv_dataOf {m:Mk}(h:Inv m)(nm s:List Int)(hn:AllB nm)(hnl:nm.length≤64)(hs:AllB s)(hsl:s.length≤400):
 Inv (Mk.dataOf m nm s).2∧(Mk.dataOf m nm s).1<(Mk.dataOf m nm s).2.datas.length∧(Mk.dataOf m nm s).2.b.length≤m.b.length+600∧DKeeps m (Mk.dataOf m nm s).2:=by
 unfold Mk.dataOf
 cases e:idxK m.datas s with
 |some i=>exact⟨h,idxK_some e,Nat.le_add_right _ _,DKeeps.refl _⟩
 |none=>
  obtain⟨h1,h2,h3,h4,h5,h6,h7,h8⟩:=inv_dataNew h nm s hn hnl hs hsl
  refine⟨h1,?_,h3,h5,h6,h7,h8,h2,?_⟩
  ·show m.datas.length<(Mk.dataNew m nm s).datas.length
   rw[h4,List.length_append,List.length_singleton]
   exact Nat.lt_succ_self _
  ·show m.datas.length≤(Mk.dataNew m nm s).datas.length
   rw[h4,List.length_append]
   exact Nat.le_add_right _ _
theorem inv_dataAll {m:Mk}(h:Inv m)(l:List PR)(hl: ∀q∈l,AllB q.1∧AllB q.2∧q.1.length≤64∧q.2.length≤256): ∀k,k≤l.length→
 Inv (Mk.dataAll m (l.take k)).1∧(Mk.dataAll m (l.take k)).2.length=k∧(∀x∈(Mk.dataAll m (l.take k)).2,x<(Mk.dataAll m (l.take k)).1.datas.length)∧(Mk.dataAll m (l.take k)).1.b.length≤m.b.length+600*k∧DKeeps m (Mk.dataAll m (l.take k)).1
 |0,_=>by
  refine⟨h,rfl,?_,jR _,DKeeps.refl _⟩
  intro x hx
  exact absurd hx (List.not_mem_nil)
 |k+1,hk=>by
  obtain⟨h1,h2,h3,h4,h5⟩:=inv_dataAll h l hl k (by omega)
  obtain⟨q1,q2,q3,q4⟩:=hl l[k] (List.getElem_mem _)
  have hp:(pay l[k].1 l[k].2).length≤400:=by rw[Nee.pay_len];omega
  obtain⟨d1,d2,d3,d4⟩:=inv_dataOf h1 l[k].1 (pay l[k].1 l[k].2) q1 q3 (pay_all q1 q2) hp
  rw[dataAll_step m l k (by omega)]
  refine⟨d1,?_,?_,?_,h5.trans d4⟩
  ·show(insW _ _ _).length=_
   rw[insW_len,h2]
  ·intro x hx
   rcases insW_mem hx with rfl|hx
   ·exact d2
   ·exact jL (h3 x hx) d4.datas
  ·show(Mk.dataOf _ _ _).2.b.length≤_
   omega
def Mk.eobj (m:Mk)(who:List Nat)(ps:List (List Int))(seq real mono:Int)(boot:Nat→Int):List Int:=
 objB 3 (entB seq real mono boot ((xr ps:Nat):Int) (prs (fun i=>((Mk.kn m (who.getD i 0)).at_:Int)) (fun i=>Mk.sum m (Mk.kn m (who.getD i 0)).text) who.length))
def Mk.linked (m:Mk)(at_:Nat)(n:Nat):Mk:=
 let r:=Mk.link m m.main n 176 at_
 {r.1 with main:=r.2.1,h:={setN r.1.h 11 ((r.2.1.getD 0 0:Nat):Int)with ta:=((r.2.1.getLastD 0:Nat):Int),ti:=((r.2.2:Nat):Int)}}
def Mk.mark (e:Nat)(m:Mk)(j:Nat):Mk:=
 let d:=Mk.kn m j
 let r:Mk×List Nat:=if d.count=0 then({m with b:=put8 m.b (d.at_+40) e},d.arrays)else((Mk.link m d.arrays (d.count-1) (d.at_+48) e).1,(Mk.link m d.arrays (d.count-1) (d.at_+48) e).2.1)
 {r.1 with b:=put8 r.1.b (d.at_+56) ((d.count+1:Nat):Int),datas:=r.1.datas.set j {d with count:=d.count+1,arrays:=r.2}}
def Mk.markAll (e:Nat)(m:Mk)(who:List Nat):Mk:=who.foldl (Mk.mark e) m
theorem markAll_step (e:Nat)(m:Mk)(who:List Nat)(k:Nat)(h:k<who.length):Mk.markAll e m (who.take (k+1))=Mk.mark e (Mk.markAll e m (who.take k)) who[k]:=by
 unfold Mk.markAll
 rw[List.take_succ_eq_append_getElem h,List.foldl_append]
 rfl
def Mk.grown (m:Mk)(l:List PR)(real mono:Int)(boot:Nat→Int):Mk:=
 let s:=Mk.dataAll m l
 let m2:=s.1.object (Mk.eobj s.1 s.2 (l.map fun q=>pay q.1 q.2) (m.h.N 9+1) real mono boot)
 Mk.markAll s.1.b.length (Mk.linked m2 s.1.b.length (m.h.N 8).toNat) s.2
def Mk.told (m:Mk)(n:Nat)(seq real mono:Int)(boot:Nat→Int)(te:Nat):Mk:=
 let h1:=if n=0 then setN (setN m.h 10 seq) 12 real else m.h
 let h2:=setN h1 8 (h1.N 8+1)
 let h3:=setN (setN (setN h2 9 seq) 13 real) 14 mono
 {m with h:={h3 with I:=fun i=>if 32≤i∧i<48 then boot (i-32)else h3.I i,te:=(te:Int)}}
def Mk.entered (m:Mk)(l:List PR)(real mono:Int)(boot:Nat→Int):Mk:=
 Mk.told (Mk.grown m l real mono boot) (m.h.N 8).toNat (m.h.N 9+1) real mono boot (Mk.dataAll m l).1.b.length
def Mk.acode (m:Mk)(raw:List PR)(real mono:Int)(boot:Nat→Int):Int:=
 if listE raw≠0 then listE raw else if m.h.N 9=18446744073709551615 then 1 else if m.C.most<(Mk.grown m (listL raw) real mono boot).b.length then 15 else 0
def Mk.after (m:Mk)(raw:List PR)(real mono:Int)(boot:Nat→Int):Mk:=if Mk.acode m raw real mono boot=0 then Mk.entered m (listL raw) real mono boot else m
structure Side (E:TypeId)(size:Nat)(w:World)(g:Nat)(p:Pl)(b0:Nat)(A:Option Addr)(n c:Nat)(xs:List Value):Prop where
 own:OwnE E size w b0 A n c xs
 off: ∀k,ownB A=some k→ ¬p.foot g k
theorem Side.path {E:TypeId}{size:Nat}{w w':World}{g:Nat}{p p':Pl}{b0:Nat}{A:Option Addr}{n c:Nat}{xs:List Value}(h:Side E size w g p b0 A n c xs)(k:Path g p w p' w'):Side E size w' g p' b0 A n c xs:=
 ⟨Mf.OwnE.keptF h.own k.kept h.off,fun j hj h2=>(k.foot j h2).elim (h.off j hj) (fun h3=>by have:=(OwnE.ltB h.own j hj).2;omega)⟩
theorem Side.below {E:TypeId}{size:Nat}{w w':World}{g:Nat}{p:Pl}{b0:Nat}{A:Option Addr}{n c:Nat}{xs:List Value}(h:Side E size w g p b0 A n c xs)(hb:Below w.heap.size w w'):Side E size w' g p b0 A n c xs:=
 ⟨h.own.kept hb (jR _),h.off⟩
def Pays (w:World)(g:Nat)(p:Pl)(A:Option Addr)(xs:List Value)(P:List (List Int)):Prop:=
 xs.length=P.length∧ ∀r (h:r<P.length),∃b c,xs[r]? =some (.slice (some ⟨b,0,none⟩) P[r].length c)∧Bytes w (some ⟨b,0,none⟩) P[r]∧b<w.heap.size∧ ¬p.foot g b∧ownB A≠some b
theorem bytes_block {w w':World}{b:Nat}{l:List Int}(h:Bytes w (some ⟨b,0,none⟩) l)(hs:w.heap.size≤w'.heap.size)(hk:w'.heap[b]? =w.heap[b]?):Bytes w' (some ⟨b,0,none⟩) l:=
 ⟨h.1,fun i hi=>by
   obtain⟨b2,off,e,hlt,hc⟩:=h.2 i hi
   injection e with e
   injection e with e1 e2
   subst e1
   exact⟨b,off,by rw[e2],jL hlt hs,(World.cell?_of_block (a:=⟨b,off+i,none⟩) hk).trans hc⟩⟩
theorem Pays.path {w w':World}{g:Nat}{p p':Pl}{A:Option Addr}{xs:List Value}{P:List (List Int)}(h:Pays w g p A xs P)(k:Path g p w p' w'):Pays w' g p' A xs P:=
 ⟨h.1,fun r hr=>by
   obtain⟨b,c,h1,h2,h3,h4,h5⟩:=h.2 r hr
   exact⟨b,c,h1,bytes_block h2 k.kept.size (k.kept.block b h3 h4),jL h3 k.kept.size,fun h6=>(k.foot b h6).elim h4 (fun h7=>by omega),h5⟩⟩
theorem Pays.below {w w':World}{g:Nat}{p:Pl}{A:Option Addr}{xs:List Value}{P:List (List Int)}(h:Pays w g p A xs P)(hb:Below w.heap.size w w'):Pays w' g p A xs P:=
 ⟨h.1,fun r hr=>by
   obtain⟨b,c,h1,h2,h3,h4,h5⟩:=h.2 r hr
   exact⟨b,c,h1,bytes_block h2 hb.size (hb.block b h3),jL h3 hb.size,h4,h5⟩⟩
theorem Pays.push {w w':World}{g:Nat}{p:Pl}{A A':Option Addr}{xs:List Value}{P:List (List Int)}(h:Pays w g p A xs P)(hg:w.grownBy w' (ownB A))(hA:ownB A'=ownB A∨ownB A'=some w.heap.size)(b c:Nat)(l:List Int)(hb:Bytes w (some ⟨b,0,none⟩) l)(hlt:b<w.heap.size)(hp: ¬p.foot g b)(hne:ownB A≠some b):
 Pays w' g p A' (xs++ [.slice (some ⟨b,0,none⟩) l.length c]) (P++ [l]):=by
 have hne': ∀j,j<w.heap.size→ownB A≠some j→ownB A'≠some j:=fun j hj h1 h2=>by
  rcases hA with h3|h3
  ·exact h1 (h3▸h2)
  ·rw[h3]at h2
   injection h2 with h2
   omega
 refine⟨by rw[List.length_append,List.length_append,h.1];rfl,fun r hr=>?_⟩
 rw[List.length_append,List.length_singleton]at hr
 rcases Nat.lt_or_ge r P.length with h1|h1
 ·obtain⟨b2,c2,e1,e2,e3,e4,e5⟩:=h.2 r h1
  refine⟨b2,c2,?_,?_,jL e3 hg.size,e4,hne' b2 e3 e5⟩
  ·rw[List.getElem_append_left h1,List.getElem?_append_left (by rw[h.1];exact h1),e1]
  ·rw[List.getElem_append_left h1]
   exact bytes_block e2 hg.size (hg.block b2 e3 (fun e=>e5 e.symm))
 ·have hr2:r=P.length:=by omega
  subst hr2
  refine⟨b,c,?_,?_,jL hlt hg.size,hp,hne' b hlt hne⟩
  ·rw[List.getElem_append_right (jR _),List.getElem?_append_right (by rw[h.1];exact jR _),h.1]
   simp
  ·rw[List.getElem_append_right (jR _)]
   simp only[Nat.sub_self,List.getElem_singleton]
   exact bytes_block hb hg.size (hg.block b hlt (fun e=>hne e.symm))
theorem arr_and {w:World}{F G:Nat→Prop}{v:Value}{l:List Nat}(h:Arr w F v l)(k:Arr w G v l):Arr w (fun b=>F b∨G b) v l:=by
 obtain⟨A,n,c,e,hl,h⟩:=h
 obtain⟨A2,n2,c2,e2,_,k⟩:=k
 rw[e]at e2
 injection e2 with e3 e4 e5
 subst e3
 refine⟨A,n,c,e,hl,fun i hi=>?_⟩
 obtain⟨b,h1,h2,h3,h4⟩:=h i hi
 obtain⟨b2,k1,_,k3,_⟩:=k i hi
 rw[h1]at k1
 injection k1 with k1
 injection k1 with k1
 subst k1
 exact⟨b,h1,h2,fun h=>h.elim h3 k3,h4⟩
theorem arr_weak {w:World}{F G:Nat→Prop}{v:Value}{l:List Nat}(h:Arr w F v l)(hG: ∀b,b<w.heap.size→ ¬F b→ ¬G b):Arr w G v l:=h.kept (KeptF.refl (fun _=>False) w) (fun _ _ _ h=>h) hG
structure Low (w:World)(b2:Nat)(p:Pl)(m:Mk):Prop where
 da: ∀q∈p.dl,Arr w (fun k=>b2≤k) q.2 q.1.arrays
 ma:Arr w (fun k=>b2≤k) p.M m.main
theorem At.low {w:World}{B g b2:Nat}{p:Pl}{m:Mk}(h:At w B g p m)(hb:w.heap.size≤b2):Low w b2 p m:=
 ⟨fun q hq=>arr_weak (h.da q hq) fun b h1 _ h2=>absurd h1 (by omega),arr_weak h.ma fun b h1 _ h2=>absurd h1 (by omega)⟩
theorem Low.path {w w':World}{B g b2:Nat}{p p':Pl}{m m':Mk}(h:Low w b2 p m)(ha:At w B g p m)(k:Path g p w p' w')(hd: ∀x∈p'.dl,x∈p.dl∨(x.2= .slice none 0 0∧x.1.arrays=[]))(hM:p'.M=p.M)(hm:m'.main=m.main):Low w' b2 p' m':=
 ⟨fun q hq=>(hd q hq).elim (fun h1=>(arr_and (h.da q h1) (ha.da q h1)).kept k.kept (fun b _ h2 h3=>h2 (.inr (.inl h3))) (fun b _ h2 h3=>h2 (.inl h3))) (fun h1=>by rw[h1.1,h1.2];exact Arr.nil _ _),
  by rw[hM,hm];exact(arr_and h.ma ha.ma).kept k.kept (fun b _ h2 h3=>h2 (.inr (.inl h3))) (fun b _ h2 h3=>h2 (.inl h3))⟩
theorem At.offA {w w':World}{B g b2:Nat}{p:Pl}{m:Mk}{G:Nat→Prop}(h:At w B g p m)(hl:Low w b2 p m)(hk:KeptF G w w')(hG: ∀k,G k→b2≤k∧ ¬p.foot g k):At w' B g p m∧Low w' b2 p m:=by
 have off: ∀k,p.foot g k→ ¬G k:=fun k hf hg=>(hG k hg).2 hf
 refine⟨{st:=⟨Kf.Blk.keptF h.st.st hk (off _ (.inl rfl)),Kf.Own.keptF h.st.own hk (fun k hk'=>off k (.inr (.inl (by injection hk' with e;exact e.symm)))),h.st.ne⟩
         dr:=Mf.OwnE.keptF h.dr hk (fun k e=>off k (.inr (.inr (.inl e))))
         fr:=Mf.OwnE.keptF h.fr hk (fun k e=>off k (.inr (.inr (.inr e))))
         dm:=h.dm,fm:=h.fm
         da:=fun q hq=>(arr_and (h.da q hq) (hl.da q hq)).kept hk (fun b _ h1 h2=>h1 (.inr (hG b h2).1)) (fun b _ h1 h2=>h1 (.inl h2))
         ma:=(arr_and h.ma hl.ma).kept hk (fun b _ h1 h2=>h1 (.inr (hG b h2).1)) (fun b _ h1 h2=>h1 (.inl h2))
         dg:=h.dg,fg:=h.fg,df:=h.df,gB:=h.gB,fo:=h.fo},?_⟩
 exact⟨fun q hq=>(hl.da q hq).kept hk (fun b _ h1 h2=>h1 (hG b h2).1) (fun b _ h1 h2=>h1 h2),hl.ma.kept hk (fun b _ h1 h2=>h1 (hG b h2).1) (fun b _ h1 h2=>h1 h2)⟩
theorem Path.side {w2 w w':World}{g:Nat}{p p1:Pl}{G:Nat→Prop}(h:Path g p w2 p1 w)(hk:KeptF G w w')(hG: ∀k,G k→w2.heap.size≤k):Path g p w2 p1 w':=⟨h.foot,h.kept.trans hk fun i hi h2=>absurd (hG i h2) (by omega)⟩
def iv (l:List Nat):List Value:=l.map fun(x:Nat)=> .int .i64 (x:Int)
theorem iv_len (l:List Nat):(iv l).length=l.length:=by simp[iv]
theorem iv_one (l:List Nat): ∀u∈iv l,u.oneCell'=true:=fun u hu=>by
 obtain⟨x,_,rfl⟩:=List.mem_map.1 hu
 rfl
theorem intE:Elt 3 22 1 8 (.int .i64 0):=⟨Tryz.underlying22,by kernel_rfl,rfl,by decide⟩
theorem rowE:Elt 25 224 1 24 (.slice none 0 0):=⟨Tryz.underlying224,by kernel_rfl,rfl,by decide⟩
theorem itemE:Elt 151 135 2 16 (.agg #[.int .u64 0,.int .u64 0]):=⟨Tryz.underlying135,by kernel_rfl,rfl,by decide⟩
theorem step_append_rN {E S:TypeId}{size bytes:Nat}{z:Value}(he:Elt E S size bytes z){w:World}{ops:Array Oper}{o:Oper}{a:Act}{K:Act→World→Prop}{Q:Exit→Act→World→Prop}{F:Prop}(hgd:o.guard=none)(s x:Operand)
 (hop:o.op= .call {callee:= .builtin .append,args:= #[s,x],argTypes:= #[S,S]})
 (base:Nat)(A:Option Addr)(n c:Nat)(xs:List Value)(hs:a.eval s= .slice A n c)(ho:OwnE E size w base A n c xs)(A2:Option Addr)(m c2:Nat)(news:List Value)(hx:a.eval x= .slice A2 m c2)(N:Nat)(hN:n+m=N)(hl:news.length=m*size)
 (hnews: ∀j u,news[j]? =some u→ ∃ad,A2=some ad∧w.cell? (ad.add j)=some u)(h1: ∀u∈news,u.oneCell'=true)(h63:N≤4611686018427387904)(hbytes:N*bytes≤140737488355328)(hml:N≤maxLen)
 (h: ∀A' c' w',OwnE E size w' base A' N c' (xs++news)→w.grownBy w' (ownB A)→(ownB A'=ownB A∨ownB A'=some w.heap.size)→K (a.put o.dst (.slice A' N c')) w'):
 if Region.wanted o (yielded ops a.tmps)=true then Oper.wp Tryz.prog o a w K Q else F:=by
 subst hN
 have hw:Region.wanted o (yielded ops a.tmps)=true:=by simp[Region.wanted,hgd]
 rw[if_pos hw]
 obtain⟨A',c',w',hr,h2,h3,h4⟩:=run_append_row he w o.type base A n c xs ho A2 m c2 news hl hnews h1 h63 hbytes hml
 unfold Oper.wp execOp
 simp only[hop,resolve,invoke,builtin,Sem.run_bind,Sem.run_pure,Result.andThen_ok,List.map_toArray,List.map_cons,List.map_nil,hs,hx,hr]
 exact h A' c' w' h2 h3 h4
theorem ownE_cap {E:TypeId}{size:Nat}{w:World}{base n c:Nat}{A:Option Addr}{xs:List Value}(h:OwnE E size w base A n c xs):n≤c:=by
 rcases h.2.2 with⟨he,h0⟩|⟨g,cap,cur,he,_,_,hnc,_⟩
 ·injection he with e1 e2 e3
  omega
 ·injection he with e1 e2 e3
  omega
theorem ownE_base {E:TypeId}{size:Nat}{w:World}{b b2 n c:Nat}{A:Option Addr}{xs:List Value}(h:OwnE E size w b A n c xs)(hb:b2≤b):OwnE E size w b2 A n c xs:=by
 refine⟨Nat.le_trans hb h.1,h.2.1,?_⟩
 rcases h.2.2 with h1|⟨g,cap,cur,h1,h2,h3,h4⟩
 ·exact .inl h1
 ·exact .inr ⟨g,cap,cur,h1,Nat.le_trans hb h2,h3,h4⟩
theorem intI:(Tryz.prog.info? 3).map (fun i=>(i.zero,i.size,i.bytes))=some (some (.int .i64 0),1,8):=by kernel_rfl
theorem sizeofI (w:World):(sizeOf 3).run Tryz.prog w= .ok 1 w:=by
 obtain⟨i,hi,hzz⟩:=Option.map_eq_some_iff.1 intI
 simp only[Prod.mk.injEq]at hzz
 simp[sizeOf,typeInfo,hi,hzz]
theorem elemI:Tryz.prog.elem 22=3:=by kernel_rfl
theorem icut_h (A:Option Addr)(len cap hi:Nat)(h2:hi≤cap)(w:World):
 (Instr.slice 22 (.slice A len cap) none (some (.int .i64 hi)) none).run Tryz.prog w= .ok (.slice A hi cap) w:=by
 rw[run_slice_h w _ A len cap (by rw[elemI];exact Tryz.underlying22) .i64 hi (by omega) (by omega),elemI,sizeofI]
 cases A with
 |none=>simp[Result.andThen,sliced]
 |some a=>simp[Result.andThen,sliced,Addr.add]
theorem icut_l (A:Option Addr)(len cap lo:Nat)(h1:lo≤len)(w:World):
 (Instr.slice 22 (.slice A len cap) (some (.int .i64 lo)) none none).run Tryz.prog w= .ok (.slice (cutA A cap lo) (len-lo) (cap-lo)) w:=
 sliced_low _ A len cap lo w (by rw[elemI];exact sizeofI w) (by rw[elemI];exact Tryz.underlying22) h1
theorem take_news {w:World}{base n c a:Nat}{A:Option Addr}{l:List Nat}(h:OwnE 3 1 w base A n c (iv l))(ha:a≤n):(iv (l.take a)).length=a*1∧ ∀j u,(iv (l.take a))[j]? =some u→ ∃ad,A=some ad∧w.cell? (ad.add j)=some u:=by
 obtain⟨h1,h2⟩:=own_news h
 rw[iv_len]at h1
 refine⟨by rw[iv_len,List.length_take];omega,fun j u hj=>h2 j u ?_⟩
 unfold iv at hj⊢
 rw[List.getElem?_map]at hj⊢
 obtain⟨x,hx,rfl⟩:=Option.map_eq_some_iff.1 hj
 rw[List.getElem?_take]at hx
 split at hx
 ·rw[hx];rfl
 ·cases hx
theorem drop_news {w:World}{base n c a:Nat}{A:Option Addr}{l:List Nat}(h:OwnE 3 1 w base A n c (iv l))(ha:a≤n):(iv (l.drop a)).length=(n-a)*1∧ ∀j u,(iv (l.drop a))[j]? =some u→ ∃ad,cutA A c a=some ad∧w.cell? (ad.add j)=some u:=by
 obtain⟨h1,h2⟩:=own_news h
 rw[iv_len]at h1
 refine⟨by rw[iv_len,List.length_drop];omega,fun j u hj=>?_⟩
 have hlt:j<(l.drop a).length:=by
  have:=(List.getElem?_eq_some_iff.1 hj).1
  rw[iv_len]at this
  exact this
 rw[List.length_drop]at hlt
 have hcap:=ownE_cap h
 have hj2:(iv l)[a+j]? =some u:=by
  rw[←hj]
  unfold iv
  rw[List.getElem?_map,List.getElem?_map,List.getElem?_drop]
 obtain⟨b,rfl,_,_,hc⟩:=OwnE.cell h (List.getElem?_eq_some_iff.1 hj2).1
 refine⟨⟨b,a,none⟩,?_,?_⟩
 ·rw[cutA_some,if_neg (by omega),Nat.zero_add]
 ·rw[add_none,hc,hj2]
theorem empty_int (w:World)(base:Nat)(h:base≤w.heap.size):OwnE 3 1 (w.alloc (.cells #[] 3)) base (some ⟨w.heap.size,0,none⟩) 0 0 []:=
 ⟨Nat.le_trans h (by simp),World.ownsRow_lit w #[] 0 h (by decide) rfl⟩
theorem own_int {w:World}{base n c:Nat}{A:Option Addr}{l:List Nat}(h:OwnE 3 1 w base A n c (iv l))(i:Nat)(hi:i<l.length): ∃b,A=some ⟨b,0,none⟩∧w.cell? ⟨b,i,none⟩=some (.int .i64 ((l.getD i 0:Nat):Int)):=by
 obtain⟨b,e,h1,h2,h3⟩:=h.cell (i:=i) (by rw[iv_len];exact hi)
 refine⟨b,e,h3.trans ?_⟩
 simp[iv,List.getD_eq_getElem?_getD,List.getElem?_eq_getElem hi]
def itv (f h:Nat→Int)(n:Nat):List Value:=(List.range n).flatMap fun i=>[.int .u64 (f i),.int .u64 (h i)]
theorem itv_succ (f h:Nat→Int)(n:Nat):itv f h (n+1)=itv f h n++ [.int .u64 (f n),.int .u64 (h n)]:=by simp[itv,List.range_succ,List.flatMap_append]
theorem itv_len (f h:Nat→Int)(n:Nat):(itv f h n).length=n*2:=by
 induction n with
 |zero=>rfl
 |succ n ih=>rw[itv_succ,List.length_append,ih];simp;omega
theorem itv_at (f h:Nat→Int)(n i:Nat)(hi:i<n):(itv f h n)[i*2]? =some (.int .u64 (f i))∧(itv f h n)[i*2+1]? =some (.int .u64 (h i)):=by
 induction n with
 |zero=>omega
 |succ n ih=>
  rw[itv_succ]
  rcases Nat.lt_or_ge i n with h1|h1
  ·rw[List.getElem?_append_left (by rw[itv_len];omega),List.getElem?_append_left (by rw[itv_len];omega)]
   exact ih h1
  ·obtain rfl:i=n:=by omega
   rw[List.getElem?_append_right (by rw[itv_len];omega),List.getElem?_append_right (by rw[itv_len];omega),itv_len]
   rw[Nat.sub_self,show i*2+1-i*2=1 by omega]
   exact⟨rfl,rfl⟩
theorem own_in2 {w:World}{base n c:Nat}{A:Option Addr}{f h:Nat→Int}(ho:OwnE 151 2 w base A n c (itv f h n))(hf: ∀i,i<n→0≤f i∧f i≤18446744073709551615)(hh: ∀i,i<n→0≤h i∧h i≤18446744073709551615):In2 w A n f h:=fun i hi=>by
 obtain⟨e1,e2⟩:=itv_at f h n i hi
 obtain⟨b,rfl,_,hb,h0⟩:=OwnE.cell ho (i:=i*2) (by rw[itv_len];omega)
 obtain⟨b2,e3,_,_,h1⟩:=OwnE.cell ho (i:=i*2+1) (by rw[itv_len];omega)
 injection e3 with e3
 injection e3 with e3
 subst e3
 exact⟨b,0,rfl,hb,by rw[Nat.zero_add,h0,e1],by rw[Nat.zero_add,h1,e2],hf i hi,hh i hi⟩
attribute [local irreducible] Mk.cells wpList Code.wp
theorem rxor_any (b0 n cap g:Nat)(p:Pl)(A:Option Addr)(xs:List Value)(P:List (List Int))(w:World)(ho:OwnE 25 1 w b0 A n cap xs)(h:Pays w g p A xs P)(hn:n≤1000000)(hL: ∀l∈P,l.length≤800000):
 Calls Tryz.prog 133 #[.slice A n cap] w fun e w'=>e= .returned (.int .u64 ((xr P:Nat):Int))∧w=w':=by
 have hPn:P.length=n:=by have:=ho.len;rw[h.1,Nat.mul_one]at this;exact this
 obtain⟨Pf,hPf⟩: ∃f:Nat→List Int,∀i,f i=P.getD i []:=⟨_,fun i=>rfl⟩
 have HP:rowsL Pf n=P:=by
  apply List.ext_getElem
  ·simp[rowsL,hPn]
  ·intro i h1 h2;simp[rowsL,hPf,List.getD_eq_getElem?_getD,List.getElem?_eq_getElem h2]
 have HO:=jH ho
 have HR:=jH h
 have HN:=jH hPn
 have HP:=jH HP
 clear h ho hPn
 go_enter Tryz.func133,Tryz.ntmps133
 go_wp2
 go_loopw [3,4] (fun s i wr=> ∃k:Nat,k≤n∧i= .int .i64 (k:Int)∧s= .int .u64 ((xr (rowsL Pf k):Nat):Int)∧wr=w) (fun _ i _=>n-(intOf i).toNat)
 case atStart=>exact⟨0,Nat.zero_le _,rfl,rfl,rfl⟩
 case round=>
  obtain⟨k,hk,rfl,rfl,rfl⟩:=hrel
  by_cases hlt:k<n
  ·obtain⟨b,c,e1,e2,e3,e4,e5⟩:=HR.out.2 k (by rw[HN.out];exact hlt)
   obtain⟨b2,rfl,_,_,hc⟩:=HO.out.cell (i:=k) (by rw[HR.out.1,HN.out];exact hlt)
   rw[e1]at hc
   have hgd:P[k]'(by rw[HN.out];exact hlt)=Pf k:=by rw[hPf,List.getD_eq_getElem?_getD,List.getElem?_eq_getElem (by rw[HN.out];exact hlt)];rfl
   have hLk:=hL _ (List.getElem_mem (by rw[HN.out];exact hlt:k<P.length))
   rw[hgd]at hc e2 hLk
   have HLook:=jH (rlook_all (some ⟨b,0,none⟩) (Pf k) _ c wr e2 rfl hLk)
   have HX:=jH (xr_bits Pf k)
   clear e1 e2 hgd
   generalize Pf k=q at*
   go_wp2_with(first|(go_at_call 138;(with_reducible refine HLook.out.mono ?_);rintro e w2 ⟨rfl,rfl⟩)|fail)
   go_roundw
   case rel=>exact⟨k+1,by omega,by go_num,by rw[HX.out],trivial⟩
   case measure=>simp[intOf];omega
  ·obtain rfl:k=n:=by omega
   go_wp2
   go_ret
   refine⟨?_,rfl⟩
   rw[HP.out]
   rfl
end Nh
end Go.Proofs.YtelmgldkgccecaaGreat
