/-
  Texts beneath.
-/
import Derived.Test.YteaikbodkgjkdaaGreatRows
import Derived.WalkKit
import Derived.ProofKit
import Derived.OpenShut
import Derived.Lib.Hide
import Derived.Deep.OwnRows
import Derived.Laws.CopyOwn
import Derived.BigQuiet
import Derived.Deep.RegionHeld
set_option linter.unusedVariables false
set_option linter.unusedSimpArgs false
set_option maxRecDepth 100000
open Go.ChangeShapes Go.WideShapes Go.ChangeAt Go.RowKit
namespace Go.Proofs.YteaikbodkgjkdaaGreat
theorem yB (B : Nat) (w : World) : Below B w w := Below.refl B w
theorem yA {α : Type _} {l m : List α} : (l ++ m).length = l.length + m.length := List.length_append
theorem yG {α : Type _} {l : List α} {i : Nat} (h : i < l.length) : l[i]? = some l[i] := List.getElem?_eq_getElem h
theorem yD {α : Type _} {l : List α} {i : Nat} {a : α} : l.getD i a = l[i]?.getD a := List.getD_eq_getElem?_getD
theorem yH {p:Prop}(h:p):Go.RowKit.Hid p:=h
theorem yR (n:Nat):n≤n:=Nat.le_refl n
theorem yL {n m k:Nat}(h:n<m)(g:m≤k):n<k:=Nat.lt_of_lt_of_le h g
theorem tq {P:Program}{e:Array Oper}{Q:Exit→Act→World→Prop}{j:Region.Mode}{S:World→Prop}{f:Nat}{b:Array Bool}{a:Act}{w:World}{v:Value}(i d:Nat){m:Op}{l:TypeId}{n:String}{k:Array Edge}{o:Option (Nat×Bool)}(s:e[i]? =some ⟨some d,m,l,n,k,o⟩)(q: ∀W,S W→(execOp a.eval ⟨some d,m,l,n,k,o⟩).run P W= .ok (.value v) W)(h:wpAnyH P j e Q S f (b.setIfInBounds i true) (a.put (some d) v) w)(p:Region.wanted ⟨some d,m,l,n,k,o⟩ (yielded e a.tmps)=true:=by rfl)(g:(Region.noSelect e&&Region.free j e b i&&(Region.ready j e b).contains i)=true:=by kernel_rfl)(r: ∀c a w,Q (.panic c) (a.put (some d) v) w→Q (.panic c) a w:=by exact fun _ _ _ h=>h)(t:S w:=by assumption):wpAnyH P j e Q S (f+1) b a w:=by
 simp only[Bool.and_eq_true]at g
 exact wpAnyH_take s g.1.1 g.1.2 g.2 r (Or.inl ⟨p,q⟩) t h
theorem rd {P:Program}{c:Array Oper}{Q:Exit→Act→World→Prop}{e:Region.Mode}{S:World→Prop}{d:Nat}{b:Array Bool}{a:Act}{w:World}(i:Nat){o:Oper}(f:c[i]? =some o)(h: ∀K':Act→World→Prop,Shut (∀a w,S w→(S w→wpAnyH P e c Q S d (b.setIfInBounds i true) a w)→K' a w)→if Region.wanted o (yielded c a.tmps)=true then Oper.wp P o a w K' Q else K' (a.put o.dst undef) w)(g:Region.ready e c b=[i]:=by kernel_rfl):wpAnyH P e c Q S (d+1) b a w:=
 wpAnyH_ready g (by simp) (AllReadyH.cons f h AllReadyH.nil)
theorem tk {P:Program}{d:Array Oper}{Q:Exit→Act→World→Prop}{g:Region.Mode}{S:World→Prop}{i:Nat}{oi:Oper}{v:Value}{e:Nat}{b:Array Bool}{a:Act}{w:World}(l:d[i]? =some oi)(j:YieldsIf P d S oi v a)(h:wpAnyH P g d Q S e (b.setIfInBounds i true) (a.put oi.dst v) w)(f:(Region.noSelect d&&Region.free g d b i&&(Region.ready g d b).contains i)=true:=by kernel_rfl)(k: ∀c a w,Q (.panic c) (a.put oi.dst v) w→Q (.panic c) a w:=by exact fun _ _ _ h=>h)(m:S w:=by assumption):wpAnyH P g d Q S (e+1) b a w:=by
 simp only[Bool.and_eq_true]at f
 exact wpAnyH_take l f.1.1 f.1.2 f.2 k j m h
theorem sA {α:Type _}(l:List α)(i:Nat)(a:α):l.toArray.setIfInBounds i a=(l.set i a).toArray:=List.setIfInBounds_toArray ..
theorem sZ {α:Type _}(a b:α)(l:List α):(a::l).set 0 b=b::l:=rfl
theorem sS {α:Type _}(a b:α)(l:List α)(n:Nat):(a::l).set (n+1) b=a::l.set n b:=rfl
namespace Bytes8
theorem aCa {k:IntKind}{a b:Int}(h:a=b):Ending.returned (.int k a)= .returned (.int k b):=by rw[h]
theorem aAC {a b:Bool}(h:a=b):Ending.returned (.bool a)= .returned (.bool b):=by rw[h]
theorem aFU {k:IntKind}{a b:Int}{c:Bool}(h:a=b):Ending.returned (.tuple #[.int k a,.bool c])= .returned (.tuple #[.int k b,.bool c]):=by rw[h]
def AllB (l:List Int):Prop:= ∀n∈l,0≤n∧n<256
theorem AllB.sub {l m:List Int}(h:AllB l)(hs: ∀x∈m,x∈l):AllB m:=fun n hn=>h n (hs n hn)
theorem AllB.take {l:List Int}(h:AllB l)(k:Nat):AllB (l.take k):=h.sub fun _ hx=>List.mem_of_mem_take hx
theorem AllB.drop {l:List Int}(h:AllB l)(k:Nat):AllB (l.drop k):=h.sub fun _ hx=>List.mem_of_mem_drop hx
theorem AllB.app {l m:List Int}(h:AllB l)(k:AllB m):AllB (l++m):=fun n hn=>by
 rcases List.mem_append.1 hn with a|a
 ·exact h n a
 ·exact k n a
theorem AllB.at_ {l:List Int}(h:AllB l)(i:Nat):0≤l.getD i 0∧l.getD i 0<256:=by
 by_cases a:i<l.length
 ·have:=h l[i] (List.getElem_mem a)
  simpa [yG a]using this
 ·simp[List.getElem?_eq_none (by omega:l.length≤i)]
theorem AllB.zeros (n:Nat):AllB (List.replicate n 0):=fun x hx=>by
 have:=(List.mem_replicate.1 hx).2;subst this;decide
theorem AllB.set {l:List Int}(h:AllB l)(i:Nat){c:Int}(d:0≤c)(b:c<256):AllB (l.set i c):=fun n hn=>by
 rcases List.mem_or_eq_of_mem_set hn with a|a
 ·exact h n a
 ·subst a;exact⟨d,b⟩
def Bytes (w:World)(a:Option Addr)(l:List Int):Prop:=
 AllB l∧ ∀i,i<l.length→ ∃b off,a=some ⟨b,off,none⟩∧b<w.heap.size∧w.cell? ⟨b,off+i,none⟩=some (.int .u8 (l.getD i 0))
theorem Bytes.spot {w:World}{a:Option Addr}{l:List Int}(h:Bytes w a l)(g:0<l.length):
 ∃b off,a=some ⟨b,off,none⟩∧b<w.heap.size∧ ∀i,i<l.length→w.cell? ⟨b,off+i,none⟩=some (.int .u8 (l.getD i 0)):=by
 obtain⟨b,off,e,j,_⟩:=h.2 0 g
 refine⟨b,off,e,j,fun i hi=>?_⟩
 obtain⟨k,d,c,_,f⟩:=h.2 i hi
 rw[e]at c;simp at c;obtain⟨rfl,rfl⟩:=c;exact f
theorem Bytes.nil (w:World)(a:Option Addr):Bytes w a []:=⟨(fun _ h=>by cases h),(fun i hi=>absurd hi (by simp))⟩
theorem Bytes.below {w w':World}{B:Nat}{a:Option Addr}{l:List Int}(h:Bytes w a l)(f:Below B w w')(j:w.heap.size≤B):Bytes w' a l:=by
 refine⟨h.1,fun i hi=>?_⟩
 obtain⟨b,c,e,d,g⟩:=h.2 i hi
 exact⟨b,c,e,yL d f.size,(f.cell (p:=⟨b,c+i,none⟩) (yL d j)).trans g⟩
theorem aAV (b a j:Nat):(⟨b,a,none⟩:Addr).add j=⟨b,a+j,none⟩:=by
 unfold Addr.add
 split<;>simp_all
theorem Bytes.source {w:World}{a:Option Addr}{l:List Int}(h:Bytes w a l)(w2:World)(g:Below w.heap.size w w2)(c:0<l.length):
 ∃ad,a=some ad∧ ∀(j:Nat) (x:Int),l[j]? =some x→w2.cell? (ad.add j)=some (.int .u8 x):=by
 obtain⟨b,e,rfl,d,i⟩:=h.spot c
 refine⟨_,rfl,fun j x hx=>?_⟩
 have f:j<l.length:=by
  rcases Nat.lt_or_ge j l.length with h|h
  ·exact h
  ·rw[List.getElem?_eq_none h]at hx;cases hx
 rw[aAV,g.cell (p:=⟨b,e+j,none⟩) d,i j f]
 simp[hx]
def Row (w:World)(g:Nat)(l:List Int):Prop:=w.heap[g]? =some (.cells (l.map (Value.int .u8)).toArray 5 (0,0))
theorem Row.lt {w:World}{g:Nat}{l:List Int}(h:Row w g l):g<w.heap.size:=by
 rcases Nat.lt_or_ge g w.heap.size with b|a
 ·exact b
 ·unfold Row at h;rw[Array.getElem?_eq_none a]at h;cases h
theorem Row.cell {w:World}{g:Nat}{l:List Int}(h:Row w g l){i:Nat}(a:i<l.length):w.cell? ⟨g,i,none⟩=some (.int .u8 (l.getD i 0)):=by
 unfold Row at h
 simp[World.cell?,h,yG a]
theorem Row.bytes {w:World}{g:Nat}{l:List Int}(h:Row w g l)(a:AllB l):Bytes w (some ⟨g,0,none⟩) l:=
 ⟨a,fun i hi=>⟨g,0,rfl,h.lt,by rw[Nat.zero_add];exact h.cell hi⟩⟩
theorem Row.new (w:World)(l:List Int):Row (w.alloc (.cells (l.map (Value.int .u8)).toArray 5)) w.heap.size l:=heap_alloc_new w _
theorem aJ3:(Tryz.prog.info? 5).map (fun i=>(i.zero,i.size,i.bytes))=some (some (.int .u8 0),1,1):=by kernel_rfl
theorem Bytes.string {w:World}{a:Option Addr}{l:List Int}(h:Bytes w a l)(c n:Nat)(i:l.length=n):
 (convert 26 9 (.slice a n c)).run Tryz.prog w= .ok (.string (strOfNums l)) w:=by
 subst i
 by_cases f:0<l.length
 ·obtain⟨b,d,rfl,_,g⟩:=h.spot f
  exact run_convert_bytes_arg w 26 5 Tryz.underlying26 Tryz.underlying5 b d l.length c l rfl g 9 Tryz.underlying9
 ·obtain rfl:l=[]:=List.eq_nil_of_length_eq_zero (by omega)
  cases a with
  |none=>exact run_convert_bytes_nil w 26 5 Tryz.underlying26 Tryz.underlying5 0 c 9 Tryz.underlying9
  |some ad=>
   have e:=run_loadCells_list (P:=Tryz.prog) w ad [] (fun j v hj=>by simp at hj)
   rw[run_convert_bytes_string w 26 9 5 (some ad) ([]:List Int).length c Tryz.underlying26 Tryz.underlying5 Tryz.underlying9]
   exact run_bytesToString w ad ([]:List Int).length c [] e
theorem Bytes.drew {w:World}{a:Option Addr}{l:List Int}(h:Bytes w a l):Bytes w.drew a l:=h
theorem Bytes.drewN {w:World}{a:Option Addr}{l:List Int}(h:Bytes w a l)(k:Nat):Bytes (w.drewN k) a l:=h
theorem Bytes.part {w:World}{a:Option Addr}{l:List Int}(h:Bytes w a l)(o n:Nat)(g:Option Addr)(j: ∀b c,a=some ⟨b,c,none⟩→0<n→o<l.length→g=some ⟨b,c+o,none⟩):Bytes w g ((l.drop o).take n):=by
 refine⟨(h.1.drop o).take n,fun i hi=>?_⟩
 have d:i<n∧o+i<l.length:=by simp at hi;omega
 obtain⟨b,c,e,f,k⟩:=h.2 (o+i) d.2
 refine⟨b,c+o,j b c e (by omega) (by omega),f,?_⟩
 rw[Nat.add_assoc,k]
 simp[d.1]
end Bytes8
namespace Ja
def goodR (C S:Nat→Int):Nat→List Nat×Int
 |0=>([],0)
 |k+1=>if C k=0∧(goodR C S k).2<S k then((goodR C S k).1++ [k],S k)else goodR C S k
theorem aCo {C S:Nat→Int}{k:Nat}(h:C k=0∧(goodR C S k).2<S k):goodR C S (k+1)=((goodR C S k).1++ [k],S k):=if_pos h
theorem aDA {C S:Nat→Int}{k:Nat}(h: ¬(C k=0∧(goodR C S k).2<S k)):goodR C S (k+1)=goodR C S k:=if_neg h
theorem aAR (C S:Nat→Int): ∀k,(∀x∈(goodR C S k).1,x<k∧C x=0∧0<S x∧S x≤(goodR C S k).2)∧(goodR C S k).1.length≤k∧0≤(goodR C S k).2∧(goodR C S k).1.Pairwise (fun a b=>S a<S b)
 |0=>⟨fun x c=>absurd c List.not_mem_nil,yR _,Int.le_refl _,List.Pairwise.nil⟩
 |k+1=>by
  obtain⟨h1,h2,h3,h4⟩:=aAR C S k
  by_cases h:C k=0∧(goodR C S k).2<S k
  ·rw[aCo h]
   refine⟨fun x c=>?_,?_,?_,?_⟩
   ·rcases List.mem_append.1 c with c|c
    ·have:=h1 x c
     exact⟨by omega,this.2.1,this.2.2.1,by show S x≤S k;omega⟩
    ·have e:x=k:=by simpa using c
     subst e
     exact⟨by omega,h.1,by omega,Int.le_refl _⟩
   ·rw[yA,List.length_singleton];omega
   ·show 0≤S k;omega
   ·rw[List.pairwise_append]
    refine⟨h4,List.pairwise_singleton _ _,fun a ha b hb=>?_⟩
    have e:b=k:=by simpa using hb
    subst e
    have:=h1 a ha
    omega
  ·rw[aDA h]
   exact⟨fun x c=>by have:=h1 x c;exact⟨by omega,this.2⟩,by omega,h3,h4⟩
theorem aDl {C S:Nat→Int}{b:Int}(c:0≤b): ∀n,(∀k,k<n→C k=0→S k=b+k+1)→(goodR C S n).1=(List.range n).filter (fun k=>decide (C k=0))∧(goodR C S n).2≤b+n
 |0,_=>⟨rfl,by show(0:Int)≤_;omega⟩
 |n+1,h=>by
  obtain⟨h1,h2⟩:=aDl c n fun k hk=>h k (by omega)
  rw[List.range_succ,List.filter_append]
  by_cases a:C n=0
  ·have e:=h n (by omega) a
   rw[aCo ⟨a,by omega⟩,h1]
   exact⟨by simp[a],by show S n≤_;omega⟩
  ·rw[aDA fun h=>a h.1,h1]
   exact⟨by simp[a],by omega⟩
theorem aJ4 {C S:Nat→Int}{b:Int}(c:0≤b)(n:Nat)(h: ∀k,k<n→C k=0∧S k=b+k+1):(goodR C S n).1=List.range n:=by
 rw[(aDl c n fun k a _=>(h k a).2).1]
 rw[List.filter_eq_self]
 intro k a
 have:=(h k (List.mem_range.1 a)).1
 simp[this]
end Ja
namespace LeAl
end LeAl
namespace LeNum
def leNum:List Int→Int
 | []=>0
 |b::r=>b+256*leNum r
open Bytes8
theorem aCV (l:List Int)(b:Int):leNum (l++ [b])=leNum l+b*256^l.length:=by
 induction l with
 |nil=>simp[leNum]
 |cons a r ih=>
  simp only[List.cons_append,leNum,ih,List.length_cons,Int.pow_succ]
  rw[Int.mul_add,←Int.add_assoc]
  congr 1
  rw[Int.mul_comm (256^r.length) 256,←Int.mul_assoc,←Int.mul_assoc,Int.mul_comm 256 b]
theorem aAK (l:List Int)(h:AllB l):0≤leNum l∧leNum l<256^l.length:=by
 induction l with
 |nil=>simp[leNum]
 |cons a r ih=>
  have b:=ih (fun n hn=>h n (List.mem_cons_of_mem _ hn))
  have c:=h a (List.mem_cons_self ..)
  simp only[leNum,List.length_cons,Int.pow_succ]
  omega
theorem aMi (k:Nat)(h:k≤8):(256:Int)^k≤18446744073709551616∧1≤(256:Int)^k:=by
 match k,h with
 |0,_|1,_|2,_|3,_|4,_|5,_|6,_|7,_|8,_=>decide
theorem bits_or_u64_nat (a b:Nat)(f:a<18446744073709551616)(e:b<18446744073709551616):
 bits .or .u64 (a:Int) (b:Int)=((a|||b:Nat):Int):=by
 have g:a|||b<2^64:=Nat.or_lt_two_pow (by omega) (by omega)
 have c:(BitVec.ofInt 64 (a:Int)).toNat=a:=by
  rw[BitVec.ofInt_natCast,BitVec.toNat_ofNat];exact Nat.mod_eq_of_lt (by omega)
 have d:(BitVec.ofInt 64 (b:Int)).toNat=b:=by
  rw[BitVec.ofInt_natCast,BitVec.toNat_ofNat];exact Nat.mod_eq_of_lt (by omega)
 show IntKind.u64.wrap ((BitVec.ofInt 64 (a:Int)|||BitVec.ofInt 64 (b:Int)).toNat:Int)=_
 rw[BitVec.toNat_or,c,d,IntKind.wrap_u64]
 omega
theorem aDK (k:Nat):(2:Int)^(8*k)=256^k:=by rw[Int.pow_mul];rfl
theorem aJ5 (v c:Int)(k:Nat)(s:k<8)(p:0≤v)(l:v<256^k)(q:0≤c)(i:c<256):
 bits .or .u64 v (IntKind.u64.wrap (IntKind.u64.wrap c*2^(8*k)))=v+c*256^k:=by
 obtain⟨e,rfl⟩:=Int.eq_ofNat_of_zero_le p
 obtain⟨a,rfl⟩:=Int.eq_ofNat_of_zero_le q
 have m:IntKind.u64.wrap (a:Int)=(a:Int):=by rw[IntKind.wrap_u64];omega
 have g:(256:Nat)^(k+1)≤18446744073709551616:=by
  have:=Nat.pow_le_pow_right (n:=256) (by decide) (show k+1≤8 by omega)
  omega
 have j:a*256^k<18446744073709551616:=by
  have:a*256^k≤255*256^k:=Nat.mul_le_mul_right _ (by omega)
  rw[Nat.pow_succ]at g
  have:=Nat.pow_pos (n:=k) (show 0<256 by decide)
  omega
 have r:IntKind.u64.wrap ((a:Int)*2^(8*k))=((a*256^k:Nat):Int):=by
  rw[aDK,IntKind.wrap_u64]
  have:((a:Int)*256^k)=((a*256^k:Nat):Int):=by simp
  rw[this];omega
 have b:e<256^k:=by
  have:((256^k:Nat):Int)=256^k:=by simp
  omega
 have f:e<18446744073709551616:=by rw[Nat.pow_succ]at g;omega
 rw[m,r,bits_or_u64_nat _ _ f j]
 have o:e|||a*256^k=e+a*256^k:=by
  have d:(256:Nat)^k=2^(8*k):=by rw[Nat.pow_mul]
  rw[d]at b⊢
  rw[Nat.or_comm,Nat.mul_comm,←Nat.two_pow_add_eq_or_of_lt b,Nat.add_comm]
 rw[o]
 simp
theorem take_snoc (l:List Int)(k:Nat)(h:k<l.length):l.take (k+1)=l.take k++ [l.getD k 0]:=by
 rw[List.take_succ_eq_append_getElem h]
 simp[yD,yG h]
theorem aMj (l:List Int)(a k:Nat)(g:k<8)(h:a+k<l.length)(d:AllB l):
 bits .or .u64 (leNum ((l.drop a).take k)) (IntKind.u64.wrap (IntKind.u64.wrap (l[a+k]?.getD 0)*2^(8*k)))=leNum ((l.drop a).take (k+1)):=by
 have b:((l.drop a).take k).length=k:=by simp;omega
 have c:=aAK ((l.drop a).take k) (d.sub fun x hx=>List.mem_of_mem_drop (List.mem_of_mem_take hx))
 rw[b]at c
 have f:l[a+k]?.getD 0=l[a+k]:=by simp[yG h]
 have e:=d (l[a+k]) (List.getElem_mem h)
 rw[f,aJ5 _ _ k g c.1 c.2 e.1 e.2,take_snoc _ _ (by simp;omega),aCV,b]
 congr 2
 simp[List.getElem?_drop,yG h]
def lowB (v:Int)(k:Nat):List Int:=(List.range k).map fun i=>v/256^i%256
theorem aAj (v:Int)(k:Nat):(lowB v k).length=k:=by simp[lowB]
theorem aDL (v:Int)(k:Nat):lowB v (k+1)=lowB v k++ [v/256^k%256]:=by simp[lowB,List.range_succ]
theorem aH7 (v:Int)(k:Nat):AllB (lowB v k):=by
 intro x a
 obtain⟨i,_,rfl⟩:=List.mem_map.1 a
 omega
theorem aFV (v p:Int)(c:0<p):v%p+v/p%256*p=v%(p*256):=by
 have f:=Int.mul_ediv_add_emod v p
 have d:=Int.mul_ediv_add_emod (v/p) 256
 have l:=Int.emod_nonneg v (b:=p) (by omega)
 have k:=Int.emod_lt_of_pos v c
 have g:=Int.emod_nonneg (v/p) (b:=256) (by decide)
 have i:=Int.emod_lt_of_pos (v/p) (b:=256) (by decide)
 have a:(v%p+v/p%256*p)+p*256*(v/p/256)=v:=by
  have e:v/p%256*p+p*256*(v/p/256)=p*(v/p):=by
   rw[Int.mul_assoc,Int.mul_comm (v/p%256) p,←Int.mul_add,Int.add_comm,d]
  rw[Int.add_assoc,e,Int.add_comm]
  exact f
 have b0:0≤v/p%256*p:=Int.mul_nonneg g (by omega)
 have j:v/p%256*p≤255*p:=Int.mul_le_mul_of_nonneg_right (by omega) (by omega)
 exact(((Int.ediv_emod_unique (show 0<p*256 by omega)).2 ⟨a,by omega,by omega⟩).2).symm
theorem aEE (v:Int)(k:Nat):leNum (lowB v k)=v%256^k:=by
 induction k with
 |zero=>simp[lowB,leNum]
 |succ k ih=>
  rw[aDL,aCV,ih,aAj,Int.pow_succ]
  exact aFV v (256^k) (Int.pow_pos (by decide))
theorem bits_and_u64_nat (a b:Nat)(f:a<18446744073709551616)(e:b<18446744073709551616):
 bits .and .u64 (a:Int) (b:Int)=((a&&&b:Nat):Int):=by
 have g:a&&&b≤a:=Nat.and_le_left
 have c:(BitVec.ofInt 64 (a:Int)).toNat=a:=by
  rw[BitVec.ofInt_natCast,BitVec.toNat_ofNat];exact Nat.mod_eq_of_lt (by omega)
 have d:(BitVec.ofInt 64 (b:Int)).toNat=b:=by
  rw[BitVec.ofInt_natCast,BitVec.toNat_ofNat];exact Nat.mod_eq_of_lt (by omega)
 show IntKind.u64.wrap ((BitVec.ofInt 64 (a:Int)&&&BitVec.ofInt 64 (b:Int)).toNat:Int)=_
 rw[BitVec.toNat_and,c,d,IntKind.wrap_u64]
 omega
theorem aMk (v:Int)(n:Nat)(i:n≤7)(e:0≤v)(g:v≤18446744073709551615):
 bits BinOp.and IntKind.u64 v (IntKind.u64.wrap (IntKind.u64.wrap (2^(8*n))-1))=v%256^n:=by
 obtain⟨d,rfl⟩:=Int.eq_ofNat_of_zero_le e
 have f:2^(8*n)≤72057594037927936:=Nat.pow_le_pow_right (n:=2) (by decide) (show 8*n≤56 by omega)
 have b:0<2^(8*n):=Nat.pow_pos (by decide)
 have a:((2:Int)^(8*n))=((2^(8*n):Nat):Int):=by simp
 have c:IntKind.u64.wrap (IntKind.u64.wrap (2^(8*n))-1)=((2^(8*n)-1:Nat):Int):=by
  rw[a,IntKind.wrap_u64,IntKind.wrap_u64];omega
 rw[c,bits_and_u64_nat d _ (by omega) (by omega),Nat.and_two_pow_sub_one_eq_mod,←aDK,a]
 simp
def over (l:List Int)(o:Nat)(m:List Int):List Int:=l.take o++m++l.drop (o+m.length)
theorem aMl (l:List Int)(o:Nat):over l o []=l:=by simp[over]
theorem aH8 (l:List Int)(o:Nat)(m:List Int)(h:o+m.length≤l.length):(over l o m).length=l.length:=by simp[over];omega
theorem aJ6 (l:List Int)(o:Nat)(m:List Int)(x:Int)(h:o+m.length<l.length):(over l o m).set (o+m.length) x=over l o (m++ [x]):=by
 have e:l.drop (o+m.length)=l[o+m.length]::l.drop (o+m.length+1):=List.drop_eq_getElem_cons h
 unfold over
 rw[List.set_append_right _ _ (by simp;omega),e]
 have:o+m.length-(l.take o++m).length=0:=by simp;omega
 rw[this]
 simp[Nat.add_assoc]
end LeNum
namespace Numb
def numBelow (n b:Int):Int:=(n.tmod b+b)%b
theorem aDM (n b:Int)(a:1≤b):0≤numBelow n b:=Int.emod_nonneg _ (by omega)
theorem aDN (n b:Int)(a:1≤b):numBelow n b<b:=Int.emod_lt_of_pos _ (by omega)
theorem aOs (n b:Int)(c:1≤b): -b<n.tmod b∧n.tmod b<b:=by
 have a:=Int.tmod_lt_of_pos n (b:=b) (by omega)
 have d:=Int.lt_tmod_of_pos n (b:=b) (by omega)
 omega
theorem number_any (n b:Int)(w:World)(a:1≤b)(c:b≤4611686018427387903):
 Calls Tryz.prog 36 #[.int .i64 n,.int .i64 b] w fun e w'=>e= .returned (.int .i64 (numBelow n b))∧w=w':=by
 have t:=aOs n b a
 obtain⟨f,d⟩:=t
 go_enter Tryz.func36,Tryz.ntmps36
 go_wp2
 go_ret
 exact⟨rfl,rfl⟩
theorem aBV (n b:Int)(j:Nat)(w:World)(d:1≤b)(a:b≤4611686018427387903)(c:numBelow n b=j):
 Calls Tryz.prog 36 #[.int .i64 n,.int .i64 b] w fun e w'=>e= .returned (.int .i64 (j:Int))∧w=w':=by
 rw[←c];exact number_any n b w d a
theorem aDO (n b:Int)(a:1≤b): ∃j:Nat,Hid (numBelow n b=j)∧(j:Int)<b:=by
 have c:=aDM n b a
 have d:=aDN n b a
 exact⟨(numBelow n b).toNat,by unfold Hid;omega,by omega⟩
end Numb
namespace Hm
open Bytes8 LeNum
def rot32 (x k:Int):Int:=bits .or .u32 (x*2^k.toNat%4294967296) (x/2^(32-k).toNat)
def add32 (a b:Int):Int:=(a+b)%4294967296
def stir (a b k:Int):Int:=bits .xor .u32 ((a-b)%4294967296) (rot32 b k)
def setl (a b k:Int):Int:=(bits .xor .u32 a b-rot32 b k)%4294967296
structure Trio where
 x:Int
 y:Int
 z:Int
def Trio.ok (t:Trio):Prop:=(0≤t.x∧t.x≤4294967295)∧(0≤t.y∧t.y≤4294967295)∧(0≤t.z∧t.z≤4294967295)
def mix1 (t:Trio):Trio:=⟨stir t.x t.z 4,t.y,add32 t.z t.y⟩
def mix2 (t:Trio):Trio:=⟨add32 t.x t.z,stir t.y t.x 6,t.z⟩
def mix3 (t:Trio):Trio:=⟨t.x,add32 t.y t.x,stir t.z t.y 8⟩
def mix4 (t:Trio):Trio:=⟨stir t.x t.z 16,t.y,add32 t.z t.y⟩
def mix5 (t:Trio):Trio:=⟨add32 t.x t.z,stir t.y t.x 19,t.z⟩
def mix6 (t:Trio):Trio:=⟨t.x,add32 t.y t.x,stir t.z t.y 4⟩
def mix (t:Trio):Trio:=mix6 (mix5 (mix4 (mix3 (mix2 (mix1 t)))))
def fin (t:Trio):Trio:=
 let z:=setl t.z t.y 14
 let x:=setl t.x z 11
 let y:=setl t.y x 25
 let z:=setl z y 16
 let x:=setl x z 4
 let y:=setl y x 14
 let z:=setl z y 24
 ⟨x,y,z⟩
def ans (t:Trio):Int:=bits .or .u64 (t.z*4294967296) t.y
def w4 (l:List Int)(o:Nat):Int:=leNum ((l.drop o).take 4)
def plus3 (t:Trio)(l:List Int)(o:Nat):Trio:=⟨add32 t.x (w4 l o),add32 t.y (w4 l (o+4)),add32 t.z (w4 l (o+8))⟩
def lookInit (l:List Int):Trio:=⟨add32 3735928559 l.length,add32 3735928559 l.length,add32 3735928559 l.length⟩
def trioAt (l:List Int):Nat→Trio
 |0=>lookInit l
 |k+1=>mix (plus3 (trioAt l k) l (12*k))
def lookS (l:List Int):Int:=if l=[]then ans (lookInit l)else ans (fin (plus3 (trioAt l ((l.length-1)/12)) l (12*((l.length-1)/12))))
def rot64 (x k:Int):Int:=bits .or .u64 (x*2^k.toNat%18446744073709551616) (x/2^(64-k).toNat)
def add64 (a b:Int):Int:=(a+b)%18446744073709551616
def xor64 (a b:Int):Int:=bits .xor .u64 a b
structure Quad where
 p:Int
 q:Int
 r:Int
 s:Int
def Quad.ok (f:Quad):Prop:=(0≤f.p∧f.p≤18446744073709551615)∧(0≤f.q∧f.q≤18446744073709551615)∧(0≤f.r∧f.r≤18446744073709551615)∧(0≤f.s∧f.s≤18446744073709551615)
def round (f:Quad):Quad:=
 let p:=add64 f.p f.q
 let q:=xor64 (rot64 f.q 13) p
 let p:=rot64 p 32
 let r:=add64 f.r f.s
 let s:=xor64 (rot64 f.s 16) r
 let p:=add64 p s
 let s:=xor64 (rot64 s 21) p
 let r:=add64 r q
 let q:=xor64 (rot64 q 17) r
 let r:=rot64 r 32
 ⟨p,q,r,s⟩
def rounds (f:Quad):Nat→Quad
 |0=>f
 |k+1=>round (rounds f k)
def quadPlus (f:Quad)(m:Int):Quad:=
 let g:=round (round ⟨f.p,f.q,f.r,xor64 f.s m⟩)
 ⟨xor64 g.p m,g.q,g.r,g.s⟩
def w8 (l:List Int)(o:Nat):Int:=leNum ((l.drop o).take 8)
def keyed (key:List Int):Quad:=⟨xor64 (w8 key 0) 8317987319222330741,xor64 (w8 key 8) 7237128888997146477,xor64 (w8 key 0) 7816392313619706465,xor64 (w8 key 8) 8387220255154660723⟩
def quadAt (key l:List Int):Nat→Quad
 |0=>keyed key
 |k+1=>quadPlus (quadAt key l k) (w8 l (8*k))
def last8 (l:List Int):Int:=bits .or .u64 (w8 l (8*(l.length/8))) ((l.length:Int)%256*72057594037927936)
def sipEnd (f:Quad)(m:Int):Int:=
 let g:=quadPlus f m
 let h:=rounds ⟨g.p,g.q,xor64 g.r 255,g.s⟩ 4
 xor64 (xor64 (xor64 h.p h.q) h.r) h.s
def sipS (key l:List Int):Int:=sipEnd (quadAt key l (l.length/8)) (last8 l)
theorem b32 (c:BinOp)(a b:Int):0≤bits c .u32 a b∧bits c .u32 a b≤4294967295:=by
 have:(Lit.int .u32 (bits c .u32 a b)).wf=true:=wf_bits c .u32 a b
 exact bounds_u32 this
theorem b64 (c:BinOp)(a b:Int):0≤bits c .u64 a b∧bits c .u64 a b≤18446744073709551615:=by
 have:(Lit.int .u64 (bits c .u64 a b)).wf=true:=wf_bits c .u64 a b
 exact bounds_u64 this
theorem aCp (n:Int):0≤IntKind.u64.wrap n∧IntKind.u64.wrap n≤18446744073709551615:=by rw[IntKind.wrap_u64];omega
theorem aG6 (a b k:Int):0≤stir a b k∧stir a b k≤4294967295:=b32 _ _ _
theorem aDP (a b k:Int):0≤setl a b k∧setl a b k≤4294967295:=by unfold setl;omega
theorem aBg (a b:Int):0≤add32 a b∧add32 a b≤4294967295:=by unfold add32;omega
theorem aMm (a b:Int):0≤add64 a b∧add64 a b≤18446744073709551615:=by unfold add64;omega
theorem aBA (a b:Int):0≤xor64 a b∧xor64 a b≤18446744073709551615:=b64 _ _ _
theorem aCq (a k:Int):0≤rot64 a k∧rot64 a k≤18446744073709551615:=b64 _ _ _
theorem aH9 (t:Trio)(l:List Int)(o:Nat):(plus3 t l o).ok:=⟨aBg _ _,aBg _ _,aBg _ _⟩
theorem aG7 (l:List Int):(lookInit l).ok:=⟨aBg _ _,aBg _ _,aBg _ _⟩
theorem aPA (t:Trio):(mix t).ok:=by
 refine⟨?_,?_,?_⟩<;>simp only[mix,mix6,mix5,mix4,mix3,mix2,mix1]
 ·exact aBg _ _
 ·exact aBg _ _
 ·exact aG6 _ _ _
theorem aPB (t:Trio):(fin t).ok:=⟨aDP _ _ _,aDP _ _ _,aDP _ _ _⟩
theorem aDQ (l:List Int)(k:Nat):(trioAt l k).ok:=by
 cases k with
 |zero=>exact aG7 l
 |succ k=>exact aPA _
theorem aDR (l:List Int)(n:Nat):leNum (l++List.replicate n 0)=leNum l:=by
 induction l with
 |nil=>
  induction n with
  |zero=>rfl
  |succ n ih=>rw[List.replicate_succ];simp[leNum]at ih⊢;omega
 |cons a r ih=>simp[leNum,ih]
theorem aFW (l:List Int)(o:Nat)(h:AllB l):0≤w4 l o∧w4 l o≤4294967295:=by
 have b:=aAK ((l.drop o).take 4) ((h.drop o).take 4)
 have a:((l.drop o).take 4).length≤4:=List.length_take_le _ _
 unfold w4
 generalize (l.drop o).take 4=m at*
 have:(256:Int)^m.length≤4294967296:=by
  generalize m.length=j at a
  match j,a with
  |0,_|1,_|2,_|3,_|4,_=>decide
 omega
theorem aE8 (f:Quad):(round f).ok:=⟨aMm _ _,aBA _ _,aCq _ _,aBA _ _⟩
theorem aDS (f:Quad)(h:f.ok)(n:Nat):(rounds f n).ok:=by
 cases n with
 |zero=>exact h
 |succ n=>exact aE8 _
theorem aDT (f:Quad)(m:Int):(quadPlus f m).ok:=by
 obtain⟨_,b,a,c⟩:=aE8 (round ⟨f.p,f.q,f.r,xor64 f.s m⟩)
 exact⟨aBA _ _,b,a,c⟩
theorem aMn (a:List Int):(keyed a).ok:=⟨aBA _ _,aBA _ _,aBA _ _,aBA _ _⟩
theorem aDU (a l:List Int)(k:Nat):(quadAt a l k).ok:=by
 cases k with
 |zero=>exact aMn a
 |succ k=>exact aDT _ _
end Hm
namespace Ska
def IsFst (p:Nat→Bool)(m r:Nat):Prop:=r≤m∧(∀k,k<r→p k=false)∧(r<m→p r=true)
theorem IsFst.uniq {p:Nat→Bool}{m r s:Nat}(h:IsFst p m r)(g:IsFst p m s):r=s:=by
 obtain⟨i,b,d⟩:=h
 obtain⟨f,a,e⟩:=g
 rcases Nat.lt_trichotomy r s with c|c|c
 ·have:=a r c
  rw[d (by omega)]at this
  cases this
 ·exact c
 ·have:=b s c
  rw[e (by omega)]at this
  cases this
def Halves (p:Nat→Bool)(m i j c:Nat):Prop:=i≤j∧j≤m∧(∀k,k<i→p k=false)∧(j<m→p j=true)∧ ∀D,m<2^D→c≤D∧j-i<2^(D-c)
theorem Halves.start (p:Nat→Bool)(m:Nat):Halves p m 0 m 0:=⟨Nat.zero_le _,yR _,fun k h=>absurd h (Nat.not_lt_zero k),fun h=>absurd h (Nat.lt_irrefl m),fun D h=>⟨Nat.zero_le _,h⟩⟩
theorem aIa {D c s t:Nat}(h:c≤D∧s<2^(D-c))(f:0<s)(d:t≤s/2):c+1≤D∧t<2^(D-(c+1)):=by
 obtain⟨b,a⟩:=h
 rcases Nat.eq_or_lt_of_le b with e|e
 ·subst e
  rw[Nat.sub_self]at a
  omega
 ·refine⟨e,?_⟩
  rw[show D-c=D-(c+1)+1 by omega,Nat.pow_succ]at a
  omega
theorem Halves.lo {p:Nat→Bool}{m i j c:Nat}(e: ∀a b,a≤b→b<m→p a=true→p b=true)(h:Halves p m i j c)(f:i<j)(d:p ((i+j)/2)=false):Halves p m ((i+j)/2+1) j (c+1):=by
 obtain⟨q,l,r,n,o⟩:=h
 refine⟨by omega,l,fun k hk=>?_,n,fun D hD=>aIa (o D hD) (by omega) (by omega)⟩
 cases g:p k with
 |false=>rfl
 |true=>
  have:=e k ((i+j)/2) (by omega) (by omega) g
  rw[d]at this
  cases this
theorem Halves.hi {p:Nat→Bool}{m i j c:Nat}(h:Halves p m i j c)(b:i<j)(a:p ((i+j)/2)=true):Halves p m i ((i+j)/2) (c+1):=by
 obtain⟨k,f,e,g,d⟩:=h
 exact⟨by omega,by omega,e,fun _=>a,fun D hD=>aIa (d D hD) (by omega) (by omega)⟩
theorem Halves.stop {p:Nat→Bool}{m i j c:Nat}(h:Halves p m i j c)(g: ¬i<j):IsFst p m i∧ ∀D,m<2^D→c≤D:=by
 obtain⟨k,a,f,b,d⟩:=h
 have e:i=j:=by omega
 subst e
 exact⟨⟨a,f,b⟩,fun D hD=>(d D hD).1⟩
theorem Halves.few {p:Nat→Bool}{m i j c:Nat}(h:Halves p m i j c)(a:m≤800000):c≤20:=(h.2.2.2.2 20 (by omega)).1
end Ska
namespace Sm
open Bytes8 LeNum Hm
def left8 (l:List Int):Int:=leNum (l.drop (8*(l.length/8)))
theorem aMo (l:List Int):w8 l (8*(l.length/8))=left8 l:=by
 unfold w8 left8
 rw[List.take_of_length_le (by simp;omega)]
theorem aPC (l m:List Int)(o:Nat)(h:o+8≤l.length):w8 (l++m) o=w8 l o:=by
 unfold w8
 rw[List.drop_append_of_le_length (by omega),List.take_append_of_le_length (by simp;omega)]
theorem aEF (a l m:List Int)(k:Nat)(h:8*k≤l.length):quadAt a (l++m) k=quadAt a l k:=by
 induction k with
 |zero=>rfl
 |succ k ih=>rw[quadAt,quadAt,ih (by omega),aPC _ _ _ (by omega)]
theorem aIb (l:List Int)(h:AllB l):0≤left8 l∧left8 l<256^(l.length%8):=by
 have a:=aAK (l.drop (8*(l.length/8))) (h.drop _)
 rw[show(l.drop (8*(l.length/8))).length=l.length%8 by simp;omega]at a
 exact a
theorem aEG (l:List Int)(c:Int):leNum ((l++ [c]).drop (8*(l.length/8)))=left8 l+c*256^(l.length%8):=by
 unfold left8
 rw[List.drop_append_of_le_length (by omega),aCV,show(l.drop (8*(l.length/8))).length=l.length%8 by simp;omega]
theorem aFX (l:List Int)(c:Int)(h:l.length%8<7):(l++ [c]).length/8=l.length/8∧left8 (l++ [c])=left8 l+c*256^(l.length%8):=by
 have e:(l++ [c]).length/8=l.length/8:=by simp;omega
 refine⟨e,?_⟩
 rw[←aEG]
 unfold left8
 rw[e]
theorem aJ7 (a l:List Int)(c:Int)(h:l.length%8=7):
 quadAt a (l++ [c]) ((l++ [c]).length/8)=quadPlus (quadAt a l (l.length/8)) (left8 l+c*256^(l.length%8))∧left8 (l++ [c])=0:=by
 have e:(l++ [c]).length/8=l.length/8+1:=by simp;omega
 constructor
 ·rw[e,quadAt,aEF _ _ _ _ (by omega),←aEG]
  unfold w8
  rw[List.take_of_length_le (by simp;omega)]
 ·unfold left8
  rw[e,List.drop_of_length_le (by simp;omega)]
  rfl
theorem aJ8 (a l:List Int)(c:Int)(h:l.length%8<7):quadAt a (l++ [c]) ((l++ [c]).length/8)=quadAt a l (l.length/8):=by
 rw[(aFX l c h).1,aEF _ _ _ _ (by omega)]
theorem aPD (l:List Int)(c:Int)(a:AllB l)(b:0≤c)(d:c<256):bits .or .u64 (left8 l) (IntKind.u64.wrap (IntKind.u64.wrap c*2^(8*(l.length%8))))=left8 l+c*256^(l.length%8):=
 aJ5 _ _ _ (by omega) (aIb l a).1 (aIb l a).2 b d
theorem aI5 (l:List Int):last8 l=bits .or .u64 (left8 l) ((l.length:Int)%256*72057594037927936):=by
 unfold last8;rw[aMo]
end Sm
namespace Own8
open Bytes8
def Own (w:World)(base:Nat)(A:Option Addr)(n c:Nat)(l:List Int):Prop:=
 AllB l∧l.length=n∧base≤w.heap.size∧w.ownsRow base 5 1 (.slice A n c) n (l.map (Value.int .u8))
theorem Own.nil (w:World)(base:Nat)(h:base≤w.heap.size):Own w base none 0 0 []:=⟨(fun _ h=>by cases h),rfl,h,World.ownsRow_nil _ _ _ _⟩
theorem Own.made (w:World)(base:Nat)(h:base≤w.heap.size):Own (w.alloc (.cells #[] 5)) base (some ⟨w.heap.size,0,none⟩) 0 0 []:=
 ⟨(fun _ h=>by cases h),rfl,Nat.le_trans h (by simp),World.ownsRow_lit w #[] 0 h (by decide) rfl⟩
theorem Own.lt {w:World}{base:Nat}{A:Option Addr}{n c:Nat}{l:List Int}(h:Own w base A n c l): ∀k,(Value.slice A n c).ownBlock=some k→base≤k∧k<w.heap.size:=h.2.2.2.lt
theorem Own.bytes {w:World}{base:Nat}{A:Option Addr}{n c:Nat}{l:List Int}(h:Own w base A n c l):Bytes w A l:=by
 obtain⟨k,p,_,b⟩:=h
 refine⟨k,fun i hi=>?_⟩
 rcases b.2 with⟨q,m⟩|⟨g,j,e,f,o,d,_⟩
 ·omega
 ·injection f with h1 h2 h3
  subst h1
  have a:g<w.heap.size:=by
   rcases Nat.lt_or_ge g w.heap.size with h|h
   ·exact h
   ·rw[Array.getElem?_eq_none h]at d;cases d
  refine⟨g,0,rfl,a,?_⟩
  rw[Nat.zero_add,b.cellAt i (by omega)]
  simp[yG hi]
theorem Own.kept {w w':World}{base B:Nat}{A:Option Addr}{n c:Nat}{l:List Int}(h:Own w base A n c l)(f:Below B w w')(m:w.heap.size≤B):Own w' base A n c l:=by
 refine⟨h.1,h.2.1,Nat.le_trans h.2.2.1 f.size,h.2.2.2.1,?_⟩
 rcases h.2.2.2.2 with d|⟨g,e,a,d,j,b,k⟩
 ·exact .inl d
 ·refine .inr ⟨g,e,a,d,j,?_,k⟩
  have i:g<w.heap.size:=by
   rcases Nat.lt_or_ge g w.heap.size with h|h
   ·exact h
   ·rw[Array.getElem?_eq_none h]at b;cases b
  rw[f.block g (by omega)];exact b
theorem Own.drew {w:World}{base:Nat}{A:Option Addr}{n c:Nat}{l:List Int}(h:Own w base A n c l):Own w.drew base A n c l:=h
theorem Own.far {w:World}{base:Nat}{A:Option Addr}{n c:Nat}{l:List Int}(h:Own w base A n c l){a:Addr}(b:a.block<base)(u:Value):Own (w.setCell a u) base A n c l:=
 ⟨h.1,h.2.1,by simpa using h.2.2.1,ownsRow_setCell_below h.2.2.2 b u⟩
theorem Own.alloc {w:World}{base:Nat}{A:Option Addr}{n c:Nat}{l:List Int}(h:Own w base A n c l)(o:Obj):Own (w.alloc o) base A n c l:=h.kept ((yB _ _).alloc (yR _) o) (yR _)
theorem ones (l:List Int): ∀u∈l.map (Value.int .u8),u.oneCell'=true:=by
 intro v a;obtain⟨x,_,rfl⟩:=List.mem_map.1 a;rfl
theorem below_grown {w w':World}{base:Nat}{row:Option Nat}(a:w.grownBy w' row)(b:base≤w.heap.size)(c: ∀k,row=some k→base≤k):Below base w w':=
 (yB base w).grown a b c
theorem aDx (w:World)(N:TypeId)(base:Nat)(A:Option Addr)(n c:Nat)(l:List Int)(d:Own w base A n c l)(X:Option Addr)(m J:Nat)(e:List Int)(C:Bytes w X e)(R:e.length=m)(Z:n+m≤70368744177664):
 ∃p o w',(Builtin.append_ #[26,26] N #[.slice A n c,.slice X m J]).run Tryz.prog w= .ok (.slice p (n+m) o) w'∧Own w' base p (n+m) o (l++e)∧Below base w w':=by
 obtain⟨i,B,y⟩:=Option.map_eq_some_iff.1 aJ3
 simp only[Prod.mk.injEq]at y
 obtain⟨Y,hs,t⟩:=y
 have b:=d.2.2.2
 have q: ∀(r:Value) (w':World),w'.ownsRow base 5 1 r (n+m) (l.map (Value.int .u8)++e.map (Value.int .u8))→w.grownBy w' (Value.slice A n c).ownBlock→
  ∃p o,r= .slice p (n+m) o∧Own w' base p (n+m) o (l++e)∧Below base w w':=by
  intro r w' f v
  have a:=below_grown v d.2.2.1 (fun k hk=>(d.lt k hk).1)
  have G:(l++e).length=n+m:=by rw[yA,d.2.1,R]
  rw[←List.map_append]at f
  rcases f.2 with⟨rfl,h0⟩|⟨g,E,H,rfl,_⟩
  ·rw[h0]at f G⊢
   exact⟨none,0,rfl,⟨d.1.app C.1,G,Nat.le_trans d.2.2.1 a.size,f⟩,a⟩
  ·exact⟨_,_,rfl,⟨d.1.app C.1,G,Nat.le_trans d.2.2.1 a.size,f⟩,a⟩
 have s:(e.map (Value.int .u8)).length=m*1:=by simp[R]
 by_cases h0:0<e.length
 ·obtain⟨I,rfl,z⟩:=C.source w (yB _ _) h0
  obtain⟨r,w',M,f,v,_⟩:=run_append_own (P:=Tryz.prog) w base 26 N 5 i (.int .u8 0) 1 1 Tryz.underlying26 B Y hs t rfl (by decide) _ n _ b I m J (e.map (Value.int .u8)) s
   (fun j u hu=>by
     rw[List.getElem?_map]at hu
     obtain⟨x,hx,rfl⟩:=Option.map_eq_some_iff.1 hu
     exact z j x hx) (ones e) (by unfold maxLen;omega) (by omega) d.2.2.1
  obtain⟨p,o,rfl,D,F⟩:=q r w' f v
  exact⟨p,o,w',M,D,F⟩
 ·obtain rfl:e=[]:=List.eq_nil_of_length_eq_zero (by omega)
  obtain rfl:m=0:=by simpa using R.symm
  cases X with
  |some I=>
   obtain⟨r,w',M,f,v,_⟩:=run_append_own (P:=Tryz.prog) w base 26 N 5 i (.int .u8 0) 1 1 Tryz.underlying26 B Y hs t rfl (by decide) _ n _ b I 0 J [] rfl
    (fun j u hu=>by simp at hu) (fun u hu=>by cases hu) (by unfold maxLen;omega) (by omega) d.2.2.1
   obtain⟨p,o,rfl,D,F⟩:=q r w' f v
   exact⟨p,o,w',M,D,F⟩
  |none=>
   refine⟨A,c,w,?_,?_,yB _ _⟩
   ·rcases b.2 with⟨V,aa⟩|⟨g,E,H,V,_,_,L,_⟩
    ·injection V with e1 e2 e3
     subst e1;subst e2;subst e3
     simp[Builtin.append_,run_underlying Tryz.underlying26,sizeOf,typeInfo,B,Builtin.lenOf,Builtin.firstCells]
    ·injection V with e1 e2 e3
     subst e1;subst e3
     simp[Builtin.append_,run_underlying Tryz.underlying26,sizeOf,typeInfo,B,Builtin.lenOf,Builtin.firstCells,L,storeCells]
   ·rw[Nat.add_zero,List.append_nil];exact d
theorem aBJ {w:World}{o:Oper}{a:Act}{K:Act→World→Prop}{Q:Exit→Act→World→Prop}(s x:Operand)
 (f:o.op= .call {callee:= .builtin .append,args:= #[s,x],argTypes:= #[26,26]})
 (base:Nat)(A:Option Addr)(n c:Nat)(l:List Int)(hs:a.eval s= .slice A n c)(k:Own w base A n c l)(g:Option Addr)(m j:Nat)(d:List Int)(t:a.eval x= .slice g m j)(r:Bytes w g d)(u:d.length=m)(i:n+m≤70368744177664)
 (h: ∀e b w',Own w' base e (n+m) b (l++d)→Below base w w'→K (a.put o.dst (.slice e (n+m) b)) w'):o.wp Tryz.prog a w K Q:=by
 obtain⟨e,b,w',q,v,p⟩:=aDx w o.type base A n c l k g m j d r u i
 unfold Oper.wp execOp
 simp only[f,resolve,invoke,builtin,Sem.run_bind,Sem.run_pure,Result.andThen_ok,List.map_toArray,List.map_cons,List.map_nil,hs,t,q]
 exact h e b w' v p
theorem aAd {w:World}{b:Array Oper}{rest:List Oper}{o:Oper}{a:Act}{Q:Exit→Act→World→Prop}(e:o.guard=none)(s x:Operand)
 (f:o.op= .call {callee:= .builtin .append,args:= #[s,x],argTypes:= #[26,26]})
 (base:Nat)(A:Option Addr)(n c:Nat)(l:List Int)(hs:a.eval s= .slice A n c)(k:Own w base A n c l)(g:Option Addr)(m j:Nat)(d:List Int)(q:a.eval x= .slice g m j)(p:Bytes w g d)(r:d.length=m)(i:n+m≤70368744177664)
 (h: ∀A' c' w',Own w' base A' (n+m) c' (l++d)→Below base w w'→wpList Tryz.prog b Q rest (a.put o.dst (.slice A' (n+m) c')) w'):wpList Tryz.prog b Q (o::rest) a w:=
 wpList_plain e fun _ hK=>aBJ s x f base A n c l hs k g m j d q p r i fun A' c' w' h1 h2=>hK _ _ (h A' c' w' h1 h2)
theorem aAg {w:World}{b:Array Oper}{o:Oper}{a:Act}{K:Act→World→Prop}{Q:Exit→Act→World→Prop}{E:Prop}(e:o.guard=none)(s x:Operand)
 (f:o.op= .call {callee:= .builtin .append,args:= #[s,x],argTypes:= #[26,26]})
 (base:Nat)(A:Option Addr)(n c:Nat)(l:List Int)(hs:a.eval s= .slice A n c)(p:Own w base A n c l)(g:Option Addr)(m j:Nat)(d:List Int)(r:a.eval x= .slice g m j)(q:Bytes w g d)(t:d.length=m)(i:n+m≤70368744177664)
 (h: ∀A' c' w',Own w' base A' (n+m) c' (l++d)→Below base w w'→K (a.put o.dst (.slice A' (n+m) c')) w'):
 if Region.wanted o (yielded b a.tmps)=true then Oper.wp Tryz.prog o a w K Q else E:=by
 have k:Region.wanted o (yielded b a.tmps)=true:=by simp[Region.wanted,e]
 rw[if_pos k]
 exact aBJ s x f base A n c l hs p g m j d r q t i h
end Own8
end Go.Proofs.YteaikbodkgjkdaaGreat
