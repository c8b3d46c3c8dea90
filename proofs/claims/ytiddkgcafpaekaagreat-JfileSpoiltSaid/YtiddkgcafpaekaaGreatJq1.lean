/-
  Texts beneath the proof.
-/
import Derived.Test.YtiddkgcafpaekaaGreatRows
import Derived.WalkKit
import Derived.ProofKit
import Derived.OpenShut
import Derived.Lib.Hide
import Derived.Deep.OwnRows
import Derived.Laws.CopyOwn
import Derived.BigQuiet
import Derived.OrdersHeld
set_option linter.unusedVariables false
set_option linter.unusedSimpArgs false
set_option maxRecDepth 100000
open Go.ChangeShapes Go.WideShapes Go.ChangeAt Go.RowKit
namespace Go.Proofs.YtiddkgcafpaekaaGreat
theorem yH {p:Prop}(h:p):Go.RowKit.Hid p:=h
theorem yR (n:Nat):n≤n:=Nat.le_refl n
theorem yL {n m k:Nat}(h:n<m)(g:m≤k):n<k:=Nat.lt_of_lt_of_le h g
theorem tk {P:Program}{ops:Array Oper}{Q:Exit→Act→World→Prop}{md:Region.Mode}{S:World→Prop}{i:Nat}{oi:Oper}{v:Value}{fuel:Nat}{listed:Array Bool}{a:Act}{w:World}(hi:ops[i]? =some oi)(hy:YieldsIf P ops S oi v a)(h:wpAnyH P md ops Q S fuel (listed.setIfInBounds i true) (a.put oi.dst v) w)(hb:(Region.noSelect ops&&Region.free md ops listed i&&(Region.ready md ops listed).contains i)=true:=by kernel_rfl)(hQ: ∀c a w,Q (.panic c) (a.put oi.dst v) w→Q (.panic c) a w:=by exact fun _ _ _ h=>h)(hS:S w:=by assumption):wpAnyH P md ops Q S (fuel+1) listed a w:=by
 simp only[Bool.and_eq_true]at hb
 exact wpAnyH_take hi hb.1.1 hb.1.2 hb.2 hQ hy hS h
theorem sA {α:Type _}(l:List α)(i:Nat)(a:α):l.toArray.setIfInBounds i a=(l.set i a).toArray:=List.setIfInBounds_toArray ..
theorem sZ {α:Type _}(a b:α)(l:List α):(a::l).set 0 b=b::l:=rfl
theorem sS {α:Type _}(a b:α)(l:List α)(n:Nat):(a::l).set (n+1) b=a::l.set n b:=rfl
namespace Bytes8
theorem ret_int {k:IntKind}{a b:Int}(h:a=b):Ending.returned (.int k a)= .returned (.int k b):=by rw[h]
theorem ret_bool {a b:Bool}(h:a=b):Ending.returned (.bool a)= .returned (.bool b):=by rw[h]
theorem ret_int_bool {k:IntKind}{a b:Int}{c:Bool}(h:a=b):Ending.returned (.tuple #[.int k a,.bool c])= .returned (.tuple #[.int k b,.bool c]):=by rw[h]
def AllB (l:List Int):Prop:= ∀n∈l,0≤n∧n<256
theorem AllB.sub {l m:List Int}(h:AllB l)(hs: ∀x∈m,x∈l):AllB m:=fun n hn=>h n (hs n hn)
theorem AllB.take {l:List Int}(h:AllB l)(k:Nat):AllB (l.take k):=h.sub fun _ hx=>List.mem_of_mem_take hx
theorem AllB.drop {l:List Int}(h:AllB l)(k:Nat):AllB (l.drop k):=h.sub fun _ hx=>List.mem_of_mem_drop hx
theorem AllB.app {l m:List Int}(h:AllB l)(k:AllB m):AllB (l++m):=fun n hn=>by
 rcases List.mem_append.1 hn with h1|h1
 ·exact h n h1
 ·exact k n h1
theorem AllB.at_ {l:List Int}(h:AllB l)(i:Nat):0≤l.getD i 0∧l.getD i 0<256:=by
 by_cases hi:i<l.length
 ·have:=h l[i] (List.getElem_mem hi)
  simpa [List.getElem?_eq_getElem hi]using this
 ·simp[List.getElem?_eq_none (by omega:l.length≤i)]
theorem AllB.zeros (n:Nat):AllB (List.replicate n 0):=fun x hx=>by
 have:=(List.mem_replicate.1 hx).2;subst this;decide
theorem AllB.set {l:List Int}(h:AllB l)(i:Nat){c:Int}(h0:0≤c)(h1:c<256):AllB (l.set i c):=fun n hn=>by
 rcases List.mem_or_eq_of_mem_set hn with h2|h2
 ·exact h n h2
 ·subst h2;exact⟨h0,h1⟩
def Bytes (w:World)(a:Option Addr)(l:List Int):Prop:=
 AllB l∧ ∀i,i<l.length→ ∃b off,a=some ⟨b,off,none⟩∧b<w.heap.size∧w.cell? ⟨b,off+i,none⟩=some (.int .u8 (l.getD i 0))
theorem Bytes.spot {w:World}{a:Option Addr}{l:List Int}(h:Bytes w a l)(hl:0<l.length):
 ∃b off,a=some ⟨b,off,none⟩∧b<w.heap.size∧ ∀i,i<l.length→w.cell? ⟨b,off+i,none⟩=some (.int .u8 (l.getD i 0)):=by
 obtain⟨b,off,e,hb,_⟩:=h.2 0 hl
 refine⟨b,off,e,hb,fun i hi=>?_⟩
 obtain⟨b',off',e',_,h2⟩:=h.2 i hi
 rw[e]at e';simp at e';obtain⟨rfl,rfl⟩:=e';exact h2
theorem Bytes.nil (w:World)(a:Option Addr):Bytes w a []:=⟨(fun _ h=>by cases h),(fun i hi=>absurd hi (by simp))⟩
theorem Bytes.below {w w':World}{B:Nat}{a:Option Addr}{l:List Int}(h:Bytes w a l)(hb:Below B w w')(hB:w.heap.size≤B):Bytes w' a l:=by
 refine⟨h.1,fun i hi=>?_⟩
 obtain⟨b,off,e,h1,h2⟩:=h.2 i hi
 exact⟨b,off,e,yL h1 hb.size,(hb.cell (p:=⟨b,off+i,none⟩) (yL h1 hB)).trans h2⟩
theorem add_none (b off j:Nat):(⟨b,off,none⟩:Addr).add j=⟨b,off+j,none⟩:=by
 unfold Addr.add
 split<;>simp_all
theorem Bytes.source {w:World}{a:Option Addr}{l:List Int}(h:Bytes w a l)(w2:World)(hb2:Below w.heap.size w w2)(hpos:0<l.length):
 ∃ad,a=some ad∧ ∀(j:Nat) (x:Int),l[j]? =some x→w2.cell? (ad.add j)=some (.int .u8 x):=by
 obtain⟨b,off,rfl,hlt,hc⟩:=h.spot hpos
 refine⟨_,rfl,fun j x hx=>?_⟩
 have hlj:j<l.length:=by
  rcases Nat.lt_or_ge j l.length with h|h
  ·exact h
  ·rw[List.getElem?_eq_none h]at hx;cases hx
 rw[add_none,hb2.cell (p:=⟨b,off+j,none⟩) hlt,hc j hlj]
 simp[hx]
def Row (w:World)(g:Nat)(l:List Int):Prop:=w.heap[g]? =some (.cells (l.map (Value.int .u8)).toArray 5 (0,0))
theorem Row.lt {w:World}{g:Nat}{l:List Int}(h:Row w g l):g<w.heap.size:=by
 rcases Nat.lt_or_ge g w.heap.size with hlt|hge
 ·exact hlt
 ·unfold Row at h;rw[Array.getElem?_eq_none hge]at h;cases h
theorem Row.cell {w:World}{g:Nat}{l:List Int}(h:Row w g l){i:Nat}(hi:i<l.length):w.cell? ⟨g,i,none⟩=some (.int .u8 (l.getD i 0)):=by
 unfold Row at h
 simp[World.cell?,h,List.getElem?_eq_getElem hi]
theorem Row.bytes {w:World}{g:Nat}{l:List Int}(h:Row w g l)(hA:AllB l):Bytes w (some ⟨g,0,none⟩) l:=
 ⟨hA,fun i hi=>⟨g,0,rfl,h.lt,by rw[Nat.zero_add];exact h.cell hi⟩⟩
theorem Row.new (w:World)(l:List Int):Row (w.alloc (.cells (l.map (Value.int .u8)).toArray 5)) w.heap.size l:=heap_alloc_new w _
theorem info8:(Tryz.prog.info? 5).map (fun i=>(i.zero,i.size,i.bytes))=some (some (.int .u8 0),1,1):=by kernel_rfl
theorem Bytes.string {w:World}{a:Option Addr}{l:List Int}(h:Bytes w a l)(cap n:Nat)(hn:l.length=n):
 (convert 24 9 (.slice a n cap)).run Tryz.prog w= .ok (.string (strOfNums l)) w:=by
 subst hn
 by_cases h0:0<l.length
 ·obtain⟨b,off,rfl,_,hc⟩:=h.spot h0
  exact run_convert_bytes_arg w 24 5 Tryz.underlying24 Tryz.underlying5 b off l.length cap l rfl hc 9 Tryz.underlying9
 ·obtain rfl:l=[]:=List.eq_nil_of_length_eq_zero (by omega)
  cases a with
  |none=>exact run_convert_bytes_nil w 24 5 Tryz.underlying24 Tryz.underlying5 0 cap 9 Tryz.underlying9
  |some ad=>
   have hl:=run_loadCells_list (P:=Tryz.prog) w ad [] (fun j v hj=>by simp at hj)
   rw[run_convert_bytes_string w 24 9 5 (some ad) ([]:List Int).length cap Tryz.underlying24 Tryz.underlying5 Tryz.underlying9]
   exact run_bytesToString w ad ([]:List Int).length cap [] hl
theorem Bytes.drew {w:World}{a:Option Addr}{l:List Int}(h:Bytes w a l):Bytes w.drew a l:=h
theorem Bytes.drewN {w:World}{a:Option Addr}{l:List Int}(h:Bytes w a l)(k:Nat):Bytes (w.drewN k) a l:=h
theorem Bytes.part {w:World}{a:Option Addr}{l:List Int}(h:Bytes w a l)(o n:Nat)(a':Option Addr)(ha: ∀b off,a=some ⟨b,off,none⟩→0<n→o<l.length→a'=some ⟨b,off+o,none⟩):Bytes w a' ((l.drop o).take n):=by
 refine⟨(h.1.drop o).take n,fun i hi=>?_⟩
 have hi':i<n∧o+i<l.length:=by simp at hi;omega
 obtain⟨b,off,e,hlt,hc⟩:=h.2 (o+i) hi'.2
 refine⟨b,off+o,ha b off e (by omega) (by omega),hlt,?_⟩
 rw[Nat.add_assoc,hc]
 simp[hi'.1]
end Bytes8
namespace Ja
def goodR (C S:Nat→Int):Nat→List Nat×Int
 |0=>([],0)
 |k+1=>if C k=0∧(goodR C S k).2<S k then((goodR C S k).1++ [k],S k)else goodR C S k
theorem goodR_yes {C S:Nat→Int}{k:Nat}(h:C k=0∧(goodR C S k).2<S k):goodR C S (k+1)=((goodR C S k).1++ [k],S k):=if_pos h
theorem goodR_no {C S:Nat→Int}{k:Nat}(h: ¬(C k=0∧(goodR C S k).2<S k)):goodR C S (k+1)=goodR C S k:=if_neg h
theorem goodR_spec (C S:Nat→Int): ∀k,(∀x∈(goodR C S k).1,x<k∧C x=0∧0<S x∧S x≤(goodR C S k).2)∧(goodR C S k).1.length≤k∧0≤(goodR C S k).2∧(goodR C S k).1.Pairwise (fun a b=>S a<S b)
 |0=>⟨fun x hx=>absurd hx List.not_mem_nil,yR _,Int.le_refl _,List.Pairwise.nil⟩
 |k+1=>by
  obtain⟨h1,h2,h3,h4⟩:=goodR_spec C S k
  by_cases h:C k=0∧(goodR C S k).2<S k
  ·rw[goodR_yes h]
   refine⟨fun x hx=>?_,?_,?_,?_⟩
   ·rcases List.mem_append.1 hx with hx|hx
    ·have:=h1 x hx
     exact⟨by omega,this.2.1,this.2.2.1,by show S x≤S k;omega⟩
    ·have e:x=k:=by simpa using hx
     subst e
     exact⟨by omega,h.1,by omega,Int.le_refl _⟩
   ·rw[List.length_append,List.length_singleton];omega
   ·show 0≤S k;omega
   ·rw[List.pairwise_append]
    refine⟨h4,List.pairwise_singleton _ _,fun a ha b hb=>?_⟩
    have e:b=k:=by simpa using hb
    subst e
    have:=h1 a ha
    omega
  ·rw[goodR_no h]
   exact⟨fun x hx=>by have:=h1 x hx;exact⟨by omega,this.2⟩,by omega,h3,h4⟩
theorem goodR_filter {C S:Nat→Int}{b:Int}(hb:0≤b): ∀n,(∀k,k<n→C k=0→S k=b+k+1)→(goodR C S n).1=(List.range n).filter (fun k=>decide (C k=0))∧(goodR C S n).2≤b+n
 |0,_=>⟨rfl,by show(0:Int)≤_;omega⟩
 |n+1,h=>by
  obtain⟨h1,h2⟩:=goodR_filter hb n fun k hk=>h k (by omega)
  rw[List.range_succ,List.filter_append]
  by_cases h0:C n=0
  ·have e:=h n (by omega) h0
   rw[goodR_yes ⟨h0,by omega⟩,h1]
   exact⟨by simp[h0],by show S n≤_;omega⟩
  ·rw[goodR_no fun h=>h0 h.1,h1]
   exact⟨by simp[h0],by omega⟩
end Ja
namespace LeAl
def alignUp (v:Int):Int:=(v+7)/8*8
end LeAl
namespace LeNum
def leNum:List Int→Int
 | []=>0
 |b::r=>b+256*leNum r
open Bytes8
theorem leNum_snoc (l:List Int)(b:Int):leNum (l++ [b])=leNum l+b*256^l.length:=by
 induction l with
 |nil=>simp[leNum]
 |cons a r ih=>
  simp only[List.cons_append,leNum,ih,List.length_cons,Int.pow_succ]
  rw[Int.mul_add,←Int.add_assoc]
  congr 1
  rw[Int.mul_comm (256^r.length) 256,←Int.mul_assoc,←Int.mul_assoc,Int.mul_comm 256 b]
theorem leNum_bound (l:List Int)(h:AllB l):0≤leNum l∧leNum l<256^l.length:=by
 induction l with
 |nil=>simp[leNum]
 |cons a r ih=>
  have h1:=ih (fun n hn=>h n (List.mem_cons_of_mem _ hn))
  have h2:=h a (List.mem_cons_self ..)
  simp only[leNum,List.length_cons,Int.pow_succ]
  omega
theorem pow_le64 (k:Nat)(h:k≤8):(256:Int)^k≤18446744073709551616∧1≤(256:Int)^k:=by
 match k,h with
 |0,_|1,_|2,_|3,_|4,_|5,_|6,_|7,_|8,_=>decide
theorem bits_or_u64_nat (a b:Nat)(ha:a<18446744073709551616)(hb:b<18446744073709551616):
 bits .or .u64 (a:Int) (b:Int)=((a|||b:Nat):Int):=by
 have hx:a|||b<2^64:=Nat.or_lt_two_pow (by omega) (by omega)
 have h1:(BitVec.ofInt 64 (a:Int)).toNat=a:=by
  rw[BitVec.ofInt_natCast,BitVec.toNat_ofNat];exact Nat.mod_eq_of_lt (by omega)
 have h2:(BitVec.ofInt 64 (b:Int)).toNat=b:=by
  rw[BitVec.ofInt_natCast,BitVec.toNat_ofNat];exact Nat.mod_eq_of_lt (by omega)
 show IntKind.u64.wrap ((BitVec.ofInt 64 (a:Int)|||BitVec.ofInt 64 (b:Int)).toNat:Int)=_
 rw[BitVec.toNat_or,h1,h2,IntKind.wrap_u64]
 omega
theorem two_pow_8 (k:Nat):(2:Int)^(8*k)=256^k:=by rw[Int.pow_mul];rfl
theorem or_step (v c:Int)(k:Nat)(hk:k<8)(hv:0≤v)(hv2:v<256^k)(hc:0≤c)(hc2:c<256):
 bits .or .u64 v (IntKind.u64.wrap (IntKind.u64.wrap c*2^(8*k)))=v+c*256^k:=by
 obtain⟨v',rfl⟩:=Int.eq_ofNat_of_zero_le hv
 obtain⟨c',rfl⟩:=Int.eq_ofNat_of_zero_le hc
 have e1:IntKind.u64.wrap (c':Int)=(c':Int):=by rw[IntKind.wrap_u64];omega
 have hp:(256:Nat)^(k+1)≤18446744073709551616:=by
  have:=Nat.pow_le_pow_right (n:=256) (by decide) (show k+1≤8 by omega)
  omega
 have hm:c'*256^k<18446744073709551616:=by
  have:c'*256^k≤255*256^k:=Nat.mul_le_mul_right _ (by omega)
  rw[Nat.pow_succ]at hp
  have:=Nat.pow_pos (n:=k) (show 0<256 by decide)
  omega
 have e2:IntKind.u64.wrap ((c':Int)*2^(8*k))=((c'*256^k:Nat):Int):=by
  rw[two_pow_8,IntKind.wrap_u64]
  have:((c':Int)*256^k)=((c'*256^k:Nat):Int):=by simp
  rw[this];omega
 have hv3:v'<256^k:=by
  have:((256^k:Nat):Int)=256^k:=by simp
  omega
 have hv4:v'<18446744073709551616:=by rw[Nat.pow_succ]at hp;omega
 rw[e1,e2,bits_or_u64_nat _ _ hv4 hm]
 have e3:v'|||c'*256^k=v'+c'*256^k:=by
  have h256:(256:Nat)^k=2^(8*k):=by rw[Nat.pow_mul]
  rw[h256]at hv3⊢
  rw[Nat.or_comm,Nat.mul_comm,←Nat.two_pow_add_eq_or_of_lt hv3,Nat.add_comm]
 rw[e3]
 simp
theorem take_snoc (l:List Int)(k:Nat)(h:k<l.length):l.take (k+1)=l.take k++ [l.getD k 0]:=by
 rw[List.take_succ_eq_append_getElem h]
 simp[List.getD_eq_getElem?_getD,List.getElem?_eq_getElem h]
theorem get_step (l:List Int)(at1 k:Nat)(hk:k<8)(h:at1+k<l.length)(hB:AllB l):
 bits .or .u64 (leNum ((l.drop at1).take k)) (IntKind.u64.wrap (IntKind.u64.wrap (l[at1+k]?.getD 0)*2^(8*k)))=leNum ((l.drop at1).take (k+1)):=by
 have hlen:((l.drop at1).take k).length=k:=by simp;omega
 have hb:=leNum_bound ((l.drop at1).take k) (hB.sub fun x hx=>List.mem_of_mem_drop (List.mem_of_mem_take hx))
 rw[hlen]at hb
 have hm:l[at1+k]?.getD 0=l[at1+k]:=by simp[List.getElem?_eq_getElem h]
 have hc:=hB (l[at1+k]) (List.getElem_mem h)
 rw[hm,or_step _ _ k hk hb.1 hb.2 hc.1 hc.2,take_snoc _ _ (by simp;omega),leNum_snoc,hlen]
 congr 2
 simp[List.getElem?_drop,List.getElem?_eq_getElem h]
def lowB (v:Int)(k:Nat):List Int:=(List.range k).map fun i=>v/256^i%256
theorem lowB_len (v:Int)(k:Nat):(lowB v k).length=k:=by simp[lowB]
theorem lowB_succ (v:Int)(k:Nat):lowB v (k+1)=lowB v k++ [v/256^k%256]:=by simp[lowB,List.range_succ]
theorem lowB_all (v:Int)(k:Nat):AllB (lowB v k):=by
 intro x hx
 obtain⟨i,_,rfl⟩:=List.mem_map.1 hx
 omega
theorem mod_mul_step (v p:Int)(hp:0<p):v%p+v/p%256*p=v%(p*256):=by
 have h1:=Int.mul_ediv_add_emod v p
 have h2:=Int.mul_ediv_add_emod (v/p) 256
 have h3:=Int.emod_nonneg v (b:=p) (by omega)
 have h4:=Int.emod_lt_of_pos v hp
 have h5:=Int.emod_nonneg (v/p) (b:=256) (by decide)
 have h6:=Int.emod_lt_of_pos (v/p) (b:=256) (by decide)
 have key:(v%p+v/p%256*p)+p*256*(v/p/256)=v:=by
  have e:v/p%256*p+p*256*(v/p/256)=p*(v/p):=by
   rw[Int.mul_assoc,Int.mul_comm (v/p%256) p,←Int.mul_add,Int.add_comm,h2]
  rw[Int.add_assoc,e,Int.add_comm]
  exact h1
 have b0:0≤v/p%256*p:=Int.mul_nonneg h5 (by omega)
 have b1:v/p%256*p≤255*p:=Int.mul_le_mul_of_nonneg_right (by omega) (by omega)
 exact(((Int.ediv_emod_unique (show 0<p*256 by omega)).2 ⟨key,by omega,by omega⟩).2).symm
theorem leNum_lowB (v:Int)(k:Nat):leNum (lowB v k)=v%256^k:=by
 induction k with
 |zero=>simp[lowB,leNum]
 |succ k ih=>
  rw[lowB_succ,leNum_snoc,ih,lowB_len,Int.pow_succ]
  exact mod_mul_step v (256^k) (Int.pow_pos (by decide))
theorem bits_and_u64_nat (a b:Nat)(ha:a<18446744073709551616)(hb:b<18446744073709551616):
 bits .and .u64 (a:Int) (b:Int)=((a&&&b:Nat):Int):=by
 have hx:a&&&b≤a:=Nat.and_le_left
 have h1:(BitVec.ofInt 64 (a:Int)).toNat=a:=by
  rw[BitVec.ofInt_natCast,BitVec.toNat_ofNat];exact Nat.mod_eq_of_lt (by omega)
 have h2:(BitVec.ofInt 64 (b:Int)).toNat=b:=by
  rw[BitVec.ofInt_natCast,BitVec.toNat_ofNat];exact Nat.mod_eq_of_lt (by omega)
 show IntKind.u64.wrap ((BitVec.ofInt 64 (a:Int)&&&BitVec.ofInt 64 (b:Int)).toNat:Int)=_
 rw[BitVec.toNat_and,h1,h2,IntKind.wrap_u64]
 omega
theorem mask_low (v:Int)(n:Nat)(hn:n≤7)(h0:0≤v)(h1:v≤18446744073709551615):
 bits BinOp.and IntKind.u64 v (IntKind.u64.wrap (IntKind.u64.wrap (2^(8*n))-1))=v%256^n:=by
 obtain⟨v',rfl⟩:=Int.eq_ofNat_of_zero_le h0
 have hp:2^(8*n)≤72057594037927936:=Nat.pow_le_pow_right (n:=2) (by decide) (show 8*n≤56 by omega)
 have hpos:0<2^(8*n):=Nat.pow_pos (by decide)
 have e0:((2:Int)^(8*n))=((2^(8*n):Nat):Int):=by simp
 have e1:IntKind.u64.wrap (IntKind.u64.wrap (2^(8*n))-1)=((2^(8*n)-1:Nat):Int):=by
  rw[e0,IntKind.wrap_u64,IntKind.wrap_u64];omega
 rw[e1,bits_and_u64_nat v' _ (by omega) (by omega),Nat.and_two_pow_sub_one_eq_mod,←two_pow_8,e0]
 simp
def over (l:List Int)(o:Nat)(m:List Int):List Int:=l.take o++m++l.drop (o+m.length)
theorem over_nil (l:List Int)(o:Nat):over l o []=l:=by simp[over]
theorem over_len (l:List Int)(o:Nat)(m:List Int)(h:o+m.length≤l.length):(over l o m).length=l.length:=by simp[over];omega
theorem over_step (l:List Int)(o:Nat)(m:List Int)(x:Int)(h:o+m.length<l.length):(over l o m).set (o+m.length) x=over l o (m++ [x]):=by
 have e:l.drop (o+m.length)=l[o+m.length]::l.drop (o+m.length+1):=List.drop_eq_getElem_cons h
 unfold over
 rw[List.set_append_right _ _ (by simp;omega),e]
 have:o+m.length-(l.take o++m).length=0:=by simp;omega
 rw[this]
 simp[Nat.add_assoc]
end LeNum
namespace Numb
def numBelow (n b:Int):Int:=(n.tmod b+b)%b
theorem numBelow_lo (n b:Int)(hb:1≤b):0≤numBelow n b:=Int.emod_nonneg _ (by omega)
theorem numBelow_hi (n b:Int)(hb:1≤b):numBelow n b<b:=Int.emod_lt_of_pos _ (by omega)
theorem tmod_lo (n b:Int)(hb:1≤b): -b<n.tmod b∧n.tmod b<b:=by
 have h1:=Int.tmod_lt_of_pos n (b:=b) (by omega)
 have h2:=Int.lt_tmod_of_pos n (b:=b) (by omega)
 omega
theorem number_any (n b:Int)(w:World)(hb:1≤b)(hb2:b≤4611686018427387903):
 Calls Tryz.prog 20 #[.int .i64 n,.int .i64 b] w fun e w'=>e= .returned (.int .i64 (numBelow n b))∧w=w':=by
 have t:=tmod_lo n b hb
 obtain⟨t1,t2⟩:=t
 go_enter Tryz.func20,Tryz.ntmps20
 go_wp2
 go_ret
 exact⟨rfl,rfl⟩
theorem number_nat (n b:Int)(j:Nat)(w:World)(hb:1≤b)(hb2:b≤4611686018427387903)(hj:numBelow n b=j):
 Calls Tryz.prog 20 #[.int .i64 n,.int .i64 b] w fun e w'=>e= .returned (.int .i64 (j:Int))∧w=w':=by
 rw[←hj];exact number_any n b w hb hb2
theorem below_nat (n b:Int)(hb:1≤b): ∃j:Nat,Hid (numBelow n b=j)∧(j:Int)<b:=by
 have h1:=numBelow_lo n b hb
 have h2:=numBelow_hi n b hb
 exact⟨(numBelow n b).toNat,by unfold Hid;omega,by omega⟩
end Numb
namespace Hm
open Bytes8 LeNum
def rot32 (x k:Int):Int:=bits .or .u32 (x*2^k.toNat%4294967296) (x/2^(32-k).toNat)
def add32 (a b:Int):Int:=(a+b)%4294967296
def stir (a b k:Int):Int:=bits .xor .u32 ((a-b)%4294967296) (rot32 b k)
def setl (a b k:Int):Int:=(bits .xor .u32 a b-rot32 b k)%4294967296
structure Trio where
 x:Int
 y:Int
 z:Int
def Trio.ok (t:Trio):Prop:=(0≤t.x∧t.x≤4294967295)∧(0≤t.y∧t.y≤4294967295)∧(0≤t.z∧t.z≤4294967295)
def mix1 (t:Trio):Trio:=⟨stir t.x t.z 4,t.y,add32 t.z t.y⟩
def mix2 (t:Trio):Trio:=⟨add32 t.x t.z,stir t.y t.x 6,t.z⟩
def mix3 (t:Trio):Trio:=⟨t.x,add32 t.y t.x,stir t.z t.y 8⟩
def mix4 (t:Trio):Trio:=⟨stir t.x t.z 16,t.y,add32 t.z t.y⟩
def mix5 (t:Trio):Trio:=⟨add32 t.x t.z,stir t.y t.x 19,t.z⟩
def mix6 (t:Trio):Trio:=⟨t.x,add32 t.y t.x,stir t.z t.y 4⟩
def mix (t:Trio):Trio:=mix6 (mix5 (mix4 (mix3 (mix2 (mix1 t)))))
def fin (t:Trio):Trio:=
 let z:=setl t.z t.y 14
 let x:=setl t.x z 11
 let y:=setl t.y x 25
 let z:=setl z y 16
 let x:=setl x z 4
 let y:=setl y x 14
 let z:=setl z y 24
 ⟨x,y,z⟩
def ans (t:Trio):Int:=bits .or .u64 (t.z*4294967296) t.y
def w4 (l:List Int)(o:Nat):Int:=leNum ((l.drop o).take 4)
def plus3 (t:Trio)(l:List Int)(o:Nat):Trio:=⟨add32 t.x (w4 l o),add32 t.y (w4 l (o+4)),add32 t.z (w4 l (o+8))⟩
def lookInit (l:List Int):Trio:=⟨add32 3735928559 l.length,add32 3735928559 l.length,add32 3735928559 l.length⟩
def trioAt (l:List Int):Nat→Trio
 |0=>lookInit l
 |k+1=>mix (plus3 (trioAt l k) l (12*k))
def lookS (l:List Int):Int:=if l=[]then ans (lookInit l)else ans (fin (plus3 (trioAt l ((l.length-1)/12)) l (12*((l.length-1)/12))))
def rot64 (x k:Int):Int:=bits .or .u64 (x*2^k.toNat%18446744073709551616) (x/2^(64-k).toNat)
def add64 (a b:Int):Int:=(a+b)%18446744073709551616
def xor64 (a b:Int):Int:=bits .xor .u64 a b
structure Quad where
 p:Int
 q:Int
 r:Int
 s:Int
def Quad.ok (f:Quad):Prop:=(0≤f.p∧f.p≤18446744073709551615)∧(0≤f.q∧f.q≤18446744073709551615)∧(0≤f.r∧f.r≤18446744073709551615)∧(0≤f.s∧f.s≤18446744073709551615)
def round (f:Quad):Quad:=
 let p:=add64 f.p f.q
 let q:=xor64 (rot64 f.q 13) p
 let p:=rot64 p 32
 let r:=add64 f.r f.s
 let s:=xor64 (rot64 f.s 16) r
 let p:=add64 p s
 let s:=xor64 (rot64 s 21) p
 let r:=add64 r q
 let q:=xor64 (rot64 q 17) r
 let r:=rot64 r 32
 ⟨p,q,r,s⟩
def rounds (f:Quad):Nat→Quad
 |0=>f
 |k+1=>round (rounds f k)
def quadPlus (f:Quad)(m:Int):Quad:=
 let g:=round (round ⟨f.p,f.q,f.r,xor64 f.s m⟩)
 ⟨xor64 g.p m,g.q,g.r,g.s⟩
def w8 (l:List Int)(o:Nat):Int:=leNum ((l.drop o).take 8)
def keyed (key:List Int):Quad:=⟨xor64 (w8 key 0) 8317987319222330741,xor64 (w8 key 8) 7237128888997146477,xor64 (w8 key 0) 7816392313619706465,xor64 (w8 key 8) 8387220255154660723⟩
def quadAt (key l:List Int):Nat→Quad
 |0=>keyed key
 |k+1=>quadPlus (quadAt key l k) (w8 l (8*k))
def last8 (l:List Int):Int:=bits .or .u64 (w8 l (8*(l.length/8))) ((l.length:Int)%256*72057594037927936)
def sipEnd (f:Quad)(m:Int):Int:=
 let g:=quadPlus f m
 let h:=rounds ⟨g.p,g.q,xor64 g.r 255,g.s⟩ 4
 xor64 (xor64 (xor64 h.p h.q) h.r) h.s
def sipS (key l:List Int):Int:=sipEnd (quadAt key l (l.length/8)) (last8 l)
theorem b32 (op:BinOp)(a b:Int):0≤bits op .u32 a b∧bits op .u32 a b≤4294967295:=by
 have:(Lit.int .u32 (bits op .u32 a b)).wf=true:=wf_bits op .u32 a b
 exact bounds_u32 this
theorem b64 (op:BinOp)(a b:Int):0≤bits op .u64 a b∧bits op .u64 a b≤18446744073709551615:=by
 have:(Lit.int .u64 (bits op .u64 a b)).wf=true:=wf_bits op .u64 a b
 exact bounds_u64 this
theorem wrap64_bd (n:Int):0≤IntKind.u64.wrap n∧IntKind.u64.wrap n≤18446744073709551615:=by rw[IntKind.wrap_u64];omega
theorem stir_bd (a b k:Int):0≤stir a b k∧stir a b k≤4294967295:=b32 _ _ _
theorem setl_bd (a b k:Int):0≤setl a b k∧setl a b k≤4294967295:=by unfold setl;omega
theorem add32_bd (a b:Int):0≤add32 a b∧add32 a b≤4294967295:=by unfold add32;omega
theorem add64_bd (a b:Int):0≤add64 a b∧add64 a b≤18446744073709551615:=by unfold add64;omega
theorem xor64_bd (a b:Int):0≤xor64 a b∧xor64 a b≤18446744073709551615:=b64 _ _ _
theorem rot64_bd (a k:Int):0≤rot64 a k∧rot64 a k≤18446744073709551615:=b64 _ _ _
theorem plus3_ok (t:Trio)(l:List Int)(o:Nat):(plus3 t l o).ok:=⟨add32_bd _ _,add32_bd _ _,add32_bd _ _⟩
theorem lookInit_ok (l:List Int):(lookInit l).ok:=⟨add32_bd _ _,add32_bd _ _,add32_bd _ _⟩
theorem mix_ok (t:Trio):(mix t).ok:=by
 refine⟨?_,?_,?_⟩<;>simp only[mix,mix6,mix5,mix4,mix3,mix2,mix1]
 ·exact add32_bd _ _
 ·exact add32_bd _ _
 ·exact stir_bd _ _ _
theorem fin_ok (t:Trio):(fin t).ok:=⟨setl_bd _ _ _,setl_bd _ _ _,setl_bd _ _ _⟩
theorem trioAt_ok (l:List Int)(k:Nat):(trioAt l k).ok:=by
 cases k with
 |zero=>exact lookInit_ok l
 |succ k=>exact mix_ok _
theorem leNum_zeros (l:List Int)(n:Nat):leNum (l++List.replicate n 0)=leNum l:=by
 induction l with
 |nil=>
  induction n with
  |zero=>rfl
  |succ n ih=>rw[List.replicate_succ];simp[leNum]at ih⊢;omega
 |cons a r ih=>simp[leNum,ih]
theorem w4_bd (l:List Int)(o:Nat)(h:AllB l):0≤w4 l o∧w4 l o≤4294967295:=by
 have h1:=leNum_bound ((l.drop o).take 4) ((h.drop o).take 4)
 have hl:((l.drop o).take 4).length≤4:=List.length_take_le _ _
 unfold w4
 generalize (l.drop o).take 4=m at*
 have:(256:Int)^m.length≤4294967296:=by
  generalize m.length=j at hl
  match j,hl with
  |0,_|1,_|2,_|3,_|4,_=>decide
 omega
theorem round_ok (f:Quad):(round f).ok:=⟨add64_bd _ _,xor64_bd _ _,rot64_bd _ _,xor64_bd _ _⟩
theorem rounds_ok (f:Quad)(h:f.ok)(n:Nat):(rounds f n).ok:=by
 cases n with
 |zero=>exact h
 |succ n=>exact round_ok _
theorem quadPlus_ok (f:Quad)(m:Int):(quadPlus f m).ok:=by
 obtain⟨_,h2,h3,h4⟩:=round_ok (round ⟨f.p,f.q,f.r,xor64 f.s m⟩)
 exact⟨xor64_bd _ _,h2,h3,h4⟩
theorem keyed_ok (key:List Int):(keyed key).ok:=⟨xor64_bd _ _,xor64_bd _ _,xor64_bd _ _,xor64_bd _ _⟩
theorem quadAt_ok (key l:List Int)(k:Nat):(quadAt key l k).ok:=by
 cases k with
 |zero=>exact keyed_ok key
 |succ k=>exact quadPlus_ok _ _
end Hm
namespace RefAl
open Bytes8 LeAl
theorem ralign_yes (v:Int)(w:World)(h0:0≤v)(h:v≤18446744073709551608):
 Calls Tryz.prog 113 #[.int .u64 v] w fun e w'=>e= .returned (.tuple #[.int .u64 (alignUp v),.bool true])∧w=w':=by
 by_cases h8:v%8=0
 ·have HA:=yH (show v=alignUp v by unfold alignUp;omega)
  have hb:(v%8==0)=true:=by simpa using h8
  go_enter Tryz.func113,Tryz.ntmps113
  go_wp2
  go_ret2
  exact⟨ret_int_bool HA.out,rfl⟩
 ·obtain⟨r,hr⟩: ∃r,r=v%8:=⟨_,rfl⟩
  have HA:=yH (show v-v%8+8=alignUp v by unfold alignUp;omega)
  have hb:(v%8==0)=false:=by simpa using h8
  have hb2:(v-v%8==18446744073709551608)=false:=by simp;omega
  have h1:0≤v-v%8:=by omega
  have h2:v-v%8≤18446744073709551600:=by omega
  clear hr
  go_enter Tryz.func113,Tryz.ntmps113
  go_wp2
  go_ret2
  exact⟨ret_int_bool HA.out,rfl⟩
end RefAl
namespace Sm
open Bytes8 LeNum Hm
def left8 (l:List Int):Int:=leNum (l.drop (8*(l.length/8)))
theorem left8_w8 (l:List Int):w8 l (8*(l.length/8))=left8 l:=by
 unfold w8 left8
 rw[List.take_of_length_le (by simp;omega)]
theorem w8_app (l m:List Int)(o:Nat)(h:o+8≤l.length):w8 (l++m) o=w8 l o:=by
 unfold w8
 rw[List.drop_append_of_le_length (by omega),List.take_append_of_le_length (by simp;omega)]
theorem quadAt_app (key l m:List Int)(k:Nat)(h:8*k≤l.length):quadAt key (l++m) k=quadAt key l k:=by
 induction k with
 |zero=>rfl
 |succ k ih=>rw[quadAt,quadAt,ih (by omega),w8_app _ _ _ (by omega)]
theorem left8_bd (l:List Int)(h:AllB l):0≤left8 l∧left8 l<256^(l.length%8):=by
 have h1:=leNum_bound (l.drop (8*(l.length/8))) (h.drop _)
 rw[show(l.drop (8*(l.length/8))).length=l.length%8 by simp;omega]at h1
 exact h1
theorem left8_snoc (l:List Int)(c:Int):leNum ((l++ [c]).drop (8*(l.length/8)))=left8 l+c*256^(l.length%8):=by
 unfold left8
 rw[List.drop_append_of_le_length (by omega),leNum_snoc,show(l.drop (8*(l.length/8))).length=l.length%8 by simp;omega]
theorem more_left (l:List Int)(c:Int)(h:l.length%8<7):(l++ [c]).length/8=l.length/8∧left8 (l++ [c])=left8 l+c*256^(l.length%8):=by
 have e:(l++ [c]).length/8=l.length/8:=by simp;omega
 refine⟨e,?_⟩
 rw[←left8_snoc]
 unfold left8
 rw[e]
theorem more_full (key l:List Int)(c:Int)(h:l.length%8=7):
 quadAt key (l++ [c]) ((l++ [c]).length/8)=quadPlus (quadAt key l (l.length/8)) (left8 l+c*256^(l.length%8))∧left8 (l++ [c])=0:=by
 have e:(l++ [c]).length/8=l.length/8+1:=by simp;omega
 constructor
 ·rw[e,quadAt,quadAt_app _ _ _ _ (by omega),←left8_snoc]
  unfold w8
  rw[List.take_of_length_le (by simp;omega)]
 ·unfold left8
  rw[e,List.drop_of_length_le (by simp;omega)]
  rfl
theorem more_none (key l:List Int)(c:Int)(h:l.length%8<7):quadAt key (l++ [c]) ((l++ [c]).length/8)=quadAt key l (l.length/8):=by
 rw[(more_left l c h).1,quadAt_app _ _ _ _ (by omega)]
theorem or_top (l:List Int)(c:Int)(hA:AllB l)(c0:0≤c)(c1:c<256):bits .or .u64 (left8 l) (IntKind.u64.wrap (IntKind.u64.wrap c*2^(8*(l.length%8))))=left8 l+c*256^(l.length%8):=
 or_step _ _ _ (by omega) (left8_bd l hA).1 (left8_bd l hA).2 c0 c1
theorem last8_left (l:List Int):last8 l=bits .or .u64 (left8 l) ((l.length:Int)%256*72057594037927936):=by
 unfold last8;rw[left8_w8]
end Sm
namespace Own8
open Bytes8
def Own (w:World)(base:Nat)(A:Option Addr)(n c:Nat)(l:List Int):Prop:=
 AllB l∧l.length=n∧base≤w.heap.size∧w.ownsRow base 5 1 (.slice A n c) n (l.map (Value.int .u8))
theorem Own.nil (w:World)(base:Nat)(h:base≤w.heap.size):Own w base none 0 0 []:=⟨(fun _ h=>by cases h),rfl,h,World.ownsRow_nil _ _ _ _⟩
theorem Own.made (w:World)(base:Nat)(h:base≤w.heap.size):Own (w.alloc (.cells #[] 5)) base (some ⟨w.heap.size,0,none⟩) 0 0 []:=
 ⟨(fun _ h=>by cases h),rfl,Nat.le_trans h (by simp),World.ownsRow_lit w #[] 0 h (by decide) rfl⟩
theorem Own.lt {w:World}{base:Nat}{A:Option Addr}{n c:Nat}{l:List Int}(h:Own w base A n c l): ∀k,(Value.slice A n c).ownBlock=some k→base≤k∧k<w.heap.size:=h.2.2.2.lt
theorem Own.bytes {w:World}{base:Nat}{A:Option Addr}{n c:Nat}{l:List Int}(h:Own w base A n c l):Bytes w A l:=by
 obtain⟨hA,hn,_,ho⟩:=h
 refine⟨hA,fun i hi=>?_⟩
 rcases ho.2 with⟨he,h0⟩|⟨g,cap,cur,hv,hb,hg,_⟩
 ·omega
 ·injection hv with h1 h2 h3
  subst h1
  have hlt:g<w.heap.size:=by
   rcases Nat.lt_or_ge g w.heap.size with h|h
   ·exact h
   ·rw[Array.getElem?_eq_none h]at hg;cases hg
  refine⟨g,0,rfl,hlt,?_⟩
  rw[Nat.zero_add,ho.cellAt i (by omega)]
  simp[List.getElem?_eq_getElem hi]
theorem Own.kept {w w':World}{base B:Nat}{A:Option Addr}{n c:Nat}{l:List Int}(h:Own w base A n c l)(hb:Below B w w')(hB:w.heap.size≤B):Own w' base A n c l:=by
 refine⟨h.1,h.2.1,Nat.le_trans h.2.2.1 hb.size,h.2.2.2.1,?_⟩
 rcases h.2.2.2.2 with h1|⟨g,cap,cur,h1,h2,h3,h4⟩
 ·exact .inl h1
 ·refine .inr ⟨g,cap,cur,h1,h2,?_,h4⟩
  have hlt:g<w.heap.size:=by
   rcases Nat.lt_or_ge g w.heap.size with h|h
   ·exact h
   ·rw[Array.getElem?_eq_none h]at h3;cases h3
  rw[hb.block g (by omega)];exact h3
theorem Own.drew {w:World}{base:Nat}{A:Option Addr}{n c:Nat}{l:List Int}(h:Own w base A n c l):Own w.drew base A n c l:=h
theorem Own.far {w:World}{base:Nat}{A:Option Addr}{n c:Nat}{l:List Int}(h:Own w base A n c l){a:Addr}(ha:a.block<base)(u:Value):Own (w.setCell a u) base A n c l:=
 ⟨h.1,h.2.1,by simpa using h.2.2.1,ownsRow_setCell_below h.2.2.2 ha u⟩
theorem Own.alloc {w:World}{base:Nat}{A:Option Addr}{n c:Nat}{l:List Int}(h:Own w base A n c l)(o:Obj):Own (w.alloc o) base A n c l:=h.kept ((Below.refl _ _).alloc (yR _) o) (yR _)
theorem ones (l:List Int): ∀u∈l.map (Value.int .u8),u.oneCell'=true:=by
 intro v hv;obtain⟨x,_,rfl⟩:=List.mem_map.1 hv;rfl
theorem below_grown {w w':World}{base:Nat}{row:Option Nat}(hg:w.grownBy w' row)(hb:base≤w.heap.size)(hr: ∀k,row=some k→base≤k):Below base w w':=
 (Below.refl base w).grown hg hb hr
theorem run_append_bytes (w:World)(ty:TypeId)(base:Nat)(A:Option Addr)(n c:Nat)(l:List Int)(ho:Own w base A n c l)(A2:Option Addr)(m c2:Nat)(ys:List Int)(hb:Bytes w A2 ys)(hm:ys.length=m)(hsz:n+m≤70368744177664):
 ∃A' c' w',(Builtin.append_ #[24,24] ty #[.slice A n c,.slice A2 m c2]).run Tryz.prog w= .ok (.slice A' (n+m) c') w'∧Own w' base A' (n+m) c' (l++ys)∧Below base w w':=by
 obtain⟨i,hi,hzz⟩:=Option.map_eq_some_iff.1 info8
 simp only[Prod.mk.injEq]at hzz
 obtain⟨hz,hs,hby⟩:=hzz
 have hown:=ho.2.2.2
 have done: ∀(v':Value) (w':World),w'.ownsRow base 5 1 v' (n+m) (l.map (Value.int .u8)++ys.map (Value.int .u8))→w.grownBy w' (Value.slice A n c).ownBlock→
  ∃A' c',v'= .slice A' (n+m) c'∧Own w' base A' (n+m) c' (l++ys)∧Below base w w':=by
  intro v' w' h2 h3
  have hbel:=below_grown h3 ho.2.2.1 (fun k hk=>(ho.lt k hk).1)
  have hL:(l++ys).length=n+m:=by rw[List.length_append,ho.2.1,hm]
  rw[←List.map_append]at h2
  rcases h2.2 with⟨rfl,h0⟩|⟨g,cap,cur,rfl,_⟩
  ·rw[h0]at h2 hL⊢
   exact⟨none,0,rfl,⟨ho.1.app hb.1,hL,Nat.le_trans ho.2.2.1 hbel.size,h2⟩,hbel⟩
  ·exact⟨_,_,rfl,⟨ho.1.app hb.1,hL,Nat.le_trans ho.2.2.1 hbel.size,h2⟩,hbel⟩
 have hlen:(ys.map (Value.int .u8)).length=m*1:=by simp[hm]
 by_cases h0:0<ys.length
 ·obtain⟨ad,rfl,hsrc⟩:=hb.source w (Below.refl _ _) h0
  obtain⟨v',w',hr,h2,h3,_⟩:=run_append_own (P:=Tryz.prog) w base 24 ty 5 i (.int .u8 0) 1 1 Tryz.underlying24 hi hz hs hby rfl (by decide) _ n _ hown ad m c2 (ys.map (Value.int .u8)) hlen
   (fun j u hu=>by
     rw[List.getElem?_map]at hu
     obtain⟨x,hx,rfl⟩:=Option.map_eq_some_iff.1 hu
     exact hsrc j x hx) (ones ys) (by unfold maxLen;omega) (by omega) ho.2.2.1
  obtain⟨A',c',rfl,h4,h5⟩:=done v' w' h2 h3
  exact⟨A',c',w',hr,h4,h5⟩
 ·obtain rfl:ys=[]:=List.eq_nil_of_length_eq_zero (by omega)
  obtain rfl:m=0:=by simpa using hm.symm
  cases A2 with
  |some ad=>
   obtain⟨v',w',hr,h2,h3,_⟩:=run_append_own (P:=Tryz.prog) w base 24 ty 5 i (.int .u8 0) 1 1 Tryz.underlying24 hi hz hs hby rfl (by decide) _ n _ hown ad 0 c2 [] rfl
    (fun j u hu=>by simp at hu) (fun u hu=>by cases hu) (by unfold maxLen;omega) (by omega) ho.2.2.1
   obtain⟨A',c',rfl,h4,h5⟩:=done v' w' h2 h3
   exact⟨A',c',w',hr,h4,h5⟩
  |none=>
   refine⟨A,c,w,?_,?_,Below.refl _ _⟩
   ·rcases hown.2 with⟨he,h0'⟩|⟨g,cap,cur,he,_,_,hnc,_⟩
    ·injection he with e1 e2 e3
     subst e1;subst e2;subst e3
     simp[Builtin.append_,run_underlying Tryz.underlying24,sizeOf,typeInfo,hi,Builtin.lenOf,Builtin.firstCells]
    ·injection he with e1 e2 e3
     subst e1;subst e3
     simp[Builtin.append_,run_underlying Tryz.underlying24,sizeOf,typeInfo,hi,Builtin.lenOf,Builtin.firstCells,hnc,storeCells]
   ·rw[Nat.add_zero,List.append_nil];exact ho
theorem wp_append_bytes {w:World}{o:Oper}{a:Act}{K:Act→World→Prop}{Q:Exit→Act→World→Prop}(s x:Operand)
 (hop:o.op= .call {callee:= .builtin .append,args:= #[s,x],argTypes:= #[24,24]})
 (base:Nat)(A:Option Addr)(n c:Nat)(l:List Int)(hs:a.eval s= .slice A n c)(ho:Own w base A n c l)(A2:Option Addr)(m c2:Nat)(ys:List Int)(hx:a.eval x= .slice A2 m c2)(hb:Bytes w A2 ys)(hm:ys.length=m)(hsz:n+m≤70368744177664)
 (h: ∀A' c' w',Own w' base A' (n+m) c' (l++ys)→Below base w w'→K (a.put o.dst (.slice A' (n+m) c')) w'):o.wp Tryz.prog a w K Q:=by
 obtain⟨A',c',w',hr,h1,h2⟩:=run_append_bytes w o.type base A n c l ho A2 m c2 ys hb hm hsz
 unfold Oper.wp execOp
 simp only[hop,resolve,invoke,builtin,Sem.run_bind,Sem.run_pure,Result.andThen_ok,List.map_toArray,List.map_cons,List.map_nil,hs,hx,hr]
 exact h A' c' w' h1 h2
theorem wpList_append_bytes {w:World}{ops:Array Oper}{rest:List Oper}{o:Oper}{a:Act}{Q:Exit→Act→World→Prop}(hgd:o.guard=none)(s x:Operand)
 (hop:o.op= .call {callee:= .builtin .append,args:= #[s,x],argTypes:= #[24,24]})
 (base:Nat)(A:Option Addr)(n c:Nat)(l:List Int)(hs:a.eval s= .slice A n c)(ho:Own w base A n c l)(A2:Option Addr)(m c2:Nat)(ys:List Int)(hx:a.eval x= .slice A2 m c2)(hb:Bytes w A2 ys)(hm:ys.length=m)(hsz:n+m≤70368744177664)
 (h: ∀A' c' w',Own w' base A' (n+m) c' (l++ys)→Below base w w'→wpList Tryz.prog ops Q rest (a.put o.dst (.slice A' (n+m) c')) w'):wpList Tryz.prog ops Q (o::rest) a w:=
 wpList_plain hgd fun _ hK=>wp_append_bytes s x hop base A n c l hs ho A2 m c2 ys hx hb hm hsz fun A' c' w' h1 h2=>hK _ _ (h A' c' w' h1 h2)
theorem step_append_bytes {w:World}{ops:Array Oper}{o:Oper}{a:Act}{K:Act→World→Prop}{Q:Exit→Act→World→Prop}{E:Prop}(hgd:o.guard=none)(s x:Operand)
 (hop:o.op= .call {callee:= .builtin .append,args:= #[s,x],argTypes:= #[24,24]})
 (base:Nat)(A:Option Addr)(n c:Nat)(l:List Int)(hs:a.eval s= .slice A n c)(ho:Own w base A n c l)(A2:Option Addr)(m c2:Nat)(ys:List Int)(hx:a.eval x= .slice A2 m c2)(hb:Bytes w A2 ys)(hm:ys.length=m)(hsz:n+m≤70368744177664)
 (h: ∀A' c' w',Own w' base A' (n+m) c' (l++ys)→Below base w w'→K (a.put o.dst (.slice A' (n+m) c')) w'):
 if Region.wanted o (yielded ops a.tmps)=true then Oper.wp Tryz.prog o a w K Q else E:=by
 have hw:Region.wanted o (yielded ops a.tmps)=true:=by simp[Region.wanted,hgd]
 rw[if_pos hw]
 exact wp_append_bytes s x hop base A n c l hs ho A2 m c2 ys hx hb hm hsz h
end Own8
end Go.Proofs.YtiddkgcafpaekaaGreat
