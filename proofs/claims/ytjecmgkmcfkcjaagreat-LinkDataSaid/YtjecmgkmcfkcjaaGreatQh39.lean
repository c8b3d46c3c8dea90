/-
  Texts beneath the proof.
-/
import Derived.RangeFuncNested
import Derived.OwnWalkIn
import Derived.TacticsInMore
import Derived.LoopNIn
import Derived.Sort.CutIn
import Derived.Test.YtjecmgkmcfkcjaaGreatQh38
set_option linter.unusedVariables false
set_option linter.unusedSimpArgs false
set_option maxRecDepth 100000
namespace Go.Proofs.YtjecmgkmcfkcjaaGreat
namespace Xb
end Xb
namespace We
open Go.ChangeShapes Go.WideShapes Go.ChangeAt Go.RowKit Go.Shelf
variable {F : Fence} {n : Nat} {P : Program}
def Left {α:Type}(B:Nat)(Kp:World→World→Prop)(I:List α→World→Prop)(Ix:Code→List α→World→Prop)(xs:List α)(W:World):Exit→Act→World→Prop
 | .normal,_,W'=>KeepsFrom B W W'∧Kp W W'∧I xs W'
 | .ret,_,W'=>KeepsFrom B W W'∧Ix .ret xs W'
 | .exit id,_,W'=>KeepsFrom B W W'∧Ix (.exit id) xs W'
 | .goto t,_,W'=>KeepsFrom B W W'∧Ix (.goto t) xs W'
 |_,_,_=>False
end We
namespace Xa
open Go.ChangeShapes Go.WideShapes Go.ChangeAt Go.RowKit Go.Shelf
variable {F : Fence} {n : Nat} {P : Program}
end Xa
namespace Wf
open Go.ChangeShapes Go.WideShapes Go.ChangeAt Go.RowKit Go.Shelf
open Bytes8 Blk8 Kf Own8 OwnA OwnE Rows2 Ga Gb Rc
open Yc Ye Yg Yh
attribute [local go_sem] Oper.semAt_some
def rowOf (V:World)(lb:Nat):Option Nat:=match V.cell? ⟨lb,0,none⟩with
 |some (.slice A _ _)=>ownB A
 |_=>none
theorem rowOf_block {V V':World}{lb:Nat}(h:V'.heap[lb]? =V.heap[lb]?):rowOf V' lb=rowOf V lb:=by
 unfold rowOf
 rw[World.cell?_of_block (a:=⟨lb,0,none⟩) h]
structure KpL (B0 lb:Nat)(V V':World):Prop where
 below:Below B0 V V'
 cells: ∀b o,V.heap[b]? =some o→o.isCells=true→b≠lb→rowOf V lb≠some b→V'.heap[b]? =some o
 row: ∀k,rowOf V' lb=some k→rowOf V lb=some k∨(V.heap.size≤k∧k<V'.heap.size)
theorem KpL.trans {B0 lb:Nat}{A B C:World}(h:KpL B0 lb A B)(k:KpL B0 lb B C):KpL B0 lb A C:=
 {below:=h.below.trans k.below
  cells:=fun b o h1 h2 h3 h4=>k.cells b o (h.cells b o h1 h2 h3 h4) h2 h3 fun e=>(h.row b e).elim h4 fun h5=>by have:=(Array.getElem?_eq_some_iff.1 h1).1;omega
  row:=fun x hx=>(k.row x hx).elim (fun h1=>(h.row x h1).imp id fun h2=>⟨h2.1,by have:=k.below.size;omega⟩) fun h1=> .inr ⟨by have:=h.below.size;omega,h1.2⟩}
theorem KpL.put {B0 lb d:Nat}(hlb:lb<d)(hB0:B0≤d)(W:World)(l:Nat)(o o':Obj)(hl:d≤l)(ho:W.heap[l]? =some o)(hc:o.isCells=false):KpL B0 lb W (W.putObj l o'):=
 {below:=⟨rfl,rfl,rfl,by simp,fun k hk=>World.putObj_heap_other (by omega)⟩
  cells:=fun b o1 h1 h2 _ _=>(World.putObj_heap_other (fun e=>by
   rw[e,ho]at h1
   injection h1 with h1
   rw[←h1,hc]at h2
   cases h2)).trans h1
  row:=fun k hk=> .inl (by rw[←hk];exact(rowOf_block (World.putObj_heap_other (by omega))).symm)}
theorem KpL.blk {B0 lb:Nat}{V V':World}(h:KpL B0 lb V V'){b:Nat}{vs:List Value}{T:TypeId}(hb:Blk V b vs T)(h1:b≠lb)(h2:rowOf V lb≠some b):Blk V' b vs T:=h.cells b _ hb rfl h1 h2
theorem KpL.cell {B0 lb:Nat}{V V':World}(h:KpL B0 lb V V'){b i:Nat}{v:Value}(hc:V.cell? ⟨b,i,none⟩=some v)(h1:b≠lb)(h2:rowOf V lb≠some b):V'.cell? ⟨b,i,none⟩=some v:=by
 unfold World.cell? at hc
 cases ho:V.heap[b]? with
 |none=>simp[ho]at hc
 |some o=>
  cases o with
  |cells c e fz=>
   have h3:=h.cells b _ ho rfl h1 h2
   exact(World.cell?_of_block (a:=⟨b,i,none⟩) (w':=V') (w:=V) (h3.trans ho.symm)).trans (by unfold World.cell?;exact hc)
  |_=>simp[ho]at hc
attribute [local irreducible] HD.cells wpList Code.wp
end Wf
end Go.Proofs.YtjecmgkmcfkcjaaGreat
