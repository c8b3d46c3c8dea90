/-
  Texts beneath the proof.
-/
import Derived.Sort.QuietIn
import Derived.Test.YtjecmgkmcfkcjaaGreatQh40
set_option linter.unusedVariables false
set_option linter.unusedSimpArgs false
set_option maxRecDepth 100000
namespace Go.Proofs.YtjecmgkmcfkcjaaGreat
namespace Xd
open Go.ChangeShapes Go.WideShapes Go.ChangeAt Go.RowKit Go.Shelf
open Bytes8 Blk8 Kf Own8 OwnE Rows2 Ga Gb Rc
open Wf (rowOf rowOf_block KpL)
attribute [local go_sem] Oper.semAt_some
structure MidC (w0:World)(gv Bv Ba Bw Br lb rf:Nat)(way:Int)(a:Nat)(W:World):Prop where
 bel:Below w0.heap.size w0 W
 v:W.cell? ⟨Bv,0,none⟩=some (.pointer (some ⟨gv,0,none⟩))
 at_:Blk W Ba [.int .u64 (a:Int)] 40
 wy:W.cell? ⟨Bw,0,none⟩=some (.int .i64 way)
 rd:W.cell? ⟨Br,0,none⟩=some (.func (.func rf) #[] #[])
 row: ∀k,rowOf W lb=some k→k≠Bv∧k≠Ba∧k≠Bw∧k≠Br∧k<W.heap.size
structure Bxs (w0:World)(Bv Ba Bw Br lb:Nat)(W:World):Prop where
 vl:Bv≠lb
 al:Ba≠lb
 wl:Bw≠lb
 rl:Br≠lb
 va:Bv≠Ba
 wa:Bw≠Ba
 ra:Br≠Ba
 v:Bv<W.heap.size
 w:Bw<W.heap.size
 r:Br<W.heap.size
 l:lb<W.heap.size
 b0:w0.heap.size≤Ba
theorem Bxs.size {w0:World}{Bv Ba Bw Br lb:Nat}{W W':World}(h:Bxs w0 Bv Ba Bw Br lb W)(hs:W.heap.size≤W'.heap.size):Bxs w0 Bv Ba Bw Br lb W':=
 {h with v:=Nat.lt_of_lt_of_le h.v hs,w:=Nat.lt_of_lt_of_le h.w hs,r:=Nat.lt_of_lt_of_le h.r hs,l:=Nat.lt_of_lt_of_le h.l hs}
theorem MidC.kp {w0:World}{gv Bv Ba Bw Br lb rf a:Nat}{way:Int}{W W':World}(h:MidC w0 gv Bv Ba Bw Br lb rf way a W)(k:KpL w0.heap.size lb W W')(x:Bxs w0 Bv Ba Bw Br lb W):MidC w0 gv Bv Ba Bw Br lb rf way a W':=
 {bel:=h.bel.trans k.below
  v:=k.cell h.v x.vl fun e=>(h.row Bv e).1 rfl
  at_:=k.blk h.at_ x.al fun e=>(h.row Ba e).2.1 rfl
  wy:=k.cell h.wy x.wl fun e=>(h.row Bw e).2.2.1 rfl
  rd:=k.cell h.rd x.rl fun e=>(h.row Br e).2.2.2.1 rfl
  row:=fun y hy=>(k.row y hy).elim (fun h4=>by
     obtain⟨r1,r2,r3,r4,r5⟩:=h.row y h4
     exact⟨r1,r2,r3,r4,Nat.lt_of_lt_of_le r5 k.below.size⟩) fun h4=>by
     have h1:=h.at_.lt
     have h2:=x.v;have h3:=x.w;have h5:=x.r
     exact⟨by omega,by omega,by omega,by omega,h4.2⟩}
theorem wide_fn (f:FuncId):Fence.wide.fn f=True:=rfl
attribute [local simp] wide_fn
attribute [local irreducible] HD.cells wpList Code.wp
end Xd
namespace Xe
open Go.ChangeShapes Go.WideShapes Go.ChangeAt Go.RowKit Go.Shelf
open Ga Gb
open Ym (wordElt)
open Wf (rowOf rowOf_block KpL KpL.put)
open Wk (wpListIn_append_elt_at own_cells own_put)
attribute [local go_sem] Oper.semAt_some
attribute [local irreducible] HD.cells wpList Code.wp
end Xe
end Go.Proofs.YtjecmgkmcfkcjaaGreat
