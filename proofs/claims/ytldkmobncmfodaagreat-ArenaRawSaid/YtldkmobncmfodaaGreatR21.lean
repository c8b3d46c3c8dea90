/-
  Texts beneath the proof, one behind the other.
-/
import Derived.Laws.OwnMore
import Derived.Deep.MidRow
import Derived.Test.YtldkmobncmfodaaGreatR20
import Derived.Test.YtldkmobncmfodaaGreatR19

/-
  The document's writer in memory: its head's other cells set.
-/
namespace Go.Proofs.YtldkmobncmfodaaGreat.Nk
open Go.ChangeShapes Go.WideShapes Go.ChangeAt Go.RowKit
open Bytes8 Blk8 Own8 OwnM OwnA OwnE LeA LeNum LeB LeP RefA RefB Rows2 Ob Oc Od Oj Ga Ma Kf Mb Mc Md Me Mf Mg Fa Fb Fc Sg Dc Yc Yd Yk Na Nb Nc Nd Nf Ng Nh
set_option linter.unusedVariables false
set_option linter.unusedSimpArgs false
set_option maxRecDepth 100000

theorem at_head (m m' : Mk) (S : Sl) (j : Nat) (hC : m.C = m'.C) (hd : m.depth = m'.depth) (h : 52 ≤ j → j < 142 → m'.h.at_ 20 (j - 52) = m.h.at_ 20 (j - 52)) : Mk.at_ m' S j = Mk.at_ m S j := by
  unfold Mk.at_
  by_cases h1 : j < 142
  · rw [if_pos h1, if_pos h1]
    by_cases h2 : j < 52
    · rw [if_pos h2, if_pos h2, hC]
    · rw [if_neg h2, if_neg h2, h (by omega) h1]
  · rw [if_neg h1, if_neg h1, hd]
theorem set_ta (m : Mk) (S : Sl) (v : Int) : (Mk.cells m S).set 139 (.int .u32 v) = Mk.cells { m with h := { m.h with ta := v } } S :=
  set_map _ _ _ _ _ rfl fun j hj => at_head _ _ _ _ rfl rfl fun h1 h2 => by
    unfold HD.at_
    repeat' split
    all_goals first | rfl | (exfalso; omega)
theorem set_ti (m : Mk) (S : Sl) (v : Int) : (Mk.cells m S).set 140 (.int .u32 v) = Mk.cells { m with h := { m.h with ti := v } } S :=
  set_map _ _ _ _ _ rfl fun j hj => at_head _ _ _ _ rfl rfl fun h1 h2 => by
    unfold HD.at_
    repeat' split
    all_goals first | rfl | (exfalso; omega)
theorem set_te (m : Mk) (S : Sl) (v : Int) : (Mk.cells m S).set 141 (.int .u64 v) = Mk.cells { m with h := { m.h with te := v } } S :=
  set_map _ _ _ _ _ rfl fun j hj => at_head _ _ _ _ rfl rfl fun h1 h2 => by
    unfold HD.at_
    repeat' split
    all_goals first | rfl | (exfalso; omega)
theorem get_ta (m : Mk) (S : Sl) : (Mk.cells m S)[139]? = some (.int .u32 m.h.ta) := by rw [Mk.get m S _ (by decide)]; rfl
theorem get_ti (m : Mk) (S : Sl) : (Mk.cells m S)[140]? = some (.int .u32 m.h.ti) := by rw [Mk.get m S _ (by decide)]; rfl
theorem get_te (m : Mk) (S : Sl) : (Mk.cells m S)[141]? = some (.int .u64 m.h.te) := by rw [Mk.get m S _ (by decide)]; rfl
variable {w w' : World} {B g : Nat} {p p' : Pl} {m m' : Mk}
theorem At.head1 (h : At w B g p m) (i : Nat) (v : Value) (hd : HD) (e : ∀ S, (Mk.cells m S).set i v = Mk.cells { m with h := hd } S) : At (w.setCell ⟨g, i, none⟩ v) B g p { m with h := hd } :=
  Nd.At.struct (S' := 0) (v := .bool true) h i v ⟨by have := h.st.st.set_ i v; rw [e] at this; exact this, own_set1 h.st.own h.st.ne _ _, h.st.ne⟩ rfl rfl rfl
end Go.Proofs.YtldkmobncmfodaaGreat.Nk

/-
  The document's writer, plain: what an entry's hanging keeps.
-/
namespace Go.Proofs.YtldkmobncmfodaaGreat.Nl
open Bytes8 LeNum Ob Oc Ga Ma Mb Mc Mf Mg Yd Yc Sg Na Nb Nc Nh
set_option linter.unusedVariables false
set_option linter.unusedSimpArgs false
set_option maxRecDepth 100000

end Go.Proofs.YtldkmobncmfodaaGreat.Nl

/-
  The document's writer in memory: one of its payloads set anew; a variable beside it set.
-/
namespace Go.Proofs.YtldkmobncmfodaaGreat.Nm
open Go.ChangeShapes Go.WideShapes Go.ChangeAt Go.RowKit
open Bytes8 Blk8 Own8 OwnM OwnA OwnE LeA LeNum LeB LeP RefA RefB Rows2 Ob Oc Od Oj Ga Ma Kf Mb Mc Md Me Mf Mg Fa Fb Fc Sg Dc Yc Yd Yk Na Nb Nc Nd Nf Ng Nh Nk
set_option linter.unusedVariables false
set_option linter.unusedSimpArgs false
set_option maxRecDepth 100000

variable {w w' : World} {B g : Nat} {p p' : Pl} {m m' : Mk}
end Go.Proofs.YtldkmobncmfodaaGreat.Nm

/-
  The document's writer in memory: an elder one laid back; the boot's ID.
-/
namespace Go.Proofs.YtldkmobncmfodaaGreat.No
open Go.ChangeShapes Go.WideShapes Go.ChangeAt Go.RowKit
open Bytes8 Blk8 Own8 OwnM OwnA OwnE LeA LeNum LeB LeP RefA RefB Rows2 Ob Oc Od Oj Ga Ma Kf Mb Mc Md Me Mf Mg Fa Fb Fc Sg Dc Yc Yd Yk Na Nb Nc Nd Nf Ng Nh Nk Nm
set_option linter.unusedVariables false
set_option linter.unusedSimpArgs false
set_option maxRecDepth 100000

variable {w : World} {B g : Nat} {p : Pl} {m : Mk}
theorem Path.setCells {g : Nat} {p p1 : Pl} {w w1 : World} (vs : List Value) : ∀ (o : Nat) (w1 : World), Path g p w p1 w1 → Path g p w p1 (w1.setCells g o vs) := by
  induction vs with
  | nil => exact fun o w1 h => h
  | cons v r ih => exact fun o w1 h => ih (o + 1) _ (h.set o v)
/-! ## kept flat: each update of a nested record would write the one ahead of it seven times -/
theorem At.setNh (h0 : HD) (h : At w B g p { m with h := h0 }) (i k : Nat) (hi : i < 20) (hk : k = 119 + i) (v : Int) : At (w.setCell ⟨g, k, none⟩ (.int .u64 v)) B g p { m with h := setN h0 i v } := Nd.At.setN h i k hi hk v
end Go.Proofs.YtldkmobncmfodaaGreat.No

/-
  What is so of a writer's head at any time: plain.
-/
namespace Go.Proofs.YtldkmobncmfodaaGreat.Ns
open Go.ChangeShapes Go.WideShapes Go.ChangeAt Go.RowKit
open Bytes8 Blk8 Own8 OwnM OwnA OwnE LeA LeNum LeB LeP RefA RefB Rows2 Ob Oc Od Oj Ga Ma Kf Mb Mc Md Me Mf Mg Fa Fb Fc Sg Dc Yc Yd Yk Na Nb Nc Nd Nf Ng Nh Nk Nl Ya Pr8 Ps8 Pl8
set_option linter.unusedVariables false
set_option linter.unusedSimpArgs false
set_option maxRecDepth 100000

def Free (i : Nat) : Prop := i = 7 ∨ i = 8 ∨ i = 15 ∨ i = 16 ∨ i = 18 ∨ i = 19
structure HG (m : Mk) : Prop where
  n0 : m.h.N 0 = 272
  n3 : m.h.N 3 = 16 * (m.C.ds : Int)
  n5 : m.h.N 5 = 16 * (m.C.fs : Int)
  cp : m.h.cp = 2
  ic : m.h.ic = 0 ∨ m.h.ic = 4
  I : ∀ i, 0 ≤ m.h.I i ∧ m.h.I i < 256
  nb : ∀ i, i = 1 ∨ i = 6 ∨ (9 ≤ i ∧ i ≤ 14) ∨ i = 17 ∨ 20 ≤ i → 0 ≤ m.h.N i ∧ m.h.N i ≤ 18446744073709551615
  ta : 0 ≤ m.h.ta ∧ m.h.ta ≤ 4294967295
  ti : 0 ≤ m.h.ti ∧ m.h.ti ≤ 4294967295
  te : 0 ≤ m.h.te ∧ m.h.te ≤ 18446744073709551615
theorem HG.turn {m m' : Mk} (h : HG m) (hC : m'.C = m.C) (hcp : m'.h.cp = m.h.cp) (hic : m'.h.ic = m.h.ic) (hI : m'.h.I = m.h.I) (hta : m'.h.ta = m.h.ta) (hti : m'.h.ti = m.h.ti) (hte : m'.h.te = m.h.te)
    (hN : ∀ i, ¬ Free i → i ≠ 6 → m'.h.N i = m.h.N i) (h6 : 0 ≤ m'.h.N 6 ∧ m'.h.N 6 ≤ 18446744073709551615) : HG m' :=
  { n0 := by rw [hN 0 (by unfold Free; omega) (by decide)]; exact h.n0
    n3 := by rw [hN 3 (by unfold Free; omega) (by decide), hC]; exact h.n3
    n5 := by rw [hN 5 (by unfold Free; omega) (by decide), hC]; exact h.n5
    cp := hcp.trans h.cp
    ic := by rw [hic]; exact h.ic
    I := by rw [hI]; exact h.I
    nb := fun i hi => by
      by_cases e : i = 6
      · rw [e]; exact h6
      · rw [hN i (by unfold Free; omega) e]; exact h.nb i hi
    ta := by rw [hta]; exact h.ta
    ti := by rw [hti]; exact h.ti
    te := by rw [hte]; exact h.te }
theorem HG.bytes {m m' : Mk} (h : HG m) (hC : m'.C = m.C) (hh : m'.h = m.h) : HG m' :=
  h.turn hC (by rw [hh]) (by rw [hh]) (by rw [hh]) (by rw [hh]) (by rw [hh]) (by rw [hh]) (fun i _ _ => by rw [hh]) (by rw [hh]; exact h.nb 6 (by omega))
end Go.Proofs.YtldkmobncmfodaaGreat.Ns
