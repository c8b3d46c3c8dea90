/-
  Rows of numbers held against each other; slots that a statement gathers.
-/
import Derived.Test.YteggjmnmlmhkfaaYj
import Derived.Test.YteggjmnmlmhkfaaYb
import Derived.Test.YteggjmnmlmhkfaaNumb
import Derived.DeepKeys4
namespace Go.Proofs.Yteggjmnmlmhkfaa.Yi
open Go.ChangeShapes Go.WideShapes Go.ChangeAt Go.RowKit
open Bytes8 Blk8 Own8 OwnM OwnE OwnA LeNum Ob Rows2 Dc Yc Yp Yd Yg Yh Yj
set_option linter.unusedVariables false
set_option linter.unusedSimpArgs false
set_option maxRecDepth 100000

set_option maxHeartbeats 1000000 in
theorem samePlaces_yes (A B : Option Addr) (n c d : Nat) (f : Nat → Int) (w : World) (h1 : InInts .u64 w A n f) (h2 : InInts .u64 w B n f) (hn : n ≤ 1000000) :
    Calls Try.prog 26 #[.slice A n c, .slice B n d] w fun e w' => e = .returned (.bool true) ∧ Below w.heap.size w w' := by
  have HA := Lib.hid h1
  have HB := Lib.hid h2
  clear h1 h2
  go_enter Try.func26, Try.ntmps26
  go_wp2
  go_loopw [5] (fun i wr => ∃ k : Nat, k ≤ n ∧ i = .int .i64 (k : Int) ∧ Hid (Below w.heap.size w wr)) (fun i _ => n - (intOf i).toNat)
  case atStart => exact ⟨0, Nat.zero_le _, rfl, Lib.hid (Below.refl _ _)⟩
  case round =>
    obtain ⟨k, hk, rfl, hb⟩ := hrel
    by_cases hlt : k < n
    · obtain ⟨b1, o1, rfl, _, c1, _⟩ := (HA.out.below hb.out.drew) k hlt
      obtain ⟨b2, o2, rfl, _, c2, _⟩ := (HB.out.below hb.out.drew) k hlt
      have hk0 : (0 : Int) ≤ (k : Int) := by omega
      have hkn : (k : Int) < (n : Int) := by omega
      generalize f k = x at *
      go_wp2
      go_region
      all_goals
        go_wp2
        go_roundw
        case rel => exact ⟨k + 1, by omega, by go_num, Lib.hid hb.out.drew⟩
        case measure => simp [intOf]; omega
    · obtain rfl : k = n := by omega
      go_wp2
      go_ret
      exact ⟨rfl, hb.out⟩

theorem slotElt : Elt 59 45 2 16 (.agg #[.int .u64 0, .int .u64 0]) := ⟨Try.underlying45, by kernel_rfl, rfl, by decide⟩
def two (f g : Nat → Int) (k : Nat) : List Value := (prs f g k).map (Value.int .u64)
theorem two_succ (f g : Nat → Int) (k : Nat) : two f g (k + 1) = two f g k ++ [.int .u64 (f k), .int .u64 (g k)] := by unfold two; rw [prs_succ]; simp
theorem own_in2 {E : TypeId} {w : World} {base c k : Nat} {A : Option Addr} {f g : Nat → Int} (h : OwnE E 2 w base A k c (two f g k)) (hf : Wd f k) (hg : Wd g k) : In2 w A k f g := fun i hi => by
  have hl : (two f g k).length = 2 * k := by unfold two; rw [List.length_map, prs_len]
  obtain ⟨p1, p2⟩ := prs_at f g k i hi
  obtain ⟨b, rfl, _, hlt, c1⟩ := h.cell (i := i * 2) (by omega)
  obtain ⟨b2, e2, _, _, c2⟩ := h.cell (i := i * 2 + 1) (by omega)
  simp at e2
  subst e2
  refine ⟨b, 0, rfl, hlt, ?_, ?_, hf i hi, hg i hi⟩
  · rw [Nat.zero_add, c1]; unfold two; rw [List.getElem?_map, p1]; rfl
  · rw [Nat.zero_add, c2]; unfold two; rw [List.getElem?_map, p2]; rfl
theorem In2.cong {w : World} {A : Option Addr} {n : Nat} {f g f2 g2 : Nat → Int} (h : In2 w A n f g) (e : ∀ i, i < n → f i = f2 i ∧ g i = g2 i) : In2 w A n f2 g2 := fun i hi => by
  obtain ⟨b, off, e1, h1, h2, h3, h4, h5⟩ := h i hi
  obtain ⟨e2, e3⟩ := e i hi
  rw [e2] at h2 h4
  rw [e3] at h3 h5
  exact ⟨b, off, e1, h1, h2, h3, h4, h5⟩
theorem InInts.cong {k : IntKind} {w : World} {A : Option Addr} {n : Nat} {f f2 : Nat → Int} (h : InInts k w A n f) (e : ∀ i, i < n → f i = f2 i) : InInts k w A n f2 := fun i hi => by
  obtain ⟨b, off, e1, h1, h2, h3⟩ := h i hi
  rw [e i hi] at h2 h3
  exact ⟨b, off, e1, h1, h2, h3⟩
theorem readArray_0 (A : Option Addr) (l : List Int) (n cap : Nat) (w : World) (hb : Bytes w A l) (hL : l.length = n) (hn : n ≤ 1000000) (hc : n ≤ cap) (hcm : cap ≤ maxLen) :
    Calls Try.prog 11 #[.slice A n cap, .int .u64 0] w (ArrTold l 0 w) := readArray_e A l n cap 0 w hb hL hn hc hcm (by decide)
theorem readTable_0 (A : Option Addr) (l : List Int) (n cap : Nat) (k : Int) (w : World) (hb : Bytes w A l) (hL : l.length = n) (hn : n ≤ 1000000) (hc : n ≤ cap) (hcm : cap ≤ maxLen) :
    Calls Try.prog 13 #[.slice A n cap, .int .u64 0, .int .i64 k] w (TabTold l 0 k w) := readTable_e A l n cap 0 k w hb hL hn hc hcm (by decide)
theorem read_0 (A : Option Addr) (l : List Int) (n cap : Nat) (w : World) (hb : Bytes w A l) (hL : l.length = n) (hn : n ≤ 1000000) (hc : n ≤ cap) (hcm : cap ≤ maxLen) :
    Calls Try.prog 9 #[.slice A n cap, .int .u64 0] w (EntTold l 0 w) := read_e A l n cap 0 w hb hL hn hc hcm (by decide)
theorem neq_slot (a b : Int) (w : World) : (binOp .neq 59 (.agg #[.int .u64 a, .int .u64 b]) (.agg #[.int .u64 a, .int .u64 b])).run Try.prog w = .ok (.bool false) w := by
  have a9 := Try.isAgg23
  have z9 := Try.sizeOf23
  have hS : Try.prog.underlying 59 = some (.struct (Try.prog.fieldsOf 59)) := by kernel_rfl
  have hp : Try.prog.stoodInHeld 59 = false := by kernel_rfl
  rw [run_neq_struct, show (10000 : Nat) = 9999 + 1 from rfl, run_equalIn_agg w 9999 _ _ _ hS hp]
  simp only [Program.fieldsOf, Try.underlying59]
  go_simp
theorem neq_item (a b : Int) (w : World) : (binOp .neq 56 (.agg #[.int .u64 a, .int .u64 b]) (.agg #[.int .u64 a, .int .u64 b])).run Try.prog w = .ok (.bool false) w := by
  have a9 := Try.isAgg23
  have z9 := Try.sizeOf23
  have hS : Try.prog.underlying 56 = some (.struct (Try.prog.fieldsOf 56)) := by kernel_rfl
  have hp : Try.prog.stoodInHeld 56 = false := by kernel_rfl
  rw [run_neq_struct, show (10000 : Nat) = 9999 + 1 from rfl, run_equalIn_agg w 9999 _ _ _ hS hp]
  simp only [Program.fieldsOf, Try.underlying56]
  go_simp
end Go.Proofs.Yteggjmnmlmhkfaa.Yi
