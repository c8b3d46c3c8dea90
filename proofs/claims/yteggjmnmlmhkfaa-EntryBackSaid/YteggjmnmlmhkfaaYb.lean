/-
  Rows of payloads that a statement gathers; the chapter's example of Xor.
-/
import Derived.Test.YteggjmnmlmhkfaaYa
namespace Go.Proofs.Yteggjmnmlmhkfaa.Yb
open Go.ChangeShapes Go.WideShapes Go.ChangeAt Go.RowKit
open Bytes8 Blk8 Own8 OwnM OwnE OwnA LeNum Hm Ha Hb Hc Hd He Hf Se Rows2 Dc Ff Ya Fa
set_option linter.unusedVariables false
set_option linter.unusedSimpArgs false
set_option maxRecDepth 100000

theorem rowElt : Elt 22 74 1 24 (.slice none 0 0) := ⟨Try.underlying74, by kernel_rfl, rfl, by decide⟩
/-- Rows that lie in a slice of the call's own. -/
theorem rows_own {w : World} {base n c : Nat} {B : Option Addr} {xs : List Value} (h : OwnE 22 1 w base B n c xs) (A : Nat → Option Addr) (L C : Nat → Nat) (P : Nat → List Int)
    (hx : ∀ r, r < n → xs[r]? = some (.slice (A r) (L r) (C r))) (hb : ∀ r, r < n → Bytes w (A r) (P r) ∧ (P r).length = L r ∧ L r ≤ C r ∧ C r ≤ maxLen) : InRows w B n A L C P := fun r hr => by
  obtain ⟨g, rfl, _, hlt, hc⟩ := h.cell (i := r) (by rw [h.len]; omega)
  exact ⟨g, 0, rfl, hlt, by rw [Nat.zero_add, hc, hx r hr], hb r hr⟩
theorem one_row {w : World} {A : Option Addr} {n c g : Nat} {l : List Int} (hg : w.heap.size = g) (hb : Bytes w A l) (hL : l.length = n) (hc : n ≤ c) (hm : c ≤ maxLen) :
    InRows (w.alloc (.cells #[.slice A n c] 22)) (some ⟨g, 0, none⟩) 1 (fun _ => A) (fun _ => n) (fun _ => c) (fun _ => l) := fun r hr => by
  obtain rfl : r = 0 := by omega
  subst hg
  exact ⟨w.heap.size, 0, rfl, by simp, (Blk.new w [.slice A n c] 22).cell (i := 0) rfl, hb.below ((Below.refl _ _).alloc (Nat.le_refl _) _) (Nat.le_refl _), hL, hc, hm⟩
theorem xor_one (A : Option Addr) (n c g : Nat) (l : List Int) (w : World) (hg : w.heap.size = g) (hb : Bytes w A l) (hL : l.length = n) (hc : n ≤ c) (hm : c ≤ maxLen) (hn : n ≤ 800000) :
    Calls Try.prog 27 #[.slice (some ⟨g, 0, none⟩) 1 1] (w.alloc (.cells #[.slice A n c] 22)) fun e w' => e = .returned (.int .u64 (lookN l : Int)) ∧ Below w.heap.size w w' := by
  have h := xor_any (some ⟨g, 0, none⟩) 1 1 _ _ _ _ (w.alloc (.cells #[.slice A n c] 22)) (one_row hg hb hL hc hm) (by decide) (fun r _ => hn)
  have e : xr (rowsL (fun _ => l) 1) = lookN l := by rw [rowsL_succ, rowsL_zero, List.nil_append, xr_cons, xr_nil, Nat.zero_xor]
  rw [e] at h
  exact h.mono fun e w' ⟨h1, h2⟩ => ⟨h1, ((Below.refl w.heap.size w).alloc (Nat.le_refl _) _).trans (h2.mono (by simp))⟩
theorem xor_none (w : World) (cap : Nat) : Calls Try.prog 27 #[.slice none 0 cap] w fun e w' => e = .returned (.int .u64 0) ∧ Below w.heap.size w w' :=
  xor_any none 0 cap (fun _ => none) (fun _ => 0) (fun _ => 0) (fun _ => []) w (fun r hr => absurd hr (by omega)) (by decide) (fun r hr => absurd hr (by omega))

abbrev cA : List Int := [65, 61, 49]
set_option maxHeartbeats 1000000 in
theorem first_any (w : World) :
    Calls Try.prog 8 #[] w fun e w' => e = .returned (.bool true) ∧ Below w.heap.size w w' := by
  have kc := fun (w : World) (C : Array Value) (n c : Nat) => Lib.run_convert_bytes_const (P := Try.prog) w 22 5 C n c Try.underlying22 Try.underlying5
  have aA : AllB cA := small_all rfl
  have H1 := Lib.hid fun (W : World) (g g2 : Nat) (hg : W.heap.size = g) (hg2 : g + 1 = g2) (M : Nat × Nat) => xor_one (some ⟨g, 0, none⟩) 3 3 g2 cA (W.alloc (.cells #[.int .u8 65, .int .u8 61, .int .u8 49] 5 M)) (by simp [hg, hg2]) (hg ▸ const_bytes cA aA W M) rfl (by decide) (by decide) (by decide)
  have H2 := Lib.hid fun (W : World) (g : Nat) (hg : W.heap.size = g) (M : Nat × Nat) => rlook_all (some ⟨g, 0, none⟩) cA 3 3 (W.alloc (.cells #[.int .u8 65, .int .u8 61, .int .u8 49] 5 M)) (hg ▸ const_bytes cA aA W M) rfl (by decide)
  rw [lookN_is] at H2
  generalize lookN cA = v at *
  go_enter Try.func8, Try.ntmps8
  go_wp2_with (first
    | (go_at_call 27; (with_reducible refine (H1.out _ _ _ (by simp) (by simp) _).mono ?_); rintro e w1 ⟨rfl, hb1⟩; have HB1 := Lib.hid hb1; clear hb1)
    | (go_at_call 28; (with_reducible refine (H2.out _ _ (by simp) _).mono ?_); rintro e w2 ⟨rfl, rfl⟩)
    | (go_at_call 27; (with_reducible refine (xor_none _ 0).mono ?_); rintro e w3 ⟨rfl, hb3⟩; have HB3 := Lib.hid hb3; clear hb3))
  go_ret
  refine ⟨rfl, ?_⟩
  have z0 := (Below.refl w.heap.size w).alloc (Nat.le_refl _) (.cells #[.int .u8 65, .int .u8 61, .int .u8 49] 5 (3, 4))
  have z1 := z0.trans (HB1.out.mono (by simp))
  have z2 := z1.alloc z1.size (.cells #[.int .u8 65, .int .u8 61, .int .u8 49] 5 (3, 4))
  exact z2.trans (HB3.out.mono z2.size)
end Go.Proofs.Yteggjmnmlmhkfaa.Yb
