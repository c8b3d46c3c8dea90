/-
  The document's Nums of numbers that can be read.
-/
import Derived.Test.YtekmbgcijkdkfaaOe
import Derived.Test.YtekmbgcijkdkfaaRows2
namespace Go.Proofs.Ytekmbgcijkdkfaa.Gn
open Go.ChangeShapes Go.WideShapes Go.ChangeAt Go.RowKit
open Bytes8 Blk8 Own8 OwnM LeA LeAl LeNum LeB LeP RefA RefB Ob Oc Od Oe Rows2
set_option linter.unusedVariables false
set_option linter.unusedSimpArgs false
set_option maxRecDepth 100000

/-- The numbers up to the k-th. -/
def ints (f : Nat → Int) (k : Nat) : List Int := (List.range k).map f
theorem ints_zero (f : Nat → Int) : ints f 0 = [] := rfl
theorem ints_succ (f : Nat → Int) (k : Nat) : ints f (k + 1) = ints f k ++ [f k] := by simp [ints, List.range_succ]
theorem ints_len (f : Nat → Int) (k : Nat) : (ints f k).length = k := by simp [ints]
theorem ints_nums (f : Nat → Int) (k : Nat) : nums (ints f (k + 1)) = nums (ints f k) ++ lowB (f k) 8 := by rw [ints_succ, nums_snoc]
theorem ints_list (l : List Int) : ints (fun i => l.getD i 0) l.length = l := by
  apply List.ext_getElem
  · simp [ints]
  · intro i h1 h2
    simp [ints, List.getD_eq_getElem?_getD, List.getElem?_eq_getElem h2]
theorem nums_ints_len (f : Nat → Int) (k : Nat) : (nums (ints f k)).length = 8 * k := by rw [nums_len, ints_len]

/-- Numbers of a block, as a slice that came in. -/
theorem blk_ints {w : World} {g : Nat} {l : List Int} {T : TypeId} (h : Blk w g (l.map (Value.int .u64)) T) (hv : I64 l) : InInts .u64 w (some ⟨g, 0, none⟩) l.length (fun i => l.getD i 0) := fun i hi => by
  have e : l.getD i 0 = l[i] := by simp [List.getElem?_eq_getElem hi]
  refine ⟨g, 0, rfl, h.lt, ?_, ?_⟩
  · rw [Nat.zero_add, h.cell (i := i) (v := .int .u64 (l.getD i 0)) (by simp [List.getElem?_eq_getElem hi])]
  · have := hv _ (List.getElem_mem hi)
    show (Lit.int .u64 (l.getD i 0)).wf = true
    rw [e]
    simp [Lit.wf, IntKind.min, IntKind.max, IntKind.signed, IntKind.bits]
    omega
theorem InInts.bd {w : World} {a : Option Addr} {n : Nat} {f : Nat → Int} (h : InInts .u64 w a n f) (i : Nat) (hi : i < n) : 0 ≤ f i ∧ f i ≤ 18446744073709551615 := by
  obtain ⟨_, _, _, _, _, hw⟩ := h i hi
  exact bounds_u64 hw
set_option maxHeartbeats 1000000 in
theorem rnums_in (Ai : Option Addr) (n cap : Nat) (f : Nat → Int) (w : World) (hi : InInts .u64 w Ai n f) (hmax : n ≤ 100000) :
    Calls Try.prog 40 #[.slice Ai n cap] w fun e w' => ∃ A c, e = .returned (.slice A (8 * n) c) ∧ Own w' w.heap.size A (8 * n) c (nums (ints f n)) ∧ Below w.heap.size w w' := by
  have HI := Lib.hid hi
  clear hi
  go_enter Try.func40, Try.ntmps40
  go_wp2
  go_loopw [3, 4] (fun s i wr => ∃ (k : Nat) (A : Option Addr) (c : Nat), k ≤ n ∧ i = .int .i64 (k : Int) ∧ s = .slice A (8 * k) c ∧ Hid (Own wr w.heap.size A (8 * k) c (nums (ints f k))) ∧ Hid (Below w.heap.size w wr)) (fun _ i _ => n - (intOf i).toNat)
  case atStart => exact ⟨0, none, 0, Nat.zero_le _, rfl, rfl, Own.nil w _ (Nat.le_refl _), Below.refl _ _⟩
  case round =>
    obtain ⟨k, A, c, hk, rfl, rfl, ho, hbel⟩ := hrel
    by_cases hlt2 : k < n
    · obtain ⟨b, off, rfl, hb, hc, hw⟩ := (HI.out.below hbel.out) k hlt2
      obtain ⟨x0, x1⟩ := bounds_u64 hw
      have HN := Lib.hid (ints_nums f k)
      have hsz := hbel.out.size
      generalize f k = x at *
      have HLo := Lib.hid fun (W : World) => rlow_at x 8 8 W x0 x1 (by decide) rfl
      go_wp2_with (first | (go_at_call 39; (with_reducible refine (HLo.out _).mono ?_); rintro e w2 ⟨A2, c2, rfl, ho2, hbel2⟩; have HO2 := Lib.hid ho2; have HB2 := Lib.hid hbel2; clear ho2 hbel2) | (at_builtin; refine wpList_append_bytes rfl (.tmp 11) (.tmp 16) rfl w.heap.size A (8 * k) c (nums (ints f k)) rfl (ho.out.kept HB2.out (Nat.le_refl _)) A2 8 c2 _ rfl HO2.out.bytes (lowB_len _ _) (by omega) ?_; intro A3 c3 w3 ho3 hbel3; have HO3 := Lib.hid ho3; have HB3 := Lib.hid hbel3; clear ho3 hbel3))
      go_roundw
      case rel =>
        refine ⟨k + 1, A3, c3, by omega, by go_num, rfl, ?_, Lib.hid ((hbel.out.trans (HB2.out.mono hsz)).trans HB3.out)⟩
        rw [HN.out]
        exact HO3
      case measure => simp [intOf]; omega
    · obtain rfl : k = n := by omega
      go_wp2
      go_ret
      exact ⟨A, c, rfl, ho.out, hbel.out⟩

end Go.Proofs.Ytekmbgcijkdkfaa.Gn
