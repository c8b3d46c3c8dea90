/-
  The library's digits at base 16; the program's numbers as texts.
-/
import Derived.Test.YtpfkhcgeblihcaaDoorKub
import Derived.Test.YtpfkhcgeblihcaaDoorTx
import Derived.Laws.BitsAllLaws
import Derived.Lib.Hide
import Derived.Deep.CutRange
namespace Go.Proofs.YtpfkhcgeblihcaaDoor.Kuc
open Go.ChangeShapes Go.WideShapes Go.ChangeAt Go.RowKit
open Bytes8 Blk8 Fa Kua Kub
set_option linter.unusedVariables false
set_option linter.unusedSimpArgs false
set_option maxRecDepth 100000

/-- The one cell of the library's table that base 16 reads. -/
def Tab (w : World) : Prop := w.cell? ⟨3, 15, none⟩ = some (.int .u8 4) ∧ 3 < w.heap.size
theorem Tab.below {w w' : World} (h : Tab w) (hb : Below w.heap.size w w') : Tab w' := ⟨(hb.cell (p := ⟨3, 15, none⟩) h.2).trans h.1, Nat.lt_of_lt_of_le h.2 hb.size⟩
theorem and15 {v : Nat} (h : v < 18446744073709551616) : bits .and .u64 (v : Int) 15 = ((v % 16 : Nat) : Int) := by
  have := u64_and_nat v 15 h (by decide)
  rw [show ((15 : Nat) : Int) = 15 from rfl] at this
  rw [this, Nat.and_two_pow_sub_one_eq_mod v 4]
theorem tz64 (w : World) (hT : Tab w) : Calls Tryd.prog 89 #[.int .u64 16] w fun e w' => e = .returned (.int .i64 4) ∧ w = w' := by
  have h1 := hT.1
  have hk : bits .and .u64 16 (IntKind.u64.wrap (-16)) = 16 := by kernel_rfl
  have hj : (IntKind.u64.wrap (16 * 285870213051353865) / 288230376151711744).toNat = 15 := by kernel_rfl
  go_enter Tryd.func89, Tryd.ntmps89
  go_wp2
  go_ret
  exact ⟨rfl, rfl⟩
theorem tz (w : World) (hT : Tab w) : Calls Tryd.prog 85 #[.int .u64 16] w fun e w' => e = .returned (.int .i64 4) ∧ w = w' := by
  go_enter Tryd.func85, Tryd.ntmps85
  go_wp2_with (go_at_call 89; (with_reducible refine (tz64 _ hT).mono ?_); rintro e w' ⟨rfl, rfl⟩)
  go_ret
  exact ⟨rfl, rfl⟩
theorem pow2 (w : World) : Calls Tryd.prog 84 #[.int .i64 16] w fun e w' => e = .returned (.bool true) ∧ w = w' := by
  go_enter Tryd.func84, Tryd.ntmps84
  go_wp2
  go_ret
  exact ⟨rfl, rfl⟩
abbrev D36 : ByteArray := { data := #[48, 49, 50, 51, 52, 53, 54, 55, 56, 57, 97, 98, 99, 100, 101, 102, 103, 104, 105, 106, 107, 108, 109, 110, 111, 112, 113, 114, 115, 116, 117, 118, 119, 120, 121, 122] }
theorem d36 {d : Nat} (hd : d < 16) (w : World) : (Instr.index 9 (.string D36) (.int .u64 (d : Int))).run Tryd.prog w = .ok (.int .u8 (hexD d)) w := by
  rcases d with _ | _ | _ | _ | _ | _ | _ | _ | _ | _ | _ | _ | _ | _ | _ | _ | d
  all_goals first | omega | kernel_rfl
theorem Row_bytes {w : World} {g : Nat} {l L : List Int} {vs : List Value} {ty : TypeId} (h : Blk w g vs ty) (hv : vs = L.map (Value.int .u8)) (hA : AllB L) (m n : Nat) (hn : L.length = m + n) (hl : L.drop m = l) : Bytes w (some ⟨g, m, none⟩) l ∧ l.length = n := by
  subst hv hl
  refine ⟨?_, by rw [List.length_drop]; omega⟩
  have := (h.bytes hA).part m n (some ⟨g, m, none⟩) (fun b off e _ _ => by injection e with e; injection e with e1 e2; subst e1 e2; rw [Nat.zero_add])
  rwa [List.take_of_length_le (by rw [List.length_drop]; omega)] at this
theorem sl65 (g m : Nat) (hm : m < 65) (W : World) : (Instr.sliceAt 124 (.pointer (some ⟨g, 0, none⟩)) (some (.int .i64 (m : Int))) none none).run Tryd.prog W = .ok (.slice (some ⟨g, m, none⟩) (65 - m) (65 - m)) W := by
  have e1 : Tryd.prog.arrayLen 124 = 65 := by kernel_rfl
  have e2 : Tryd.prog.elem 124 = 5 := by kernel_rfl
  have e3 : (sizeOf 5).run Tryd.prog W = .ok 1 W := by kernel_rfl
  rw [run_sliceAt_array_l W 124 ⟨g, 0, none⟩ (by kernel_rfl) .i64 m (by omega) (by rw [e1]; omega), e1, e2, e3]
  show Result.ok (slicedAt ⟨g, 0, none⟩ (m : Int).toNat 65 65 1) W = _
  unfold slicedAt
  rw [Int.toNat_natCast, if_neg (by omega), add_none, Nat.zero_add, Nat.mul_one]
theorem zero65 : Tryd.zeroCells124 = ((List.replicate 65 (0 : Int)).map (Value.int .u8)).toArray := by kernel_rfl
set_option maxHeartbeats 2000000 in
theorem fbits (n : Nat) (hn : n < 18446744073709551616) (w : World) (hT : Tab w) : Calls Tryd.prog 75 #[.slice none 0 0, .int .u64 (n : Int), .int .i64 16, .bool false, .bool false] w fun e w' => e = .returned (.tuple #[.slice none 0 0, .string (T (shortL n))]) ∧ Below w.heap.size w w' := by
  have b1 := (Below.refl w.heap.size w).alloc (Nat.le_refl _) (.cells Tryd.zeroCells124 124)
  have R1 := Lib.hid (show Blk (w.alloc (.cells Tryd.zeroCells124 124)) w.heap.size ((List.replicate 65 (0 : Int)).map (Value.int .u8)) 124 from by rw [zero65]; exact Blk.new _ _ _)
  have HT1 := Lib.hid (hT.below b1)
  have HB1 := Lib.hid b1
  clear b1 hT
  have HN := Lib.hid hn
  clear hn
  go_enter Tryd.func75, Tryd.ntmps75
  go_upto_region 7 with fail
  generalize w.alloc (.cells Tryd.zeroCells124 124) = w1 at *
  obtain ⟨g, hg⟩ : ∃ g, w.heap.size = g := ⟨_, rfl⟩
  have HG := Lib.hid hg
  have hi : (65 : Int) = ((65 : Nat) : Int) := rfl
  rw [hg] at R1 HB1 ⊢
  clear hg hi
  go_wp2_with (first
    | (go_at_call 84; (with_reducible refine (pow2 _).mono ?_); rintro e w' ⟨rfl, rfl⟩)
    | (go_at_call 85; (with_reducible refine (tz _ HT1.out).mono ?_); rintro e w' ⟨rfl, rfl⟩))
  go_loopw [1, 13] (fun u i wr => ∃ (v k : Nat) (L : List Int), u = .int .u64 (v : Int) ∧ i = .int .i64 (k : Int) ∧ v < 18446744073709551616 ∧ 50 ≤ k ∧ k ≤ 65 ∧ Hid (L.length = 65 ∧ AllB L ∧ shortL n = shortL v ++ L.drop k) ∧ Hid (Blk wr g (L.map (Value.int .u8)) 124) ∧ Hid (Below g w wr)) (fun u _ _ => (intOf u).toNat)
  case atStart => exact ⟨n, 65, List.replicate 65 0, rfl, rfl, HN.out, by omega, by omega, Lib.hid ⟨by simp, AllB.zeros 65, by simp⟩, R1, HB1⟩
  case round =>
    obtain ⟨v, k, L, rfl, rfl, hv, hk1, hk2, hL, hR, hB⟩ := hrel
    obtain ⟨m, rfl⟩ : ∃ m, k = m + 1 := ⟨k - 1, by omega⟩
    have hm : m < L.length := by have := hL.out.1; omega
    have hc := hR.out.cell (i := m) (v := .int .u8 (L.getD m 0)) (by simp [List.getElem?_eq_getElem hm])
    have hf := hR.out.frozen m
    have hlen := short_len n
    have hle := short_le HN.out
    have hsum : nd v + (65 - (m + 1)) ≤ 16 := by
      have h1 := congrArg List.length hL.out.2.2
      rw [List.length_append, short_len v, List.length_drop, hL.out.1] at h1
      omega
    clear hlen hle
    by_cases h16 : v < 16
    · have hin : ¬ (16 : Int) ≤ (v : Int) := by omega
      have hidx := fun W => d36 h16 W
      have HE : Hid ((L.set m (hexD v)).drop m = shortL n) := Lib.hid (by
        rw [hL.out.2.2, short_small h16, List.drop_eq_getElem_cons (by simpa using hm), List.getElem_set_self]
        simp [List.drop_set_of_lt])
      have hhx := hexD_byte h16
      have HBy := Lib.hid (Row_bytes (hR.out.set_ m (.int .u8 (hexD v))) (by rw [← List.map_set]) (hL.out.2.1.set m (by omega) (by omega)) m (65 - m) (by rw [List.length_set, hL.out.1]; omega) HE.out)
      have HB2 := Lib.hid (hB.out.setCell (p := (⟨g, m, none⟩ : Addr)) (Nat.le_refl _) (.int .u8 (hexD v)))
      have hs := sl65 g m (by omega)
      have hcv := HBy.out.1.string (65 - m) (65 - m) HBy.out.2
      clear hL HE hR hsum HBy
      go_wp2
      go_ret2
      exact ⟨rfl, HG.out ▸ HB2.out⟩
    · have hin : (16 : Int) ≤ (v : Int) := by omega
      obtain ⟨q, hq⟩ : ∃ q, v / 16 = q := ⟨_, rfl⟩
      obtain ⟨d, hd⟩ : ∃ d, v % 16 = d := ⟨_, rfl⟩
      have hand : bits .and .u64 (v : Int) 15 = (d : Int) := by rw [and15 hv, hd]
      have hdq : (v : Int) / 16 = (q : Int) := by omega
      have hidx := fun W => d36 (show d < 16 by omega) W
      have hhx := hexD_byte (show d < 16 by omega)
      have HE := Lib.hid (show (L.set m (hexD d)).length = 65 ∧ AllB (L.set m (hexD d)) ∧ shortL n = shortL q ++ (L.set m (hexD d)).drop m from by
        refine ⟨by rw [List.length_set]; exact hL.out.1, hL.out.2.1.set m (by omega) (by omega), ?_⟩
        rw [hL.out.2.2, short_big h16, hq, hd, List.drop_eq_getElem_cons (show m < (L.set m (hexD d)).length from by rw [List.length_set]; exact hm), List.getElem_set_self]
        simp [List.drop_set_of_lt])
      have HR := Lib.hid (show Blk (wr.setCell ⟨g, m, none⟩ (.int .u8 (hexD d))) g ((L.set m (hexD d)).map (Value.int .u8)) 124 from by rw [List.map_set]; exact hR.out.set_ m _)
      have HB2 := Lib.hid (hB.out.setCell (p := (⟨g, m, none⟩ : Addr)) (Nat.le_refl _) (.int .u8 (hexD d)))
      have hm50 : 50 ≤ m := by have := nd_pos v; have := nd_big h16; have := nd_pos (v / 16); omega
      clear hL hR hsum hB hhx
      go_wp2
      go_roundw
      case rel => exact ⟨q, m, _, rfl, rfl, by omega, hm50, by omega, HE, HR, HB2⟩
      case measure => simp [intOf]; omega
theorem fuint (n : Nat) (hn : n < 18446744073709551616) (w : World) (hT : Tab w) : Calls Tryd.prog 58 #[.int .u64 (n : Int), .int .i64 16] w fun e w' => e = .returned (.string (T (shortL n))) ∧ Below w.heap.size w w' := by
  have HF := Lib.hid (fbits n hn w hT)
  clear hT hn
  go_enter Tryd.func58, Tryd.ntmps58
  go_wp2_with (go_at_call 75; (with_reducible refine HF.out.mono ?_); rintro e w' ⟨rfl, hb⟩; have HB := Lib.hid hb; clear hb)
  go_ret
  exact ⟨rfl, HB.out⟩
theorem fuint2 (n : Nat) (hn : n < 18446744073709551616) (w : World) (hT : Tab w) : Calls Tryd.prog 44 #[.int .u64 (n : Int), .int .i64 16] w fun e w' => e = .returned (.string (T (shortL n))) ∧ Below w.heap.size w w' := by
  have HF := Lib.hid (fuint n hn w hT)
  clear hT hn
  go_enter Tryd.func44, Tryd.ntmps44
  go_wp2_with (go_at_call 58; (with_reducible refine HF.out.mono ?_); rintro e w' ⟨rfl, hb⟩; have HB := Lib.hid hb; clear hb)
  go_ret
  exact ⟨rfl, HB.out⟩
theorem short_any (n : Nat) (hn : n < 18446744073709551616) (w : World) (hT : Tab w) : Calls Tryd.prog 30 #[.int .u64 (n : Int)] w fun e w' => e = .returned (.string (T (shortL n))) ∧ Below w.heap.size w w' := by
  have HF := Lib.hid (fuint2 n hn w hT)
  clear hT hn
  go_enter Tryd.func30, Tryd.ntmps30
  go_wp2_with (go_at_call 44; (with_reducible refine HF.out.mono ?_); rintro e w' ⟨rfl, hb⟩; have HB := Lib.hid hb; clear hb)
  go_ret
  exact ⟨rfl, HB.out⟩
end Go.Proofs.YtpfkhcgeblihcaaDoor.Kuc
