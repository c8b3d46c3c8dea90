/-
  What the program's Read takes out of bytes, whatever they have.
-/
import Derived.Test.YtekmbgcijkdkfaaGi
namespace Go.Proofs.Ytekmbgcijkdkfaa.Gj
open Go.ChangeShapes Go.WideShapes Go.ChangeAt Go.RowKit
open Bytes8 Blk8 Own8 OwnM OwnE LeA LeNum LeB LeP Ob Oc Od Ga Gb Gc Gd Gf Gi
set_option linter.unusedVariables false
set_option linter.unusedSimpArgs false
set_option maxRecDepth 100000

/-- The number of four bytes from a place on. -/
def u4 (l : List Int) (a : Nat) : Int := leNum ((l.drop a).take 4)
theorem u4_bd {l : List Int} (h : AllB l) (a : Nat) : 0 ≤ u4 l a ∧ u4 l a ≤ 4294967295 := by
  have h1 := leNum_bound ((l.drop a).take 4) ((h.drop a).take 4)
  have h2 : ((l.drop a).take 4).length ≤ 4 := by simp; omega
  have h3 : (256 : Int) ^ ((l.drop a).take 4).length ≤ 4294967296 := by
    generalize ((l.drop a).take 4).length = k at *
    rcases k with _ | _ | _ | _ | _ | k
    all_goals first | decide | omega
  unfold u4
  omega
/-- What stands in a head's bytes. -/
def hdOf (l : List Int) : HD := ⟨u4 l 8, u4 l 12, l.getD 16 0, fun i => l.getD (24 + i) 0, fun i => u8 l (88 + 8 * i), u4 l 256, u4 l 260, u8 l 264⟩
theorem hdOf_ok {l : List Int} (h : AllB l) (m : Nat) : (hdOf l).Ok m :=
  ⟨u4_bd h 8, u4_bd h 12, by have := h.at_ 16; show _ ≤ l.getD 16 0 ∧ l.getD 16 0 ≤ _; omega, fun i => h.at_ _, fun i => u8_bd h _, u4_bd h 256, u4_bd h 260, u8_bd h 264⟩
/-- .. so many IDs and numbers of it. -/
def hdI (l : List Int) (k j : Nat) : HD := { hdOf l with I := fun i => if i < 16 * k then l.getD (24 + i) 0 else 0, N := fun i => if i < j then u8 l (88 + 8 * i) else 0 }
theorem hdI_zero (l : List Int) : hdI l 0 0 = ⟨u4 l 8, u4 l 12, l.getD 16 0, fun _ => 0, fun _ => 0, u4 l 256, u4 l 260, u8 l 264⟩ := by
  unfold hdI hdOf
  simp
theorem at_cong {a b : HD} {m : Nat} (h : ∀ i, i < 70 + m → a.at_ m i = b.at_ m i) : a.cells m = b.cells m := by
  unfold HD.cells
  apply List.map_congr_left
  intro i hi
  exact h i (List.mem_range.1 hi)
theorem hdI_whole (l : List Int) : (hdI l 4 21).cells 21 = (hdOf l).cells 21 := by
  apply at_cong
  intro i hi
  unfold HD.at_
  by_cases h1 : i < 3
  · rw [if_pos h1, if_pos h1]; rfl
  rw [if_neg h1, if_neg h1]
  by_cases h2 : i < 67
  · rw [if_pos h2, if_pos h2]
    show Value.int .u8 (if i - 3 < 16 * 4 then _ else 0) = _
    rw [if_pos (by omega)]; rfl
  rw [if_neg h2, if_neg h2]
  by_cases h3 : i < 67 + 21
  · rw [if_pos h3, if_pos h3]
    show Value.int .u64 (if i - 67 < 21 then _ else 0) = _
    rw [if_pos (by omega)]; rfl
  rw [if_neg h3, if_neg h3]; rfl
theorem hdI_set (l : List Int) (j : Nat) (hj : j < 21) : ((hdI l 4 j).cells 21).set (67 + j) (.int .u64 (u8 l (88 + 8 * j))) = (hdI l 4 (j + 1)).cells 21 := by
  apply List.ext_getElem?
  intro i
  rw [List.getElem?_set]
  by_cases hi : i < 91
  · by_cases he : 67 + j = i
    · subst he
      rw [if_pos rfl, if_pos (by rw [HD.len]; omega), HD.get_N _ 21 j hj]
      show _ = some (Value.int .u64 (if j < j + 1 then _ else 0))
      rw [if_pos (by omega)]
    · rw [if_neg he, HD.get _ 21 i hi, HD.get _ 21 i hi]
      congr 1
      unfold HD.at_
      by_cases h1 : i < 3
      · rw [if_pos h1, if_pos h1]; rfl
      rw [if_neg h1, if_neg h1]
      by_cases h2 : i < 67
      · rw [if_pos h2, if_pos h2]; rfl
      rw [if_neg h2, if_neg h2]
      by_cases h3 : i < 67 + 21
      · rw [if_pos h3, if_pos h3]
        show Value.int .u64 (if i - 67 < j then _ else 0) = Value.int .u64 (if i - 67 < j + 1 then _ else 0)
        by_cases h4 : i - 67 < j
        · rw [if_pos h4, if_pos (by omega)]
        · rw [if_neg h4, if_neg (by omega)]
      rw [if_neg h3, if_neg h3]; rfl
  · rw [if_neg (by omega), List.getElem?_eq_none (by rw [HD.len]; omega), List.getElem?_eq_none (by rw [HD.len]; omega)]
theorem hdI_splice (l : List Int) (k j : Nat) (hk : k < 4) (hl : 272 ≤ l.length) : splice ((hdI l k j).cells 21) (3 + 16 * k) (((l.drop (24 + 16 * k)).take 16).map (Value.int .u8)) = (hdI l (k + 1) j).cells 21 := by
  have hc : (((l.drop (24 + 16 * k)).take 16).map (Value.int .u8)).length = 16 := by simp; omega
  apply List.ext_getElem?
  intro i
  unfold splice
  rw [hc]
  by_cases hi : i < 91
  · rw [HD.get _ 21 i hi]
    by_cases h1 : i < 3 + 16 * k
    · rw [List.getElem?_append_left (by rw [List.length_take, HD.len]; omega), List.getElem?_take_of_lt h1, HD.get _ 21 i hi]
      congr 1
      unfold HD.at_
      by_cases h2 : i < 3
      · rw [if_pos h2, if_pos h2]; rfl
      · rw [if_neg h2, if_neg h2, if_pos (by omega), if_pos (by omega)]
        show Value.int .u8 (if i - 3 < 16 * k then _ else 0) = Value.int .u8 (if i - 3 < 16 * (k + 1) then _ else 0)
        rw [if_pos (by omega), if_pos (by omega)]
    · by_cases h2 : i < 19 + 16 * k
      · rw [List.getElem?_append_right (by rw [List.length_take, HD.len]; omega), List.length_take, HD.len, Nat.min_eq_left (by omega), List.getElem?_append_left (by rw [hc]; omega), List.getElem?_map, List.getElem?_take_of_lt (by omega), List.getElem?_drop, List.getElem?_eq_getElem (by omega)]
        unfold HD.at_
        rw [if_neg (by omega), if_pos (by omega)]
        show some (Value.int .u8 _) = some (Value.int .u8 (if i - 3 < 16 * (k + 1) then l.getD (24 + (i - 3)) 0 else 0))
        rw [if_pos (by omega), List.getD_eq_getElem?_getD, List.getElem?_eq_getElem (by omega)]
        simp only [Option.getD_some]
        congr 3
        omega
      · rw [List.getElem?_append_right (by rw [List.length_take, HD.len]; omega), List.length_take, HD.len, Nat.min_eq_left (by omega), List.getElem?_append_right (by rw [hc]; omega), hc, List.getElem?_drop, show 3 + 16 * k + 16 + (i - (3 + 16 * k) - 16) = i by omega, HD.get _ 21 i hi]
        congr 1
        unfold HD.at_
        have h0 : ¬ i < 3 := by omega
        rw [if_neg h0, if_neg h0]
        by_cases h3 : i < 67
        · rw [if_pos h3, if_pos h3]
          show Value.int .u8 (if i - 3 < 16 * k then _ else 0) = Value.int .u8 (if i - 3 < 16 * (k + 1) then _ else 0)
          rw [if_neg (by omega), if_neg (by omega)]
        · rw [if_neg h3, if_neg h3]; rfl
  · rw [List.getElem?_eq_none (by simp only [List.length_append, List.length_take, List.length_drop, HD.len, hc]; omega), List.getElem?_eq_none (by rw [HD.len]; omega)]
theorem hd_built (cp ic st ta ti te : Int) : Try.prog.built 40 [(0, .int .u32 cp), (1, .int .u32 ic), (2, .int .i64 st), (28, .int .u32 ta), (29, .int .u32 ti), (30, .int .u64 te)] = some ((⟨cp, ic, st, fun _ => 0, fun _ => 0, ta, ti, te⟩ : HD).cells 21).toArray := by kernel_rfl
theorem number_any (A : Option Addr) (l : List Int) (n c p k : Nat) (w : World) (hb : Bytes w A l) (hL : l.length = n) (hn : n ≤ 1000000) (hk : isW k = true) (hp : p + k ≤ n) :
    Calls Try.prog 51 #[.slice A n c, .int .i64 (p : Int), .int .i64 (k : Int)] w fun e w' => e = .returned (.int .u64 (leNum ((l.drop p).take k))) ∧ w = w' := by
  subst hL
  obtain ⟨h1, h2⟩ := isW_bd hk
  have HG := Lib.hid (get_yes A l c p k w (by omega) (by unfold fits; rw [hk]; simp; omega) hb (by omega) (by omega) hp)
  generalize leNum ((l.drop p).take k) = x at *
  clear hb
  go_enter Try.func51, Try.ntmps51
  go_wp2_with (go_at_call 47; ((with_reducible refine HG.out.mono ?_); rintro e w' ⟨rfl, rfl⟩))
  go_ret
  exact ⟨rfl, rfl⟩
end Go.Proofs.Ytekmbgcijkdkfaa.Gj
