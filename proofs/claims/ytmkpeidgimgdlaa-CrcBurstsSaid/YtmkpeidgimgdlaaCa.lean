/-
  What one byte's steps, and the sum going on over bytes, answer: the program's and the document's own; the sum of parts.
-/
import Derived.Test.YtmkpeidgimgdlaaCm
import Derived.Test.YtmkpeidgimgdlaaBlk
namespace Go.Proofs.Ytmkpeidgimgdlaa.Ca
open Go.ChangeShapes Go.WideShapes Go.ChangeAt Go.RowKit
open Bytes8 Blk8 LeNum Cm
set_option linter.unusedVariables false

theorem x32 (a b : Nat) (ha : a < 4294967296) (hb : b < 4294967296) : bits .xor .u32 (a : Int) (b : Int) = ((a ^^^ b : Nat) : Int) := u32_xor_nat a b ha hb
theorem num_cast (y : Nat) (c : Int) (hy : y < 4294967296) (h0 : 0 ≤ c) (h1 : c < 256) : bits .xor .u32 (y : Int) c = ((y ^^^ c.toNat : Nat) : Int) := by
  obtain ⟨c', rfl⟩ := Int.eq_ofNat_of_zero_le h0
  rw [x32 y c' hy (by omega)]; rfl
theorem not_cast (y : Nat) (hy : y < 4294967296) : bits .xor .u32 4294967295 (y : Int) = ((4294967295 ^^^ y : Nat) : Int) := x32 4294967295 y (by decide) hy
theorem xor_lt {a b : Nat} (ha : a < 4294967296) (hb : b < 4294967296) : a ^^^ b < 4294967296 := Nat.xor_lt_two_pow (n := 32) ha hb

theorem step_mul (y : Nat) (hy : y < 4294967296) : bits .xor .u32 ((y : Int) / 2) (2197175160 * bits .and .u32 (y : Int) 1 % 4294967296) = ((stp y : Nat) : Int) := by
  have h1 : bits .and .u32 (y : Int) ((1 : Nat) : Int) = ((y &&& 1 : Nat) : Int) := u32_and_nat y 1 hy (by decide)
  rw [show (1 : Int) = ((1 : Nat) : Int) from rfl, h1, Nat.and_one_is_mod]
  unfold stp
  have e : ((y : Int) / 2) = ((y / 2 : Nat) : Int) := by omega
  rw [e]
  rcases Nat.mod_two_eq_zero_or_one y with h | h
  · rw [h, if_neg (by decide)]
    exact (x32 (y / 2) 0 (by omega) (by decide)).trans (by rw [Nat.xor_zero])
  · rw [h, if_pos rfl]
    exact x32 (y / 2) 2197175160 (by omega) (by decide)
theorem step_odd (y : Nat) (hy : y < 4294967296) (h : y % 2 = 1) : bits .xor .u32 ((y : Int) / 2) 2197175160 = ((stp y : Nat) : Int) := by
  have e : ((y : Int) / 2) = ((y / 2 : Nat) : Int) := by omega
  unfold stp
  rw [e, if_pos h]
  exact x32 (y / 2) 2197175160 (by omega) (by decide)
theorem step_even (y : Nat) (h : ¬ y % 2 = 1) : (y : Int) / 2 = ((stp y : Nat) : Int) := by
  unfold stp
  rw [if_neg h]
  omega
theorem ret_u32 {a b : Int} (h : a = b) : Value.int .u32 a = .int .u32 b := by rw [h]

theorem divided_any (x : Nat) (w : World) (hx : x < 4294967296) :
    Calls Try.prog 45 #[.int .u32 (x : Int)] w fun e w' => e = .returned (.int .u32 (stps 8 x : Nat)) ∧ w = w' := by
  go_enter Try.func45, Try.ntmps45
  go_wp2
  go_loop [0, 3] (fun s i => ∃ k : Nat, k ≤ 8 ∧ i = .int .i64 k ∧ s = .int .u32 (stps k x : Nat)) (fun _ i => 8 - (intOf i).toNat)
  case atStart => exact ⟨0, Nat.zero_le _, rfl, rfl⟩
  case round =>
    obtain ⟨k, hk, rfl, rfl⟩ := hrel
    by_cases hlt : k < 8
    · have hd : decide (k < 8) = true := by simpa using hlt
      have hS : stps (k + 1) x = stp (stps k x) := rfl
      have HS := Lib.hid hS
      have hb := stps_lt hx k
      clear hS
      generalize stps k x = y at *
      go_wp2
      go_round
      case rel => exact ⟨k + 1, by omega, by go_num, ret_u32 (by rw [HS.out]; exact step_mul y hb)⟩
      case measure => simp [intOf]; omega
    · obtain rfl : k = 8 := by omega
      have hd : decide (8 < 8) = false := rfl
      go_wp2
      go_ret
      exact ⟨rfl, rfl⟩

theorem more_any (s : Nat) (A : Option Addr) (l : List Int) (len cap : Nat) (w : World) (hs : s < 4294967296) (hb : Bytes w A l) (hL : l.length = len) (hmax : len ≤ 1000000) :
    Calls Try.prog 27 #[.int .u32 (s : Int), .slice A len cap] w fun e w' => e = .returned (.int .u32 (crc s l : Nat)) ∧ w = w' := by
  have HN := Lib.hid (not_cast s hs)
  have HB := Lib.hid hb
  have HL := Lib.hid hL
  have hs2 : 4294967295 ^^^ s < 4294967296 := xor_lt (by decide) hs
  have HC := Lib.hid (show crc s l = 4294967295 ^^^ raw (4294967295 ^^^ s) l from rfl)
  clear hb hL
  generalize 4294967295 ^^^ s = z at *
  go_enter Try.func27, Try.ntmps27
  go_wp2
  go_loop [0, 11] (fun v i => ∃ k : Nat, k ≤ len ∧ i = .int .i64 k ∧ v = .int .u32 (raw z (l.take k) : Nat)) (fun _ i => len - (intOf i).toNat)
  case atStart => exact ⟨0, Nat.zero_le _, rfl, ret_u32 HN.out⟩
  case round =>
    obtain ⟨k, hk, rfl, rfl⟩ := hrel
    have hr := raw_lt hs2 (l.take k) (HB.out.1.take k)
    by_cases hlt : k < len
    · have hd : decide (k < len) = true := by simpa using hlt
      obtain ⟨b, off, rfl, hbl, hc⟩ := HB.out.2 k (by rw [HL.out]; exact hlt)
      obtain ⟨c0, c1⟩ := HB.out.1.at_ k
      have hT : raw z (l.take (k + 1)) = stps 8 (raw z (l.take k) ^^^ (l.getD k 0).toNat) := by rw [take_snoc l k (by rw [HL.out]; exact hlt), raw_snoc]
      have HT := Lib.hid hT
      generalize raw z (l.take k) = y at *
      generalize l.getD k 0 = c at *
      have HX := Lib.hid (num_cast y c hr c0 c1)
      have HD := Lib.hid (divided_any (y ^^^ c.toNat) w (xor_lt hr (by omega)))
      clear hT
      go_wp2_with (go_at_call 45; rw [HX.out]; (with_reducible refine HD.out.mono ?_); rintro e w' ⟨rfl, rfl⟩)
      go_round
      case rel => exact ⟨k + 1, by omega, by go_num, ret_u32 (by rw [HT.out])⟩
      case measure => simp [intOf]; omega
    · obtain rfl : k = len := by omega
      have hd : decide (k < k) = false := by simp
      have HT := Lib.hid (show l.take k = l from List.take_of_length_le (by rw [HL.out]; exact Nat.le_refl _))
      go_wp2
      go_ret
      exact ⟨ret_int (by rw [HT.out] at hr ⊢; rw [HC.out]; exact not_cast _ hr), rfl⟩

theorem rmore_any (s : Nat) (A : Option Addr) (l : List Int) (len cap : Nat) (w : World) (hs : s < 4294967296) (hb : Bytes w A l) (hL : l.length = len) (hmax : len ≤ 1000000) :
    Calls Try.prog 26 #[.int .u32 (s : Int), .slice A len cap] w fun e w' => e = .returned (.int .u32 (crc s l : Nat)) ∧ w = w' := by
  have HN := Lib.hid (not_cast s hs)
  have HB := Lib.hid hb
  have HL := Lib.hid hL
  have hs2 : 4294967295 ^^^ s < 4294967296 := xor_lt (by decide) hs
  have HC := Lib.hid (show crc s l = 4294967295 ^^^ raw (4294967295 ^^^ s) l from rfl)
  clear hb hL
  generalize 4294967295 ^^^ s = z at *
  go_enter Try.func26, Try.ntmps26
  go_wp2
  go_loop [0, 5] (fun v i => ∃ k : Nat, k ≤ len ∧ i = .int .i64 k ∧ v = .int .u32 (raw z (l.take k) : Nat)) (fun _ i => len - (intOf i).toNat)
  case atStart => exact ⟨0, Nat.zero_le _, rfl, ret_u32 HN.out⟩
  case round =>
    obtain ⟨k, hk, rfl, rfl⟩ := hrel
    have hr := raw_lt hs2 (l.take k) (HB.out.1.take k)
    by_cases hlt : k < len
    · have hd : decide (k < len) = true := by simpa using hlt
      obtain ⟨b, off, rfl, hbl, hc⟩ := HB.out.2 k (by rw [HL.out]; exact hlt)
      obtain ⟨c0, c1⟩ := HB.out.1.at_ k
      have hT : raw z (l.take (k + 1)) = stps 8 (raw z (l.take k) ^^^ (l.getD k 0).toNat) := by rw [take_snoc l k (by rw [HL.out]; exact hlt), raw_snoc]
      have HT := Lib.hid hT
      generalize raw z (l.take k) = y at *
      generalize l.getD k 0 = c at *
      have HX := Lib.hid (num_cast y c hr c0 c1)
      have hx : y ^^^ c.toNat < 4294967296 := xor_lt hr (by omega)
      clear hT
      go_wp2
      rw [HX.out]
      generalize y ^^^ c.toNat = x at *
      go_loop [0, 6] (fun v i => ∃ j : Nat, j ≤ 8 ∧ i = .int .i64 j ∧ v = .int .u32 (stps j x : Nat)) (fun _ i => 8 - (intOf i).toNat)
      case atStart => exact ⟨0, Nat.zero_le _, rfl, rfl⟩
      case round =>
        obtain ⟨j, hj, rfl, rfl⟩ := hrel
        have hxj := stps_lt hx j
        by_cases hj8 : j < 8
        · have hd8 : decide (j < 8) = true := by simpa using hj8
          have HS := Lib.hid (show stps (j + 1) x = stp (stps j x) from rfl)
          generalize stps j x = u at *
          rcases Nat.mod_two_eq_zero_or_one u with hu | hu
          · have hq : (((u : Int) % 2) == 1) = false := by simp; omega
            have HE := Lib.hid (step_even u (by omega))
            clear hu
            go_wp2
            go_round
            case rel => exact ⟨j + 1, by omega, by go_num, ret_u32 (by rw [HS.out]; exact HE.out)⟩
            case measure => simp [intOf]; omega
          · have hq : (((u : Int) % 2) == 1) = true := by simp; omega
            have HE := Lib.hid (step_odd u hxj hu)
            clear hu
            go_wp2
            go_round
            case rel => exact ⟨j + 1, by omega, by go_num, ret_u32 (by rw [HS.out]; exact HE.out)⟩
            case measure => simp [intOf]; omega
        · obtain rfl : j = 8 := by omega
          have hd8 : decide (8 < 8) = false := rfl
          go_wp2
          go_round
          case rel => exact ⟨k + 1, by omega, by go_num, ret_u32 (by rw [HT.out])⟩
          case measure => simp [intOf]; omega
    · obtain rfl : k = len := by omega
      have hd : decide (k < k) = false := by simp
      have HT := Lib.hid (show l.take k = l from List.take_of_length_le (by rw [HL.out]; exact Nat.le_refl _))
      go_wp2
      go_ret
      exact ⟨ret_int (by rw [HT.out] at hr ⊢; rw [HC.out]; exact not_cast _ hr), rfl⟩

/-- So many slices of bytes can be read from an address on. -/
def Parts (w : World) (A : Option Addr) (ls : List (List Int)) : Prop :=
  ∀ i, i < ls.length → ∃ b off a n c, A = some ⟨b, off, none⟩ ∧ b < w.heap.size ∧ w.cell? ⟨b, off + i, none⟩ = some (.slice a n c) ∧ Bytes w a (ls.getD i []) ∧ (ls.getD i []).length = n ∧ n ≤ 1000000
theorem Parts.nil (w : World) (A : Option Addr) : Parts w A [] := fun i hi => absurd hi (by simp)
theorem flat_snoc (ls : List (List Int)) (k : Nat) (h : k < ls.length) : (ls.take (k + 1)).flatten = (ls.take k).flatten ++ ls.getD k [] := by
  rw [List.take_succ_eq_append_getElem h, List.flatten_append]
  congr 1
  simp [List.getD_eq_getElem?_getD, List.getElem?_eq_getElem h]
theorem flat_all {ls : List (List Int)} (h : ∀ i, i < ls.length → AllB (ls.getD i [])) : AllB ls.flatten := fun n hn => by
  obtain ⟨m, hm, hn2⟩ := List.mem_flatten.1 hn
  obtain ⟨i, hi, rfl⟩ := List.getElem_of_mem hm
  have := h i hi n
  rw [List.getD_eq_getElem?_getD, List.getElem?_eq_getElem hi] at this
  exact this hn2
theorem Parts.all {w : World} {A : Option Addr} {ls : List (List Int)} (h : Parts w A ls) : AllB ls.flatten := flat_all fun i hi => by
  obtain ⟨b, off, a, n, c, _, _, _, hb, _⟩ := h i hi
  exact hb.1
theorem flat_take (ls : List (List Int)) (k : Nat) {x : Int} (h : x ∈ (ls.take k).flatten) : x ∈ ls.flatten := by
  obtain ⟨m, hm, hx⟩ := List.mem_flatten.1 h
  exact List.mem_flatten.2 ⟨m, List.mem_of_mem_take hm, hx⟩

theorem sum_any (A : Option Addr) (ls : List (List Int)) (len cap : Nat) (w : World) (hp : Parts w A ls) (hL : ls.length = len) (hmax : len ≤ 1000000) :
    Calls Try.prog 25 #[.slice A len cap] w fun e w' => e = .returned (.int .u32 (crc 0 ls.flatten : Nat)) ∧ w = w' := by
  have HP := Lib.hid hp
  have HL := Lib.hid hL
  clear hp hL
  go_enter Try.func25, Try.ntmps25
  go_wp2
  go_loop [3, 8] (fun v i => ∃ k : Nat, k ≤ len ∧ i = .int .i64 k ∧ v = .int .u32 (crc 0 (ls.take k).flatten : Nat)) (fun _ i => len - (intOf i).toNat)
  case atStart => exact ⟨0, Nat.zero_le _, rfl, ret_u32 (by rw [List.take_zero, List.flatten_nil, crc_nil]; rfl)⟩
  case round =>
    obtain ⟨k, hk, rfl, rfl⟩ := hrel
    have hr := crc_lt (s := 0) (by decide) (ls.take k).flatten (HP.out.all.sub fun x hx => flat_take ls k hx)
    by_cases hlt : k < len
    · have hd : decide (k < len) = true := by simpa using hlt
      obtain ⟨b, off, a, n, c, rfl, hbl, hc, hb, hn, hn2⟩ := HP.out k (by rw [HL.out]; exact hlt)
      have HT := Lib.hid (show crc 0 (ls.take (k + 1)).flatten = crc (crc 0 (ls.take k).flatten) (ls.getD k []) by rw [flat_snoc ls k (by rw [HL.out]; exact hlt), crc_app])
      generalize crc 0 (ls.take k).flatten = y at *
      generalize ls.getD k [] = m at *
      have HM := Lib.hid (more_any y a m n c w hr hb hn hn2)
      clear hb hn
      go_wp2_with (go_at_call 27; (with_reducible refine HM.out.mono ?_); rintro e w' ⟨rfl, rfl⟩)
      go_round
      case rel => exact ⟨k + 1, by omega, by go_num, ret_u32 (by rw [HT.out])⟩
      case measure => simp [intOf]; omega
    · obtain rfl : k = len := by omega
      have hd : decide (k < k) = false := by simp
      have HT := Lib.hid (show ls.take k = ls from List.take_of_length_le (by rw [HL.out]; exact Nat.le_refl _))
      go_wp2
      go_ret
      exact ⟨ret_int (by rw [HT.out]), rfl⟩
end Go.Proofs.Ytmkpeidgimgdlaa.Ca
