/-
  What 'Read' tells of a place; the program's.
-/
import Derived.Test.YteggjmnmlmhkfaaOe
namespace Go.Proofs.Yteggjmnmlmhkfaa.Og
open Go.ChangeShapes Go.WideShapes Go.ChangeAt Go.RowKit
open Bytes8 Blk8 Own8 OwnM OwnE LeA LeAl LeNum LeB LeP RefA RefB Ob Oc Od
set_option linter.unusedVariables false
set_option maxRecDepth 100000
set_option linter.unusedSimpArgs false

theorem sliced_one_u (t : TypeId) (A : Option Addr) (len cap lo hi : Nat) (w : World) (hs : (sizeOf (Try.prog.elem t)).run Try.prog w = .ok 1 w) (ht : Try.prog.underlying t = some (.slice (Try.prog.elem t))) (h1 : lo ≤ hi) (h2 : hi ≤ cap) :
    (Instr.slice t (.slice A len cap) (some (.int .u64 lo)) (some (.int .u64 hi)) none).run Try.prog w = .ok (.slice (cutA A cap lo) (hi - lo) (cap - lo)) w := by
  rw [run_slice_lh w t A len cap ht .u64 .u64 lo hi (by omega) (by omega) (by omega), hs]
  simp [Result.andThen, sliced, cutA]
theorem sliced_low_u (t : TypeId) (A : Option Addr) (len cap lo : Nat) (w : World) (hs : (sizeOf (Try.prog.elem t)).run Try.prog w = .ok 1 w) (ht : Try.prog.underlying t = some (.slice (Try.prog.elem t))) (h1 : lo ≤ len) :
    (Instr.slice t (.slice A len cap) (some (.int .u64 lo)) none none).run Try.prog w = .ok (.slice (cutA A cap lo) (len - lo) (cap - lo)) w := by
  rw [run_slice_l w t A len cap ht .u64 lo (by omega) (by omega), hs]
  simp [Result.andThen, sliced, cutA]
/-- 's[lo:hi]', 's[lo:]' of bytes by numbers without a sign. -/
theorem cutu_lh (A : Option Addr) (len cap lo hi : Nat) (L H : Int) (hL : L = (lo : Int)) (hH : H = (hi : Int)) (h1 : lo ≤ hi) (h2 : hi ≤ cap) (w : World) :
    (Instr.slice 22 (.slice A len cap) (some (.int .u64 L)) (some (.int .u64 H)) none).run Try.prog w = .ok (.slice (cutA A cap lo) (hi - lo) (cap - lo)) w := by
  subst hL hH
  exact sliced_one_u _ A len cap lo hi w (by rw [elem8]; exact sizeof8 w) (by rw [elem8]; exact Try.underlying22) h1 h2
theorem cutu_l (A : Option Addr) (len cap lo : Nat) (h1 : lo ≤ len) (w : World) :
    (Instr.slice 22 (.slice A len cap) (some (.int .u64 lo)) none none).run Try.prog w = .ok (.slice (cutA A cap lo) (len - lo) (cap - lo)) w :=
  sliced_low_u _ A len cap lo w (by rw [elem8]; exact sizeof8 w) (by rw [elem8]; exact Try.underlying22) h1

abbrev frV (k s : Int) : Value := .agg #[.int .i64 k, .int .i64 0, .int .u64 s]
/-- What Read tells. -/
def FrTold (k s c : Int) (w : World) (e : Ending) (w' : World) : Prop := e = .returned (.tuple #[frV k s, .int .i64 c]) ∧ Below w.heap.size w w'

theorem getNo8 (a : Option Addr) (n cap : Nat) (w : World) (h : n < 16) :
    Calls Try.prog 44 #[.slice a n cap, .int .i64 8, .int .i64 8] w fun e w' => e = .returned (.tuple #[.int .u64 0, .bool false]) ∧ w = w' :=
  get_no a n cap 8 8 w (by omega) (by simp [fits, isW]; omega)

set_option maxHeartbeats 4000000 in
theorem read_any (A : Option Addr) (l : List Int) (n cap a : Nat) (w : World) (hb : Bytes w A l) (hL : l.length = n) (hn : n ≤ 1000000) (hc : n ≤ cap) (hcm : cap ≤ maxLen) (ha : a ≤ 18446744073709551615) :
    Calls Try.prog 43 #[.slice A n cap, .int .u64 (a : Int)] w (FrTold (kindL l a) (sizeL l a) (code l a) w) := by
  have b0 : Below w.heap.size w (w.alloc (.cells #[.int .i64 0, .int .i64 0, .int .u64 0] 94)) := (Below.refl w.heap.size w).alloc (Nat.le_refl _) _
  have HB0 := Lib.hid b0
  unfold maxLen at hcm
  have HK : Hid (kindL l a = if code l a = 0 then l.getD a 0 else 0) := Lib.hid rfl
  have HS : Hid (sizeL l a = if code l a = 0 then u8 l (a + 8) else 0) := Lib.hid rfl
  have no : ∀ c : Int, c ≠ 0 → code l a = c → kindL l a = 0 ∧ sizeL l a = 0 := fun c h0 h => ⟨HK.out.trans (if_neg (by omega)), HS.out.trans (if_neg (by omega))⟩
  have HA := Lib.hid hb.1
  by_cases h1 : a % 8 ≠ 0
  · have hcd : code l a = 3 := by unfold code; rw [if_pos h1]
    obtain ⟨e1, e2⟩ := no 3 (by decide) hcd
    rw [hcd, e1, e2]
    have h1' : ¬ (a : Int) % 8 = 0 := by omega
    clear hb no HK HS hcd e1 e2 hL h1
    go_enter Try.func43, Try.ntmps43
    go_wp2
    refine bodyPost_ret (v := .tuple #[frV 0 0, .int .i64 3]) (by simp [results_cell_tmp Try.results43, go_sem, Result.andThen]) rfl ⟨rfl, ?_⟩
    (repeat (first | (with_reducible exact HB0.out) | (with_reducible exact Below.refl _ _) | refine Below.setCell ?_ (by simp) _ | refine Below.alloc ?_ (by simp) _ | refine Below.drew ?_ | refine below_drewN ?_ _))
  have h1' : (a : Int) % 8 = 0 := by omega
  by_cases h2 : n < a + 16
  · have hcd : code l a = 2 := by unfold code; rw [if_neg h1, if_pos (by omega)]
    obtain ⟨e1, e2⟩ := no 2 (by decide) hcd
    rw [hcd, e1, e2]
    by_cases h3 : n < a
    · clear hb no HK HS hcd e1 e2 hL h1
      go_enter Try.func43, Try.ntmps43
      go_wp2
      refine bodyPost_ret (v := .tuple #[frV 0 0, .int .i64 2]) (by simp [results_cell_tmp Try.results43, go_sem, Result.andThen]) rfl ⟨rfl, ?_⟩
      (repeat (first | (with_reducible exact HB0.out) | (with_reducible exact Below.refl _ _) | refine Below.setCell ?_ (by simp) _ | refine Below.alloc ?_ (by simp) _ | refine Below.drew ?_ | refine below_drewN ?_ _))
    · have hcut := cutu_l A n cap a (by omega)
      have HG := Lib.hid fun (W : World) => getNo8 (cutA A cap a) (n - a) (cap - a) W (by omega)
      generalize cutA A cap a = C at *
      clear hb no HK HS hcd e1 e2 hL h1
      go_enter Try.func43, Try.ntmps43
      go_wp2_with (go_at_call 44; (with_reducible refine (HG.out _).mono ?_); rintro e w' ⟨rfl, rfl⟩)
      refine bodyPost_ret (v := .tuple #[frV 0 0, .int .i64 2]) (by simp [results_cell_tmp Try.results43, go_sem, Result.andThen]) rfl ⟨rfl, ?_⟩
      (repeat (first | (with_reducible exact HB0.out) | (with_reducible exact Below.refl _ _) | refine Below.setCell ?_ (by simp) _ | refine Below.alloc ?_ (by simp) _ | refine Below.drew ?_ | refine below_drewN ?_ _))
  obtain ⟨b, off, rfl, hlt, hcell⟩ := hb.spot (by omega)
  have hcut := cutu_l (some ⟨b, off, none⟩) n cap a (by omega)
  have HBC := Lib.hid (Bytes.cut hb cap a (n - a) (by omega))
  rw [cutA_some, if_neg (by omega)] at hcut HBC
  have HLd : Hid (((l.drop a).take (n - a)).length = n - a) := Lib.hid (by simp; omega)
  have hu8 : u8 ((l.drop a).take (n - a)) 8 = u8 l (a + 8) := by
    have e : (l.drop a).take (n - a) = l.drop a := List.take_of_length_le (by simp; omega)
    unfold u8
    rw [e, List.drop_drop]
  have HG := Lib.hid fun (W : World) (h : Below w.heap.size w W) => get8 (some ⟨b, off + a, none⟩) _ (n - a) (cap - a) 8 8 W rfl HLd.out (by omega) (HBC.out.below h (Nat.le_refl _)) (by omega)
  rw [hu8] at HG
  have hk0 := hcell a (by omega)
  have hk1 := hcell (a + 1) (by omega)
  rw [← Nat.add_assoc] at hk1
  obtain ⟨ub0, ub1⟩ := u8_bd hb.1 (a + 8)
  obtain ⟨kb0, kb1⟩ := hb.1.at_ a
  obtain ⟨fb0, fb1⟩ := hb.1.at_ (a + 1)
  have hcode : code l a = if l.getD a 0 < 1 ∨ 7 < l.getD a 0 then 4 else if l.getD (a + 1) 0 ≠ 0 then 7 else if u8 l (a + 8) < 16 then 5 else if (n : Int) < a + u8 l (a + 8) then 2 else 0 := by
    unfold code
    rw [if_neg h1, if_neg (by omega), hL]
  have HKi := Lib.hid fun (W : World) => isKind_any (l.getD a 0) W
  generalize u8 l (a + 8) = s at *
  generalize l.getD a 0 = k at *
  generalize l.getD (a + 1) 0 = f at *
  have h2' : a + 16 ≤ n := by omega
  have hn0 : 0 < n - a := by omega
  have hn1 : 1 < n - a := by omega
  have hn2 : (1 : Int) < ((n - a : Nat) : Int) := by omega
  have hb0 : b < (w.alloc (.cells #[.int .i64 0, .int .i64 0, .int .u64 0] 94)).heap.size := by simp; omega
  clear HBC HLd hb hcell hL h1 h2 hu8
  by_cases h3 : k < 1 ∨ 7 < k
  · have hcd : code l a = 4 := by rw [hcode, if_pos h3]
    obtain ⟨e1, e2⟩ := no 4 (by decide) hcd
    rw [hcd, e1, e2]
    have hkd : (decide (1 ≤ k) && decide (k ≤ 7)) = false := by simp; omega
    rw [hkd] at HKi
    clear hkd h3
    clear no HK HS hcd e1 e2 hcode
    go_enter Try.func43, Try.ntmps43
    go_wp2_with (go_at_call 44; (with_reducible refine (HG.out _ HB0.out).mono ?_); rintro e w' ⟨rfl, rfl⟩)
    go_region
    all_goals
      go_wp2_with (go_at_call 48; (with_reducible refine (HKi.out _).mono ?_); rintro e w' ⟨rfl, rfl⟩)
      refine bodyPost_ret (v := .tuple #[frV 0 0, .int .i64 4]) (by simp [results_cell_tmp Try.results43, go_sem, Result.andThen]) rfl ⟨rfl, ?_⟩
      (repeat (first | (with_reducible exact HB0.out) | (with_reducible exact Below.refl _ _) | refine Below.setCell ?_ (by simp) _ | refine Below.alloc ?_ (by simp) _ | refine Below.drew ?_ | refine below_drewN ?_ _))
  have hkd : (decide (1 ≤ k) && decide (k ≤ 7)) = true := by simp; omega
  rw [hkd] at HKi
  by_cases h4 : f ≠ 0
  · have hcd : code l a = 7 := by rw [hcode, if_neg h3, if_pos h4]
    obtain ⟨e1, e2⟩ := no 7 (by decide) hcd
    rw [hcd, e1, e2]
    clear hkd h3
    clear no HK HS hcd e1 e2 hcode
    go_enter Try.func43, Try.ntmps43
    go_wp2_with (go_at_call 44; (with_reducible refine (HG.out _ HB0.out).mono ?_); rintro e w' ⟨rfl, rfl⟩)
    go_region
    all_goals
      go_wp2_with (go_at_call 48; (with_reducible refine (HKi.out _).mono ?_); rintro e w' ⟨rfl, rfl⟩)
      refine bodyPost_ret (v := .tuple #[frV 0 0, .int .i64 7]) (by simp [results_cell_tmp Try.results43, go_sem, Result.andThen]) rfl ⟨rfl, ?_⟩
      (repeat (first | (with_reducible exact HB0.out) | (with_reducible exact Below.refl _ _) | refine Below.setCell ?_ (by simp) _ | refine Below.alloc ?_ (by simp) _ | refine Below.drew ?_ | refine below_drewN ?_ _))
  by_cases h5 : s < 16
  · have hcd : code l a = 5 := by rw [hcode, if_neg h3, if_neg h4, if_pos h5]
    obtain ⟨e1, e2⟩ := no 5 (by decide) hcd
    rw [hcd, e1, e2]
    have h4' : f = 0 := by omega
    subst h4'
    clear hkd h3 h4
    clear no HK HS hcd e1 e2 hcode
    go_enter Try.func43, Try.ntmps43
    go_wp2_with (go_at_call 44; (with_reducible refine (HG.out _ HB0.out).mono ?_); rintro e w' ⟨rfl, rfl⟩)
    go_region
    all_goals
      go_wp2_with (go_at_call 48; (with_reducible refine (HKi.out _).mono ?_); rintro e w' ⟨rfl, rfl⟩)
      refine bodyPost_ret (v := .tuple #[frV 0 0, .int .i64 5]) (by simp [results_cell_tmp Try.results43, go_sem, Result.andThen]) rfl ⟨rfl, ?_⟩
      (repeat (first | (with_reducible exact HB0.out) | (with_reducible exact Below.refl _ _) | refine Below.setCell ?_ (by simp) _ | refine Below.alloc ?_ (by simp) _ | refine Below.drew ?_ | refine below_drewN ?_ _))
  by_cases h6 : (n : Int) < a + s
  · have hcd : code l a = 2 := by rw [hcode, if_neg h3, if_neg h4, if_neg h5, if_pos h6]
    obtain ⟨e1, e2⟩ := no 2 (by decide) hcd
    rw [hcd, e1, e2]
    have h4' : f = 0 := by omega
    have h6' : ((n - a : Nat) : Int) < s := by omega
    subst h4'
    clear hkd h3 h4 h6
    clear no HK HS hcd e1 e2 hcode
    go_enter Try.func43, Try.ntmps43
    go_wp2_with (go_at_call 44; (with_reducible refine (HG.out _ HB0.out).mono ?_); rintro e w' ⟨rfl, rfl⟩)
    go_region
    all_goals
      go_wp2_with (go_at_call 48; (with_reducible refine (HKi.out _).mono ?_); rintro e w' ⟨rfl, rfl⟩)
      refine bodyPost_ret (v := .tuple #[frV 0 0, .int .i64 2]) (by simp [results_cell_tmp Try.results43, go_sem, Result.andThen]) rfl ⟨rfl, ?_⟩
      (repeat (first | (with_reducible exact HB0.out) | (with_reducible exact Below.refl _ _) | refine Below.setCell ?_ (by simp) _ | refine Below.alloc ?_ (by simp) _ | refine Below.drew ?_ | refine below_drewN ?_ _))
  · have hcd : code l a = 0 := by rw [hcode, if_neg h3, if_neg h4, if_neg h5, if_neg h6]
    have e1 := HK.out.trans (if_pos hcd)
    have e2 := HS.out.trans (if_pos hcd)
    rw [hcd, e1, e2]
    have h4' : f = 0 := by omega
    have h6' : ¬ ((n - a : Nat) : Int) < s := by omega
    subst h4'
    clear hkd h3 h4 h6 no HK HS hcd e1 e2 hcode
    go_enter Try.func43, Try.ntmps43
    go_wp2_with (go_at_call 44; (with_reducible refine (HG.out _ HB0.out).mono ?_); rintro e w' ⟨rfl, rfl⟩)
    go_region
    all_goals
      go_wp2_with (go_at_call 48; (with_reducible refine (HKi.out _).mono ?_); rintro e w' ⟨rfl, rfl⟩)
      refine bodyPost_ret (v := .tuple #[frV k s, .int .i64 0]) (by simp [results_cell_tmp Try.results43, go_sem, Result.andThen]) rfl ⟨rfl, ?_⟩
      (repeat (first | (with_reducible exact HB0.out) | (with_reducible exact Below.refl _ _) | refine Below.setCell ?_ (by simp) _ | refine Below.alloc ?_ (by simp) _ | refine Below.drew ?_ | refine below_drewN ?_ _))
end Go.Proofs.Yteggjmnmlmhkfaa.Og
