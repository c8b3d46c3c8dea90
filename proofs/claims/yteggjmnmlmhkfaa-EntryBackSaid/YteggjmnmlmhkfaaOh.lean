/-
  What the document's 'Read' tells of a place.
-/
import Derived.Test.YteggjmnmlmhkfaaOg
import Derived.Deep.RegionHeld3
import Derived.IntWalk
namespace Go.Proofs.Yteggjmnmlmhkfaa.Oh
open Go.ChangeShapes Go.WideShapes Go.ChangeAt Go.RowKit
open Bytes8 Blk8 Own8 OwnM OwnE LeA LeAl LeNum LeB LeP RefA RefB Ob Oc Od Og
set_option linter.unusedVariables false
set_option maxRecDepth 100000
set_option linter.unusedSimpArgs false


set_option maxHeartbeats 4000000 in
theorem rread_any (A : Option Addr) (l : List Int) (n cap a : Nat) (w : World) (hb : Bytes w A l) (hL : l.length = n) (hn : n ≤ 1000000) (ha : a ≤ 18446744073709551615) :
    Calls Try.prog 45 #[.slice A n cap, .int .u64 (a : Int)] w (FrTold (kindL l a) (sizeL l a) (code l a) w) := by
  have b0 : Below w.heap.size w (w.alloc (.cells #[.int .i64 0, .int .i64 0, .int .u64 0] 99)) := (Below.refl w.heap.size w).alloc (Nat.le_refl _) _
  have HB0 := Lib.hid b0
  have HK : Hid (kindL l a = if code l a = 0 then l.getD a 0 else 0) := Lib.hid rfl
  have HS : Hid (sizeL l a = if code l a = 0 then u8 l (a + 8) else 0) := Lib.hid rfl
  have no : ∀ c : Int, c ≠ 0 → code l a = c → kindL l a = 0 ∧ sizeL l a = 0 := fun c h0 h => ⟨HK.out.trans (if_neg (by omega)), HS.out.trans (if_neg (by omega))⟩
  have HA := Lib.hid hb.1
  by_cases h1 : a % 8 ≠ 0
  · have hcd : code l a = 3 := by unfold code; rw [if_pos h1]
    obtain ⟨e1, e2⟩ := no 3 (by decide) hcd
    rw [hcd, e1, e2]
    have h1' : ¬ (a : Int) % 8 = 0 := by omega
    clear hb no HK HS hcd e1 e2 hL h1
    go_enter Try.func45, Try.ntmps45
    go_wp2
    refine bodyPost_ret (v := .tuple #[frV 0 0, .int .i64 3]) (by simp [results_cell_tmp Try.results45, go_sem, Result.andThen]) rfl ⟨rfl, ?_⟩
    (repeat (first | (with_reducible exact HB0.out) | (with_reducible exact Below.refl _ _) | refine Below.setCell ?_ (by simp) _ | refine Below.alloc ?_ (by simp) _ | refine Below.drew ?_ | refine below_drewN ?_ _))
  have h1' : (a : Int) % 8 = 0 := by omega
  by_cases h2 : n < a + 16
  · have hcd : code l a = 2 := by unfold code; rw [if_neg h1, if_pos (by omega)]
    obtain ⟨e1, e2⟩ := no 2 (by decide) hcd
    rw [hcd, e1, e2]
    by_cases h3 : n < a
    · have h3' : (n : Int) < (a : Int) := by omega
      clear hb no HK HS hcd e1 e2 hL h1
      go_enter Try.func45, Try.ntmps45
      go_wp2
      refine bodyPost_ret (v := .tuple #[frV 0 0, .int .i64 2]) (by simp [results_cell_tmp Try.results45, go_sem, Result.andThen]) rfl ⟨rfl, ?_⟩
      (repeat (first | (with_reducible exact HB0.out) | (with_reducible exact Below.refl _ _) | refine Below.setCell ?_ (by simp) _ | refine Below.alloc ?_ (by simp) _ | refine Below.drew ?_ | refine below_drewN ?_ _))
    · have h3' : ¬ (n : Int) < (a : Int) := by omega
      have h3'' : (n : Int) - (a : Int) < 16 := by omega
      clear hb no HK HS hcd e1 e2 hL h1
      go_enter Try.func45, Try.ntmps45
      go_wp2
      refine bodyPost_ret (v := .tuple #[frV 0 0, .int .i64 2]) (by simp [results_cell_tmp Try.results45, go_sem, Result.andThen]) rfl ⟨rfl, ?_⟩
      (repeat (first | (with_reducible exact HB0.out) | (with_reducible exact Below.refl _ _) | refine Below.setCell ?_ (by simp) _ | refine Below.alloc ?_ (by simp) _ | refine Below.drew ?_ | refine below_drewN ?_ _))
  have HU := Lib.hid fun (z : Int) (W : World) (h : Below w.heap.size w W) (hz : z = ((a + 8 : Nat) : Int)) => hz ▸ ru_any A l n cap (a + 8) W (hb.below h (Nat.le_refl _)) hL (by omega) (by omega)
  obtain ⟨b, off, rfl, hlt, hcell⟩ := hb.spot (by omega)
  have hk0 := hcell a (by omega)
  have hk1 := hcell (a + 1) (by omega)
  obtain ⟨ub0, ub1⟩ := u8_bd hb.1 (a + 8)
  obtain ⟨kb0, kb1⟩ := hb.1.at_ a
  obtain ⟨fb0, fb1⟩ := hb.1.at_ (a + 1)
  have hcode : code l a = if l.getD a 0 < 1 ∨ 7 < l.getD a 0 then 4 else if l.getD (a + 1) 0 ≠ 0 then 7 else if u8 l (a + 8) < 16 then 5 else if (n : Int) < a + u8 l (a + 8) then 2 else 0 := by
    unfold code
    rw [if_neg h1, if_neg (by omega), hL]
  generalize u8 l (a + 8) = s at *
  generalize l.getD a 0 = k at *
  generalize l.getD (a + 1) 0 = f at *
  have h2' : a + 16 ≤ n := by omega
  have hn0 : (a : Int) < (n : Int) := by omega
  have hn1 : (a : Int) + 1 < (n : Int) := by omega
  have hn3 : ¬ (n : Int) < (a : Int) := by omega
  have hn4 : ¬ (n : Int) - (a : Int) < 16 := by omega
  clear hb hcell hL h1 h2
  by_cases h3 : k < 1
  · have hcd : code l a = 4 := by rw [hcode, if_pos (Or.inl h3)]
    obtain ⟨e1, e2⟩ := no 4 (by decide) hcd
    rw [hcd, e1, e2]
    clear no HK HS hcd e1 e2 hcode
    go_enter Try.func45, Try.ntmps45
    go_wp2_with (go_at_call 34; (with_reducible refine (HU.out _ _ HB0.out (by omega)).mono ?_); rintro e w' ⟨rfl, rfl⟩)
    refine bodyPost_ret (v := .tuple #[frV 0 0, .int .i64 4]) (by simp [results_cell_tmp Try.results45, go_sem, Result.andThen]) rfl ⟨rfl, ?_⟩
    (repeat (first | (with_reducible exact HB0.out) | (with_reducible exact Below.refl _ _) | refine Below.setCell ?_ (by simp) _ | refine Below.alloc ?_ (by simp) _ | refine Below.drew ?_ | refine below_drewN ?_ _))
  by_cases h3b : 7 < k
  · have hcd : code l a = 4 := by rw [hcode, if_pos (Or.inr h3b)]
    obtain ⟨e1, e2⟩ := no 4 (by decide) hcd
    rw [hcd, e1, e2]
    clear no HK HS hcd e1 e2 hcode
    go_enter Try.func45, Try.ntmps45
    go_wp2_with (go_at_call 34; (with_reducible refine (HU.out _ _ HB0.out (by omega)).mono ?_); rintro e w' ⟨rfl, rfl⟩)
    refine bodyPost_ret (v := .tuple #[frV 0 0, .int .i64 4]) (by simp [results_cell_tmp Try.results45, go_sem, Result.andThen]) rfl ⟨rfl, ?_⟩
    (repeat (first | (with_reducible exact HB0.out) | (with_reducible exact Below.refl _ _) | refine Below.setCell ?_ (by simp) _ | refine Below.alloc ?_ (by simp) _ | refine Below.drew ?_ | refine below_drewN ?_ _))
  have h3c : ¬ (k < 1 ∨ 7 < k) := by omega
  by_cases h4 : f ≠ 0
  · have hcd : code l a = 7 := by rw [hcode, if_neg h3c, if_pos h4]
    obtain ⟨e1, e2⟩ := no 7 (by decide) hcd
    rw [hcd, e1, e2]
    clear h3c
    clear no HK HS hcd e1 e2 hcode
    go_enter Try.func45, Try.ntmps45
    go_wp2_with (go_at_call 34; (with_reducible refine (HU.out _ _ HB0.out (by omega)).mono ?_); rintro e w' ⟨rfl, rfl⟩)
    refine bodyPost_ret (v := .tuple #[frV 0 0, .int .i64 7]) (by simp [results_cell_tmp Try.results45, go_sem, Result.andThen]) rfl ⟨rfl, ?_⟩
    (repeat (first | (with_reducible exact HB0.out) | (with_reducible exact Below.refl _ _) | refine Below.setCell ?_ (by simp) _ | refine Below.alloc ?_ (by simp) _ | refine Below.drew ?_ | refine below_drewN ?_ _))
  by_cases h5 : s < 16
  · have hcd : code l a = 5 := by rw [hcode, if_neg h3c, if_neg h4, if_pos h5]
    obtain ⟨e1, e2⟩ := no 5 (by decide) hcd
    rw [hcd, e1, e2]
    have h4' : f = 0 := by omega
    subst h4'
    clear h3c h4
    clear no HK HS hcd e1 e2 hcode
    go_enter Try.func45, Try.ntmps45
    go_wp2_with (go_at_call 34; (with_reducible refine (HU.out _ _ HB0.out (by omega)).mono ?_); rintro e w' ⟨rfl, rfl⟩)
    refine bodyPost_ret (v := .tuple #[frV 0 0, .int .i64 5]) (by simp [results_cell_tmp Try.results45, go_sem, Result.andThen]) rfl ⟨rfl, ?_⟩
    (repeat (first | (with_reducible exact HB0.out) | (with_reducible exact Below.refl _ _) | refine Below.setCell ?_ (by simp) _ | refine Below.alloc ?_ (by simp) _ | refine Below.drew ?_ | refine below_drewN ?_ _))
  by_cases h6 : (n : Int) < a + s
  · have hcd : code l a = 2 := by rw [hcode, if_neg h3c, if_neg h4, if_neg h5, if_pos h6]
    obtain ⟨e1, e2⟩ := no 2 (by decide) hcd
    rw [hcd, e1, e2]
    have h4' : f = 0 := by omega
    have h6' : (n : Int) - (a : Int) < s := by omega
    subst h4'
    clear h3c h4 h6
    clear no HK HS hcd e1 e2 hcode
    go_enter Try.func45, Try.ntmps45
    go_wp2_with (go_at_call 34; (with_reducible refine (HU.out _ _ HB0.out (by omega)).mono ?_); rintro e w' ⟨rfl, rfl⟩)
    refine bodyPost_ret (v := .tuple #[frV 0 0, .int .i64 2]) (by simp [results_cell_tmp Try.results45, go_sem, Result.andThen]) rfl ⟨rfl, ?_⟩
    (repeat (first | (with_reducible exact HB0.out) | (with_reducible exact Below.refl _ _) | refine Below.setCell ?_ (by simp) _ | refine Below.alloc ?_ (by simp) _ | refine Below.drew ?_ | refine below_drewN ?_ _))
  · have hcd : code l a = 0 := by rw [hcode, if_neg h3c, if_neg h4, if_neg h5, if_neg h6]
    have e1 := HK.out.trans (if_pos hcd)
    have e2 := HS.out.trans (if_pos hcd)
    rw [hcd, e1, e2]
    have h4' : f = 0 := by omega
    have h6' : ¬ (n : Int) - (a : Int) < s := by omega
    have hwk := Lib.hid (show IntKind.i64.wrap k = k from IntWalk.i64_in _ (by omega))
    have hw8 := Lib.hid (show IntKind.u64.wrap ((a : Int) + 8) = ((a + 8 : Nat) : Int) by rw [IntKind.wrap_u64]; omega)
    subst h4'
    clear h3c h4 h6 no HK HS hcd e1 e2 hcode
    go_enter Try.func45, Try.ntmps45
    go_wp2_with (go_at_call 34; (with_reducible refine (HU.out _ _ HB0.out (by omega)).mono ?_); rintro e w' ⟨rfl, rfl⟩)
    go_region_held3 (fun w' => w'.cell? ⟨b, off + a, none⟩ = some (.int .u8 k)) (go_keep) ((go_at_call 34; (with_reducible refine (HU.out _ _ HB0.out.drew hw8.out).mono ?_); rintro e w' ⟨rfl, rfl⟩))
    rw [hwk.out]
    go_wp2
    refine bodyPost_ret (v := .tuple #[frV k s, .int .i64 0]) (by simp [results_cell_tmp Try.results45, go_sem, Result.andThen]) rfl ⟨rfl, ?_⟩
    (repeat (first | (with_reducible exact HB0.out) | (with_reducible exact Below.refl _ _) | refine Below.setCell ?_ (by simp) _ | refine Below.alloc ?_ (by simp) _ | refine Below.drew ?_ | refine below_drewN ?_ _))
end Go.Proofs.Yteggjmnmlmhkfaa.Oh
