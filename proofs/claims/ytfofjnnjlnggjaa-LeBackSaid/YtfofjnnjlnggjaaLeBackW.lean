/-
  The walk of LeBack: at any bytes and any numbers the law returns true, and nothing that was there is written.
-/
import Derived.Test.YtfofjnnjlnggjaaLeP
import Derived.BigQuiet
namespace Go.Proofs.Ytfofjnnjlnggjaa.LeBackW
open Go.ChangeShapes Go.WideShapes Go.ChangeAt Go.RowKit
open Bytes8 LeA LeNum LeB LeC LeP
set_option linter.unusedVariables false

def width (j : Nat) : Nat := [1, 2, 4, 8].getD j 0

theorem width_cell (w1 : World) (j : Nat) (hj : j < 4) : (w1.alloc (.cells #[.int .i64 1, .int .i64 2, .int .i64 4, .int .i64 8] 3)).cell? ⟨w1.heap.size, j, none⟩ = some (.int .i64 (width j)) := by
  match j, hj with
  | 0, _ | 1, _ | 2, _ | 3, _ => simp [width]

set_option maxRecDepth 100000 in
theorem walk_long (a0 : Option Addr) (len0 cap0 j n : Nat) (a1 a2 a3 : Int) (w : World) (hj : numBelow a2 4 = j) (hj4 : j < 4) (hn : width j = n) (hl : len0 ≤ 9223372036854775807) (hlen : 200 < len0) :
    Calls Try.prog 4 #[.slice a0 len0 cap0, .int .i64 a1, .int .i64 a2, .int .u64 a3] w fun e w' => e = .returned (.bool true) ∧ Below w.heap.size w w' := by
  have HJ := Lib.hid hj
  have hW : ∀ w1 : World, (w1.alloc (.cells #[.int .i64 1, .int .i64 2, .int .i64 4, .int .i64 8] 3)).cell? ⟨w1.heap.size, j, none⟩ = some (.int .i64 n) := fun w1 => by rw [← hn]; exact width_cell w1 j hj4
  clear hj hn
  go_enter Try.func4, Try.ntmps4
  go_wp2_with (first | (go_at_call 7; (with_reducible refine (first_any _).mono ?_); rintro e w1 ⟨rfl, hbel⟩) | (go_at_call 17; (with_reducible refine (number_nat a2 4 j _ (by decide) (by decide) HJ.out).mono ?_); rintro e w' ⟨rfl, rfl⟩))
  go_ret
  exact ⟨rfl, hbel.alloc hbel.size _⟩

set_option maxRecDepth 100000 in
theorem walk_short (a0 : Option Addr) (len0 cap0 j n : Nat) (a1 a2 a3 : Int) (w : World) (hj : numBelow a2 4 = j) (hj4 : j < 4) (hn : width j = n) (hl : len0 ≤ 200) (hlen : len0 < n) :
    Calls Try.prog 4 #[.slice a0 len0 cap0, .int .i64 a1, .int .i64 a2, .int .u64 a3] w fun e w' => e = .returned (.bool true) ∧ Below w.heap.size w w' := by
  have HJ := Lib.hid hj
  have hW : ∀ w1 : World, (w1.alloc (.cells #[.int .i64 1, .int .i64 2, .int .i64 4, .int .i64 8] 3)).cell? ⟨w1.heap.size, j, none⟩ = some (.int .i64 n) := fun w1 => by rw [← hn]; exact width_cell w1 j hj4
  have hd : decide (len0 < n) = true := by simpa using hlen
  clear hj hn
  go_enter Try.func4, Try.ntmps4
  go_wp2_with (first | (go_at_call 7; (with_reducible refine (first_any _).mono ?_); rintro e w1 ⟨rfl, hbel⟩) | (go_at_call 17; (with_reducible refine (number_nat a2 4 j _ (by decide) (by decide) HJ.out).mono ?_); rintro e w' ⟨rfl, rfl⟩))
  go_ret
  exact ⟨rfl, hbel.alloc hbel.size _⟩

/-- 'Put', the block that it makes by a name of its own. -/
theorem put_some (a : Option Addr) (l : List Int) (len cap : Nat) (at1 n : Nat) (v : Int) (hL : l.length = len) (hl : len ≤ 1000000) (hf : fits len at1 n = true) (w : World) (hb : Bytes w a l) :
    Calls Try.prog 10 #[.slice a len cap, .int .i64 at1, .int .i64 n, .int .u64 v] w fun e w' => ∃ g, e = .returned (.tuple #[.slice (some ⟨g, 0, none⟩) len len, .bool true]) ∧ w.heap.size ≤ g ∧ Row w' g (over l at1 (lowB v n)) ∧ Below w.heap.size w w' := by
  subst hL
  exact (put_yes a l cap at1 n v w hl hf hb).mono fun e w' ⟨h1, h2, h3⟩ => ⟨_, h1, Nat.le_refl _, h2, h3⟩

theorem add_some (a : Option Addr) (l : List Int) (len cap : Nat) (n : Nat) (v : Int) (hL : l.length = len) (hl : len ≤ 1000000) (hf : isW n = true) (w : World) (hb : Bytes w a l) :
    Calls Try.prog 15 #[.slice a len cap, .int .i64 n, .int .u64 v] w fun e w' => ∃ g, e = .returned (.slice (some ⟨g, 0, none⟩) (len + n) (len + n)) ∧ w.heap.size ≤ g ∧ Row w' g (l ++ lowB v n) ∧ Below w.heap.size w w' := by
  subst hL
  exact (add_yes a l cap n v w hl hf hb).mono fun e w' ⟨h1, h2, h3⟩ => ⟨_, h1, Nat.le_refl _, h2, h3⟩

/-- 'Get' at a place where the lowest bytes of a number are. -/
theorem get_low (g : Nat) (p : List Int) (len cap at1 n : Nat) (v low : Int) (hL : p.length = len) (hl : len ≤ 1000000) (hf : fits len at1 n = true) (hA : AllB p) (ht : (p.drop at1).take n = lowB v n) (hlow : v % 256 ^ n = low) (w : World) (hr : Row w g p) :
    Calls Try.prog 8 #[.slice (some ⟨g, 0, none⟩) len cap, .int .i64 at1, .int .i64 n] w fun e w' => e = .returned (.tuple #[.int .u64 low, .bool true]) ∧ w = w' := by
  subst hL
  obtain ⟨h1, h2, h3, h4⟩ := fits_parts hf
  have h := get_yes (some ⟨g, 0, none⟩) p cap at1 n w (by omega) hf (hr.bytes hA) (by omega) (by omega) (by omega)
  rw [ht, leNum_lowB, hlow] at h
  exact h

/-- What the last line reads: four parts as strings. -/
theorem strings (W : World) (g b off len0 cap0 n m : Nat) (l : List Int) (v : Int) (hL : l.length = len0) (hm : m + n ≤ len0) (hb : Bytes W (some ⟨b, off, none⟩) l) (hr : Row W g (over l m (lowB v n))) (S1 S2 : ByteArray) (h1 : S1 = strOfNums (l.take m)) (h2 : S2 = strOfNums (l.drop (m + n))) :
    (∀ k c, (convert 22 9 (.slice (some ⟨g, 0, none⟩) m c)).run Try.prog (W.drewN k) = .ok (.string S1) (W.drewN k)) ∧
    (∀ k c, (convert 22 9 (.slice (some ⟨b, off, none⟩) m c)).run Try.prog (W.drewN k) = .ok (.string S1) (W.drewN k)) ∧
    (∀ k c, (convert 22 9 (.slice (some ⟨g, m + n, none⟩) (len0 - (m + n)) c)).run Try.prog (W.drewN k) = .ok (.string S2) (W.drewN k)) ∧
    (∀ k c, (convert 22 9 (.slice (some ⟨b, off + (m + n), none⟩) (len0 - (m + n)) c)).run Try.prog (W.drewN k) = .ok (.string S2) (W.drewN k)) := by
  subst h1; subst h2
  have hA := over_all (o := m) hb.1 (lowB_all v n)
  have hlen : (over l m (lowB v n)).length = len0 := by rw [over_len _ _ _ (by rw [lowB_len]; omega), hL]
  refine ⟨fun k c => ?_, fun k c => ?_, fun k c => ?_, fun k c => ?_⟩
  · have h := hr.part hA 0 m
    rw [List.drop_zero, over_ahead _ _ _ (by omega)] at h
    exact (h.drewN k).string c m (by simp; omega)
  · have h := hb.part 0 m (some ⟨b, off, none⟩) (fun b' off' e _ _ => by rw [e]; rfl)
    rw [List.drop_zero] at h
    exact (h.drewN k).string c m (by simp; omega)
  · have h := hr.part hA (m + n) (len0 - (m + n))
    rw [over_behind _ _ _ _ (by omega) (lowB_len v n), List.take_of_length_le (by simp; omega)] at h
    exact (h.drewN k).string c _ (by simp; omega)
  · have h := hb.part (m + n) (len0 - (m + n)) (some ⟨b, off + (m + n), none⟩) (fun b' off' e _ _ => by simp at e; obtain ⟨rfl, rfl⟩ := e; rfl)
    rw [List.take_of_length_le (by simp; omega)] at h
    exact (h.drewN k).string c _ (by simp; omega)

/-- .. where nothing is behind. -/
theorem empties (W : World) (S2 : ByteArray) (d : Nat) (hd : d = 0) (h2 : S2 = strOfNums []) :
    ∀ k A c, (convert 22 9 (.slice A d c)).run Try.prog (W.drewN k) = .ok (.string S2) (W.drewN k) := by
  subst h2; subst hd
  exact fun k A c => (Bytes.nil (W.drewN k) A).string c 0 rfl

theorem below_drewN {B : Nat} {a w : World} (h : Below B a w) (k : Nat) : Below B a (w.drewN k) := ⟨h.os, h.tape, h.output, h.size, h.block⟩

set_option maxRecDepth 100000 in
set_option maxHeartbeats 1000000 in
theorem walk_inside (b off len0 cap0 j n m : Nat) (l : List Int) (a1 a2 a3 low : Int) (w : World) (hb : Bytes w (some ⟨b, off, none⟩) l) (hL : l.length = len0) (hj : numBelow a2 4 = j) (hj4 : j < 4) (hn : width j = n)
    (hl : len0 ≤ 200) (hlen : n ≤ len0) (hcap : len0 ≤ cap0) (h8 : n < 8 ∨ (8 ≤ n ∧ a3 = low)) (hw : isW n = true) (hm : numBelow a1 ((len0 : Int) - n + 1) = m) (hm2 : m + n ≤ len0) (hlow : a3 % 256 ^ n = low) (hv0 : 0 ≤ a3) (hv1 : a3 ≤ 18446744073709551615)
    (hq : m + n < len0) :
    Calls Try.prog 4 #[.slice (some ⟨b, off, none⟩) len0 cap0, .int .i64 a1, .int .i64 a2, .int .u64 a3] w fun e w' => e = .returned (.bool true) ∧ Below w.heap.size w w' := by
  have HJ := Lib.hid hj
  have HM := Lib.hid hm
  have hW : ∀ w1 : World, (w1.alloc (.cells #[.int .i64 1, .int .i64 2, .int .i64 4, .int .i64 8] 3)).cell? ⟨w1.heap.size, j, none⟩ = some (.int .i64 n) := fun w1 => by rw [← hn]; exact width_cell w1 j hj4
  have hd : decide (len0 < n) = false := by simpa using hlen
  have hd2 : decide ((200 : Int) < (len0 : Int)) = false := by simp; omega
  have HB := Lib.hid hb
  have HL := Lib.hid hL
  have hf : fits len0 m n = true := by simp [fits, hw]; omega
  have hf2 : fits (len0 + n) len0 n = true := by simp [fits, hw]
  have HP := Lib.hid (put_some (some ⟨b, off, none⟩) l len0 cap0 m n a3 hL (by omega) hf)
  have HA := Lib.hid (add_some (some ⟨b, off, none⟩) l len0 cap0 n a3 hL (by omega) hw)
  have HG := Lib.hid fun (g : Nat) (w : World) => get_low g (over l m (lowB a3 n)) len0 len0 m n a3 low (by rw [over_len _ _ _ (by rw [lowB_len]; omega), hL]) (by omega) hf (over_all hb.1 (lowB_all a3 n)) (over_there l m n _ (by omega) (lowB_len a3 n)) hlow w
  have HG2 := Lib.hid fun (g : Nat) (w : World) => get_low g (l ++ lowB a3 n) (len0 + n) (len0 + n) len0 n a3 low (by simp [lowB_len, hL]) (by obtain ⟨_, _⟩ := isW_bd hw; omega) hf2 (hb.1.app (lowB_all a3 n)) (by rw [← hL]; simp [List.take_of_length_le, lowB_len]) hlow w
  obtain ⟨S1, HS1⟩ : ∃ S1, Hid (S1 = strOfNums (l.take m)) := ⟨_, rfl⟩
  obtain ⟨S2, HS2⟩ : ∃ S2, Hid (S2 = strOfNums (l.drop (m + n))) := ⟨_, rfl⟩
  clear hj hn hm hb hL hf hf2
  rcases h8 with h8 | ⟨h8, rfl⟩
  case inl =>
    have hmask : bits BinOp.and IntKind.u64 a3 (IntKind.u64.wrap (IntKind.u64.wrap (2 ^ (8 * n)) - 1)) = low := by rw [mask_low a3 n (by omega) hv0 hv1]; exact hlow
    clear hlow
    go_enter Try.func4, Try.ntmps4
    go_wp2_with (first | (go_at_call 7; (with_reducible refine (first_any _).mono ?_); rintro e w1 ⟨rfl, hbel⟩) | (go_at_call 17; (with_reducible refine (number_nat a2 4 j _ (by decide) (by decide) HJ.out).mono ?_); rintro e w' ⟨rfl, rfl⟩) | (go_at_call 17; (with_reducible refine (number_nat a1 _ m _ (by omega) (by omega) HM.out).mono ?_); rintro e w' ⟨rfl, rfl⟩) | (go_at_call 10; (with_reducible refine (HP.out _ (HB.out.below (hbel.alloc hbel.size _) (Nat.le_refl _))).mono ?_); rintro e w2 ⟨g, rfl, hg, hrow, hbel2⟩; have HR := Lib.hid hrow; clear hrow) | (go_at_call 8; (with_reducible refine (HG.out g _ HR.out).mono ?_); rintro e w' ⟨rfl, rfl⟩) | (go_at_call 15; (with_reducible refine (HA.out _ (HB.out.below ((hbel.alloc hbel.size _).trans (hbel2.mono (hbel.alloc hbel.size _).size)) (Nat.le_refl _))).mono ?_); rintro e w3 ⟨g2, rfl, hg2, hrow2, hbel3⟩; have HR2 := Lib.hid hrow2; clear hrow2; have HR3 := Lib.hid (HR.out.below hbel3 HR.out.lt); obtain ⟨hs1, hs2, hs3, hs4⟩ := strings w3 g b off len0 cap0 n m l a3 HL.out hm2 (HB.out.below (((hbel.alloc hbel.size _).trans (hbel2.mono (hbel.alloc hbel.size _).size)).trans (hbel3.mono ((hbel.alloc hbel.size _).trans (hbel2.mono (hbel.alloc hbel.size _).size)).size)) (Nat.le_refl _)) HR3.out S1 S2 HS1.out HS2.out) | (go_at_call 8; (with_reducible refine (HG2.out g2 _ HR2.out).mono ?_); rintro e w' ⟨rfl, rfl⟩))
    go_quiet (fail)
    go_wp2
    go_ret
    exact ⟨rfl, below_drewN (((hbel.alloc hbel.size _).trans (hbel2.mono (hbel.alloc hbel.size _).size)).trans (hbel3.mono ((hbel.alloc hbel.size _).trans (hbel2.mono (hbel.alloc hbel.size _).size)).size)) nq⟩
  case inr =>
    clear hlow
    go_enter Try.func4, Try.ntmps4
    go_wp2_with (first | (go_at_call 7; (with_reducible refine (first_any _).mono ?_); rintro e w1 ⟨rfl, hbel⟩) | (go_at_call 17; (with_reducible refine (number_nat a2 4 j _ (by decide) (by decide) HJ.out).mono ?_); rintro e w' ⟨rfl, rfl⟩) | (go_at_call 17; (with_reducible refine (number_nat a1 _ m _ (by omega) (by omega) HM.out).mono ?_); rintro e w' ⟨rfl, rfl⟩) | (go_at_call 10; (with_reducible refine (HP.out _ (HB.out.below (hbel.alloc hbel.size _) (Nat.le_refl _))).mono ?_); rintro e w2 ⟨g, rfl, hg, hrow, hbel2⟩; have HR := Lib.hid hrow; clear hrow) | (go_at_call 8; (with_reducible refine (HG.out g _ HR.out).mono ?_); rintro e w' ⟨rfl, rfl⟩) | (go_at_call 15; (with_reducible refine (HA.out _ (HB.out.below ((hbel.alloc hbel.size _).trans (hbel2.mono (hbel.alloc hbel.size _).size)) (Nat.le_refl _))).mono ?_); rintro e w3 ⟨g2, rfl, hg2, hrow2, hbel3⟩; have HR2 := Lib.hid hrow2; clear hrow2; have HR3 := Lib.hid (HR.out.below hbel3 HR.out.lt); obtain ⟨hs1, hs2, hs3, hs4⟩ := strings w3 g b off len0 cap0 n m l a3 HL.out hm2 (HB.out.below (((hbel.alloc hbel.size _).trans (hbel2.mono (hbel.alloc hbel.size _).size)).trans (hbel3.mono ((hbel.alloc hbel.size _).trans (hbel2.mono (hbel.alloc hbel.size _).size)).size)) (Nat.le_refl _)) HR3.out S1 S2 HS1.out HS2.out) | (go_at_call 8; (with_reducible refine (HG2.out g2 _ HR2.out).mono ?_); rintro e w' ⟨rfl, rfl⟩))
    go_quiet (fail)
    go_wp2
    go_ret
    exact ⟨rfl, below_drewN (((hbel.alloc hbel.size _).trans (hbel2.mono (hbel.alloc hbel.size _).size)).trans (hbel3.mono ((hbel.alloc hbel.size _).trans (hbel2.mono (hbel.alloc hbel.size _).size)).size)) nq⟩

set_option maxRecDepth 100000 in
set_option maxHeartbeats 1000000 in
theorem walk_end (b off len0 j n m : Nat) (l : List Int) (a1 a2 a3 low : Int) (w : World) (hb : Bytes w (some ⟨b, off, none⟩) l) (hL : l.length = len0) (hj : numBelow a2 4 = j) (hj4 : j < 4) (hn : width j = n)
    (hl : len0 ≤ 200) (hlen : n ≤ len0) (h8 : n < 8 ∨ (8 ≤ n ∧ a3 = low)) (hw : isW n = true) (hm : numBelow a1 ((len0 : Int) - n + 1) = m) (hm2 : m + n ≤ len0) (hlow : a3 % 256 ^ n = low) (hv0 : 0 ≤ a3) (hv1 : a3 ≤ 18446744073709551615)
    (hq : m + n = len0) :
    Calls Try.prog 4 #[.slice (some ⟨b, off, none⟩) len0 len0, .int .i64 a1, .int .i64 a2, .int .u64 a3] w fun e w' => e = .returned (.bool true) ∧ Below w.heap.size w w' := by
  have HJ := Lib.hid hj
  have HM := Lib.hid hm
  have hW : ∀ w1 : World, (w1.alloc (.cells #[.int .i64 1, .int .i64 2, .int .i64 4, .int .i64 8] 3)).cell? ⟨w1.heap.size, j, none⟩ = some (.int .i64 n) := fun w1 => by rw [← hn]; exact width_cell w1 j hj4
  have hd : decide (len0 < n) = false := by simpa using hlen
  have hd2 : decide ((200 : Int) < (len0 : Int)) = false := by simp; omega
  have HB := Lib.hid hb
  have HL := Lib.hid hL
  have hf : fits len0 m n = true := by simp [fits, hw]; omega
  have hf2 : fits (len0 + n) len0 n = true := by simp [fits, hw]
  have HP := Lib.hid (put_some (some ⟨b, off, none⟩) l len0 len0 m n a3 hL (by omega) hf)
  have HA := Lib.hid (add_some (some ⟨b, off, none⟩) l len0 len0 n a3 hL (by omega) hw)
  have HG := Lib.hid fun (g : Nat) (w : World) => get_low g (over l m (lowB a3 n)) len0 len0 m n a3 low (by rw [over_len _ _ _ (by rw [lowB_len]; omega), hL]) (by omega) hf (over_all hb.1 (lowB_all a3 n)) (over_there l m n _ (by omega) (lowB_len a3 n)) hlow w
  have HG2 := Lib.hid fun (g : Nat) (w : World) => get_low g (l ++ lowB a3 n) (len0 + n) (len0 + n) len0 n a3 low (by simp [lowB_len, hL]) (by obtain ⟨_, _⟩ := isW_bd hw; omega) hf2 (hb.1.app (lowB_all a3 n)) (by rw [← hL]; simp [List.take_of_length_le, lowB_len]) hlow w
  obtain ⟨S1, HS1⟩ : ∃ S1, Hid (S1 = strOfNums (l.take m)) := ⟨_, rfl⟩
  obtain ⟨S2, HS2⟩ : ∃ S2, Hid (S2 = strOfNums (l.drop (m + n))) := ⟨_, rfl⟩
  have HE := Lib.hid (show S2 = strOfNums [] by rw [HS2.out]; rw [List.drop_of_length_le (by omega)])
  clear hj hn hm hb hL hf hf2
  rcases h8 with h8 | ⟨h8, rfl⟩
  case inl =>
    have hmask : bits BinOp.and IntKind.u64 a3 (IntKind.u64.wrap (IntKind.u64.wrap (2 ^ (8 * n)) - 1)) = low := by rw [mask_low a3 n (by omega) hv0 hv1]; exact hlow
    clear hlow
    go_enter Try.func4, Try.ntmps4
    go_wp2_with (first | (go_at_call 7; (with_reducible refine (first_any _).mono ?_); rintro e w1 ⟨rfl, hbel⟩) | (go_at_call 17; (with_reducible refine (number_nat a2 4 j _ (by decide) (by decide) HJ.out).mono ?_); rintro e w' ⟨rfl, rfl⟩) | (go_at_call 17; (with_reducible refine (number_nat a1 _ m _ (by omega) (by omega) HM.out).mono ?_); rintro e w' ⟨rfl, rfl⟩) | (go_at_call 10; (with_reducible refine (HP.out _ (HB.out.below (hbel.alloc hbel.size _) (Nat.le_refl _))).mono ?_); rintro e w2 ⟨g, rfl, hg, hrow, hbel2⟩; have HR := Lib.hid hrow; clear hrow) | (go_at_call 8; (with_reducible refine (HG.out g _ HR.out).mono ?_); rintro e w' ⟨rfl, rfl⟩) | (go_at_call 15; (with_reducible refine (HA.out _ (HB.out.below ((hbel.alloc hbel.size _).trans (hbel2.mono (hbel.alloc hbel.size _).size)) (Nat.le_refl _))).mono ?_); rintro e w3 ⟨g2, rfl, hg2, hrow2, hbel3⟩; have HR2 := Lib.hid hrow2; clear hrow2; have HR3 := Lib.hid (HR.out.below hbel3 HR.out.lt); obtain ⟨hs1, hs2, _, _⟩ := strings w3 g b off len0 len0 n m l a3 HL.out hm2 (HB.out.below (((hbel.alloc hbel.size _).trans (hbel2.mono (hbel.alloc hbel.size _).size)).trans (hbel3.mono ((hbel.alloc hbel.size _).trans (hbel2.mono (hbel.alloc hbel.size _).size)).size)) (Nat.le_refl _)) HR3.out S1 S2 HS1.out HS2.out; have hs3 := empties w3 S2 0 rfl HE.out) | (go_at_call 8; (with_reducible refine (HG2.out g2 _ HR2.out).mono ?_); rintro e w' ⟨rfl, rfl⟩))
    go_quiet (fail)
    go_wp2
    go_ret
    exact ⟨rfl, below_drewN (((hbel.alloc hbel.size _).trans (hbel2.mono (hbel.alloc hbel.size _).size)).trans (hbel3.mono ((hbel.alloc hbel.size _).trans (hbel2.mono (hbel.alloc hbel.size _).size)).size)) nq⟩
  case inr =>
    clear hlow
    go_enter Try.func4, Try.ntmps4
    go_wp2_with (first | (go_at_call 7; (with_reducible refine (first_any _).mono ?_); rintro e w1 ⟨rfl, hbel⟩) | (go_at_call 17; (with_reducible refine (number_nat a2 4 j _ (by decide) (by decide) HJ.out).mono ?_); rintro e w' ⟨rfl, rfl⟩) | (go_at_call 17; (with_reducible refine (number_nat a1 _ m _ (by omega) (by omega) HM.out).mono ?_); rintro e w' ⟨rfl, rfl⟩) | (go_at_call 10; (with_reducible refine (HP.out _ (HB.out.below (hbel.alloc hbel.size _) (Nat.le_refl _))).mono ?_); rintro e w2 ⟨g, rfl, hg, hrow, hbel2⟩; have HR := Lib.hid hrow; clear hrow) | (go_at_call 8; (with_reducible refine (HG.out g _ HR.out).mono ?_); rintro e w' ⟨rfl, rfl⟩) | (go_at_call 15; (with_reducible refine (HA.out _ (HB.out.below ((hbel.alloc hbel.size _).trans (hbel2.mono (hbel.alloc hbel.size _).size)) (Nat.le_refl _))).mono ?_); rintro e w3 ⟨g2, rfl, hg2, hrow2, hbel3⟩; have HR2 := Lib.hid hrow2; clear hrow2; have HR3 := Lib.hid (HR.out.below hbel3 HR.out.lt); obtain ⟨hs1, hs2, _, _⟩ := strings w3 g b off len0 len0 n m l a3 HL.out hm2 (HB.out.below (((hbel.alloc hbel.size _).trans (hbel2.mono (hbel.alloc hbel.size _).size)).trans (hbel3.mono ((hbel.alloc hbel.size _).trans (hbel2.mono (hbel.alloc hbel.size _).size)).size)) (Nat.le_refl _)) HR3.out S1 S2 HS1.out HS2.out; have hs3 := empties w3 S2 0 rfl HE.out) | (go_at_call 8; (with_reducible refine (HG2.out g2 _ HR2.out).mono ?_); rintro e w' ⟨rfl, rfl⟩))
    go_quiet (fail)
    go_wp2
    go_ret
    exact ⟨rfl, below_drewN (((hbel.alloc hbel.size _).trans (hbel2.mono (hbel.alloc hbel.size _).size)).trans (hbel3.mono ((hbel.alloc hbel.size _).trans (hbel2.mono (hbel.alloc hbel.size _).size)).size)) nq⟩

set_option maxRecDepth 100000 in
set_option maxHeartbeats 1000000 in
theorem walk_room (b off len0 cap0 j n m : Nat) (l : List Int) (a1 a2 a3 low : Int) (w : World) (hb : Bytes w (some ⟨b, off, none⟩) l) (hL : l.length = len0) (hj : numBelow a2 4 = j) (hj4 : j < 4) (hn : width j = n)
    (hl : len0 ≤ 200) (hlen : n ≤ len0) (hcap : len0 ≤ cap0) (h8 : n < 8 ∨ (8 ≤ n ∧ a3 = low)) (hw : isW n = true) (hm : numBelow a1 ((len0 : Int) - n + 1) = m) (hm2 : m + n ≤ len0) (hlow : a3 % 256 ^ n = low) (hv0 : 0 ≤ a3) (hv1 : a3 ≤ 18446744073709551615)
    (hq : m + n = len0) (hq2 : ¬ cap0 = len0) :
    Calls Try.prog 4 #[.slice (some ⟨b, off, none⟩) len0 cap0, .int .i64 a1, .int .i64 a2, .int .u64 a3] w fun e w' => e = .returned (.bool true) ∧ Below w.heap.size w w' := by
  have HJ := Lib.hid hj
  have HM := Lib.hid hm
  have hW : ∀ w1 : World, (w1.alloc (.cells #[.int .i64 1, .int .i64 2, .int .i64 4, .int .i64 8] 3)).cell? ⟨w1.heap.size, j, none⟩ = some (.int .i64 n) := fun w1 => by rw [← hn]; exact width_cell w1 j hj4
  have hd : decide (len0 < n) = false := by simpa using hlen
  have hd2 : decide ((200 : Int) < (len0 : Int)) = false := by simp; omega
  have HB := Lib.hid hb
  have HL := Lib.hid hL
  have hf : fits len0 m n = true := by simp [fits, hw]; omega
  have hf2 : fits (len0 + n) len0 n = true := by simp [fits, hw]
  have HP := Lib.hid (put_some (some ⟨b, off, none⟩) l len0 cap0 m n a3 hL (by omega) hf)
  have HA := Lib.hid (add_some (some ⟨b, off, none⟩) l len0 cap0 n a3 hL (by omega) hw)
  have HG := Lib.hid fun (g : Nat) (w : World) => get_low g (over l m (lowB a3 n)) len0 len0 m n a3 low (by rw [over_len _ _ _ (by rw [lowB_len]; omega), hL]) (by omega) hf (over_all hb.1 (lowB_all a3 n)) (over_there l m n _ (by omega) (lowB_len a3 n)) hlow w
  have HG2 := Lib.hid fun (g : Nat) (w : World) => get_low g (l ++ lowB a3 n) (len0 + n) (len0 + n) len0 n a3 low (by simp [lowB_len, hL]) (by obtain ⟨_, _⟩ := isW_bd hw; omega) hf2 (hb.1.app (lowB_all a3 n)) (by rw [← hL]; simp [List.take_of_length_le, lowB_len]) hlow w
  obtain ⟨S1, HS1⟩ : ∃ S1, Hid (S1 = strOfNums (l.take m)) := ⟨_, rfl⟩
  obtain ⟨S2, HS2⟩ : ∃ S2, Hid (S2 = strOfNums (l.drop (m + n))) := ⟨_, rfl⟩
  have HE := Lib.hid (show S2 = strOfNums [] by rw [HS2.out]; rw [List.drop_of_length_le (by omega)])
  clear hj hn hm hb hL hf hf2
  rcases h8 with h8 | ⟨h8, rfl⟩
  case inl =>
    have hmask : bits BinOp.and IntKind.u64 a3 (IntKind.u64.wrap (IntKind.u64.wrap (2 ^ (8 * n)) - 1)) = low := by rw [mask_low a3 n (by omega) hv0 hv1]; exact hlow
    clear hlow
    go_enter Try.func4, Try.ntmps4
    go_wp2_with (first | (go_at_call 7; (with_reducible refine (first_any _).mono ?_); rintro e w1 ⟨rfl, hbel⟩) | (go_at_call 17; (with_reducible refine (number_nat a2 4 j _ (by decide) (by decide) HJ.out).mono ?_); rintro e w' ⟨rfl, rfl⟩) | (go_at_call 17; (with_reducible refine (number_nat a1 _ m _ (by omega) (by omega) HM.out).mono ?_); rintro e w' ⟨rfl, rfl⟩) | (go_at_call 10; (with_reducible refine (HP.out _ (HB.out.below (hbel.alloc hbel.size _) (Nat.le_refl _))).mono ?_); rintro e w2 ⟨g, rfl, hg, hrow, hbel2⟩; have HR := Lib.hid hrow; clear hrow) | (go_at_call 8; (with_reducible refine (HG.out g _ HR.out).mono ?_); rintro e w' ⟨rfl, rfl⟩) | (go_at_call 15; (with_reducible refine (HA.out _ (HB.out.below ((hbel.alloc hbel.size _).trans (hbel2.mono (hbel.alloc hbel.size _).size)) (Nat.le_refl _))).mono ?_); rintro e w3 ⟨g2, rfl, hg2, hrow2, hbel3⟩; have HR2 := Lib.hid hrow2; clear hrow2; have HR3 := Lib.hid (HR.out.below hbel3 HR.out.lt); obtain ⟨hs1, hs2, _, _⟩ := strings w3 g b off len0 cap0 n m l a3 HL.out hm2 (HB.out.below (((hbel.alloc hbel.size _).trans (hbel2.mono (hbel.alloc hbel.size _).size)).trans (hbel3.mono ((hbel.alloc hbel.size _).trans (hbel2.mono (hbel.alloc hbel.size _).size)).size)) (Nat.le_refl _)) HR3.out S1 S2 HS1.out HS2.out; have hs3 := empties w3 S2 0 rfl HE.out) | (go_at_call 8; (with_reducible refine (HG2.out g2 _ HR2.out).mono ?_); rintro e w' ⟨rfl, rfl⟩))
    go_quiet (fail)
    go_wp2
    go_ret
    exact ⟨rfl, below_drewN (((hbel.alloc hbel.size _).trans (hbel2.mono (hbel.alloc hbel.size _).size)).trans (hbel3.mono ((hbel.alloc hbel.size _).trans (hbel2.mono (hbel.alloc hbel.size _).size)).size)) nq⟩
  case inr =>
    clear hlow
    go_enter Try.func4, Try.ntmps4
    go_wp2_with (first | (go_at_call 7; (with_reducible refine (first_any _).mono ?_); rintro e w1 ⟨rfl, hbel⟩) | (go_at_call 17; (with_reducible refine (number_nat a2 4 j _ (by decide) (by decide) HJ.out).mono ?_); rintro e w' ⟨rfl, rfl⟩) | (go_at_call 17; (with_reducible refine (number_nat a1 _ m _ (by omega) (by omega) HM.out).mono ?_); rintro e w' ⟨rfl, rfl⟩) | (go_at_call 10; (with_reducible refine (HP.out _ (HB.out.below (hbel.alloc hbel.size _) (Nat.le_refl _))).mono ?_); rintro e w2 ⟨g, rfl, hg, hrow, hbel2⟩; have HR := Lib.hid hrow; clear hrow) | (go_at_call 8; (with_reducible refine (HG.out g _ HR.out).mono ?_); rintro e w' ⟨rfl, rfl⟩) | (go_at_call 15; (with_reducible refine (HA.out _ (HB.out.below ((hbel.alloc hbel.size _).trans (hbel2.mono (hbel.alloc hbel.size _).size)) (Nat.le_refl _))).mono ?_); rintro e w3 ⟨g2, rfl, hg2, hrow2, hbel3⟩; have HR2 := Lib.hid hrow2; clear hrow2; have HR3 := Lib.hid (HR.out.below hbel3 HR.out.lt); obtain ⟨hs1, hs2, _, _⟩ := strings w3 g b off len0 cap0 n m l a3 HL.out hm2 (HB.out.below (((hbel.alloc hbel.size _).trans (hbel2.mono (hbel.alloc hbel.size _).size)).trans (hbel3.mono ((hbel.alloc hbel.size _).trans (hbel2.mono (hbel.alloc hbel.size _).size)).size)) (Nat.le_refl _)) HR3.out S1 S2 HS1.out HS2.out; have hs3 := empties w3 S2 0 rfl HE.out) | (go_at_call 8; (with_reducible refine (HG2.out g2 _ HR2.out).mono ?_); rintro e w' ⟨rfl, rfl⟩))
    go_quiet (fail)
    go_wp2
    go_ret
    exact ⟨rfl, below_drewN (((hbel.alloc hbel.size _).trans (hbel2.mono (hbel.alloc hbel.size _).size)).trans (hbel3.mono ((hbel.alloc hbel.size _).trans (hbel2.mono (hbel.alloc hbel.size _).size)).size)) nq⟩

theorem walk (a0 : Option Addr) (len0 cap0 : Nat) (z0 : List Int) (a1 : Int) (a2 : Int) (a3 : Int) (w : World) (w0 : IsRow .u8 w a0 len0 cap0 z0) (w1 : (Lit.int .i64 a1).wf = true) (w2 : (Lit.int .i64 a2).wf = true) (w3 : (Lit.int .u64 a3).wf = true) :
    Calls Try.prog 4 #[.slice a0 len0 cap0, .int .i64 a1, .int .i64 a2, .int .u64 a3] w fun e w' => e = .returned (.bool true) ∧ Below w.heap.size w w' := by
  obtain ⟨v0, v1⟩ := bounds_u64 w3
  obtain ⟨hb, hL, hcap, hmax, _⟩ := w0.bytes
  generalize z0.take len0 = l at hb hL
  obtain ⟨j, hj, hj4⟩ := below_nat a2 4 (by decide)
  have hj4' : j < 4 := by omega
  have hW : isW (width j : Nat) = true ∧ 1 ≤ width j ∧ width j ≤ 8 := by
    match j, hj4' with
    | 0, _ | 1, _ | 2, _ | 3, _ => decide
  obtain ⟨hw, hn1, hn8⟩ := hW
  by_cases h1 : 200 < len0
  · exact walk_long a0 len0 cap0 j (width j) a1 a2 a3 w hj.out hj4' rfl (by unfold maxLen at hmax; omega) h1
  by_cases h2 : len0 < width j
  · exact walk_short a0 len0 cap0 j (width j) a1 a2 a3 w hj.out hj4' rfl (by omega) h2
  obtain ⟨m, hm, hm2⟩ := below_nat a1 ((len0 : Int) - (width j : Nat) + 1) (by omega)
  obtain ⟨b, off, rfl, _, _⟩ := hb.spot (by omega)
  have h8 : width j < 8 ∨ (8 ≤ width j ∧ a3 = a3 % 256 ^ width j) := by
    rcases Nat.lt_or_ge (width j) 8 with h | h
    · exact .inl h
    · have e : width j = 8 := by omega
      refine .inr ⟨h, ?_⟩
      rw [e, show (256 : Int) ^ 8 = 18446744073709551616 from rfl]
      omega
  by_cases hq : len0 = m + width j
  · by_cases hq2 : cap0 = len0
    · subst hq2
      exact walk_end b off cap0 j (width j) m l a1 a2 a3 _ w hb hL hj.out hj4' rfl (by omega) (by omega) h8 hw hm.out (by omega) rfl v0 v1 (by omega)
    · exact walk_room b off len0 cap0 j (width j) m l a1 a2 a3 _ w hb hL hj.out hj4' rfl (by omega) (by omega) hcap h8 hw hm.out (by omega) rfl v0 v1 (by omega) (by omega)
  · exact walk_inside b off len0 cap0 j (width j) m l a1 a2 a3 _ w hb hL hj.out hj4' rfl (by omega) (by omega) hcap h8 hw hm.out (by omega) rfl v0 v1 (by omega)
end Go.Proofs.Ytfofjnnjlnggjaa.LeBackW
