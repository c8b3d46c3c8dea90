/-
  What the copies are that 'Add' answers: new memory, with the lowest bytes of a number in it.
-/
import Derived.Test.YtekmbgcijkdkfaaLeB
import Derived.Laws.CopyOwn
namespace Go.Proofs.Ytekmbgcijkdkfaa.LeP
open Go.ChangeShapes Go.WideShapes Go.ChangeAt Go.RowKit
open Bytes8 Blk8 LeA LeNum LeB
set_option linter.unusedVariables false
set_option maxRecDepth 100000

theorem size8 : (Try.prog.info? 5).map (·.size) = some 1 := by kernel_rfl

theorem copied (l : List Int) (n : Nat) : splice ((List.replicate (l.length + n) (0 : Int)).map (Value.int .u8)) 0 (l.map (Value.int .u8)) = (l ++ List.replicate n 0).map (Value.int .u8) := by
  simp [splice, List.map_append]

theorem extended_any (a : Option Addr) (l : List Int) (cap n : Nat) (w : World) (hl : l.length ≤ 1000000) (hn : n ≤ 8) (hb : Bytes w a l) :
    Calls Try.prog 58 #[.slice a l.length cap, .int .i64 n] w fun e w' => e = .returned (.slice (some ⟨w.heap.size, 0, none⟩) (l.length + n) (l.length + n)) ∧ Row w' w.heap.size (l ++ List.replicate n 0) ∧ Below w.heap.size w w' := by
  have HC := Lib.hid (copied l n)
  have HS := Lib.hid hb.source
  clear hb
  generalize hL : l.length = len at *
  have HL := Lib.hid hL
  clear hL
  go_enter Try.func58, Try.ntmps58
  go_wp2_with (first | (refine wpList_make_bytes _ rfl (.tmp 9) (.tmp 9) rfl .i64 .i64 (len + n) _ _ rfl rfl (by omega) (by omega) (by omega) ?_; intro w2 hrow hbel2; have HR := Lib.hid hrow; clear hrow) | (refine wpList_copy_splice rfl (.tmp 11) (.tmp 12) 35 35 rfl 5 Try.underlying35 size8 _ _ _ _ _ _ rfl rfl w.heap.size 0 _ 5 HR.out (l.map (Value.int .u8)) ?hn ?hpos ?hfit ?h1 w.heap.size w hbel2 (Nat.le_refl _) ?_; rotate_right; intro w3 hrow3 hbel3))
  case hn => have := HL.out; simp; omega
  case hpos => simpa [HL.out] using HS.out w2 hbel2
  case hfit => have := HL.out; simp; omega
  case h1 => intro v hv; obtain ⟨x, _, rfl⟩ := List.mem_map.1 hv; rfl
  go_ret
  exact ⟨rfl, by unfold Row; rw [← HC.out]; exact hrow3.out, hbel3⟩

theorem row_step {wr : World} {g off k : Nat} {l : List Int} {v : Int} (h : Row wr g (over l off (lowB v k))) (hk : off + k < l.length) :
    Row (wr.setCell ⟨g, off + k, none⟩ (.int .u8 (v / 2 ^ (8 * k) % 256))) g (over l off (lowB v (k + 1))) := by
  have h1 := h.set_ (off + k) (v / 256 ^ k % 256)
  rw [two_pow_8]
  have e := over_step l off (lowB v k) (v / 256 ^ k % 256) (by rw [lowB_len]; exact hk)
  rw [lowB_len] at e
  rw [e, ← lowB_succ] at h1
  exact h1

theorem set_any (g off n cap : Nat) (l : List Int) (v : Int) (w w0 : World) (B : Nat) (hn : n ≤ 8) (hfit : off + n ≤ l.length) (hrow : Row w g l) (hb : Below B w0 w) (hB : B ≤ g) :
    Calls Try.prog 59 #[.slice (some ⟨g, off, none⟩) n cap, .int .u64 v] w fun e w' => e = .returned (.tuple #[]) ∧ Row w' g (over l off (lowB v n)) ∧ Below B w0 w' := by
  have HR := Lib.hid hrow
  clear hrow
  go_enter Try.func59, Try.ntmps59
  go_wp2
  go_loopw [7] (fun i wr => ∃ k : Nat, k ≤ n ∧ i = .int .i64 k ∧ Hid (Row wr g (over l off (lowB v k))) ∧ Below B w0 wr) (fun i _ => n - (intOf i).toNat)
  case atStart => exact ⟨0, Nat.zero_le _, rfl, by rw [show lowB v 0 = [] from rfl, over_nil]; exact HR, hb⟩
  case round =>
    obtain ⟨k, hk, rfl, hr, hbr⟩ := hrel
    by_cases hlt : k < n
    · have hc := hr.out.cell (i := off + k) (by rw [over_len _ _ _ (by rw [lowB_len]; omega)]; omega)
      have hf := hr.out.frozen (off + k)
      go_wp2
      go_roundw
      case rel => exact ⟨k + 1, by omega, by go_num, row_step hr.out (by omega), hbr.setCell hB _⟩
      case measure => simp [intOf]; omega
    · obtain rfl : k = n := by omega
      go_wp2
      go_end0
      exact ⟨rfl, hr.out, hbr⟩

theorem fits_parts {len : Nat} {at1 n : Int} (h : fits len at1 n = true) : 1 ≤ n ∧ n ≤ 8 ∧ 0 ≤ at1 ∧ at1 + n ≤ len := by
  simp [fits, isW] at h
  omega

theorem isW_bd {n : Int} (h : isW n = true) : 1 ≤ n ∧ n ≤ 8 := by
  simp [isW] at h
  omega

theorem extended0 (a : Option Addr) (l : List Int) (cap : Nat) (w : World) (hl : l.length ≤ 1000000) (hb : Bytes w a l) :
    Calls Try.prog 58 #[.slice a l.length cap, .int .i64 0] w fun e w' => e = .returned (.slice (some ⟨w.heap.size, 0, none⟩) l.length l.length) ∧ Row w' w.heap.size l ∧ Below w.heap.size w w' := by
  have h0 := extended_any a l cap 0 w hl (by decide) hb
  simp only [List.replicate_zero, List.append_nil, Nat.add_zero] at h0
  exact h0

theorem add_no (a : Option Addr) (l : List Int) (cap : Nat) (n v : Int) (w : World) (hl : l.length ≤ 1000000) (hf : isW n = false) (hb : Bytes w a l) :
    Calls Try.prog 36 #[.slice a l.length cap, .int .i64 n, .int .u64 v] w fun e w' => e = .returned (.slice (some ⟨w.heap.size, 0, none⟩) l.length l.length) ∧ Row w' w.heap.size l ∧ Below w.heap.size w w' := by
  have HE := Lib.hid (extended0 a l cap w hl hb)
  clear hb
  go_enter Try.func36, Try.ntmps36
  go_wp2_with (first | (go_at_call 57; (with_reducible refine (isWidth_any _ _).mono ?_); rintro e w' ⟨rfl, rfl⟩) | (go_at_call 58; (with_reducible refine HE.out.mono ?_); rintro e w2 ⟨rfl, hrow, hbel⟩; have HR := Lib.hid hrow; clear hrow))
  go_ret
  exact ⟨rfl, HR.out, hbel⟩

theorem add_yes (a : Option Addr) (l : List Int) (cap n : Nat) (v : Int) (w : World) (hl : l.length ≤ 1000000) (hf : isW n = true) (hb : Bytes w a l) :
    Calls Try.prog 36 #[.slice a l.length cap, .int .i64 n, .int .u64 v] w fun e w' => e = .returned (.slice (some ⟨w.heap.size, 0, none⟩) (l.length + n) (l.length + n)) ∧ Row w' w.heap.size (l ++ lowB v n) ∧ Below w.heap.size w w' := by
  obtain ⟨h1, h2⟩ := isW_bd hf
  have HE := Lib.hid (extended_any a l cap n w hl (by omega) hb)
  have HS := Lib.hid fun (w2 : World) (h : Row w2 w.heap.size (l ++ List.replicate n 0)) (hb2 : Below w.heap.size w w2) => set_any w.heap.size l.length n n (l ++ List.replicate n 0) v w2 w w.heap.size (by omega) (by simp) h hb2 (Nat.le_refl _)
  have HO := Lib.hid (over_end l (lowB v n) n (lowB_len v n))
  clear hb
  generalize hL : l.length = len at *
  have HL := Lib.hid hL
  clear hL
  go_enter Try.func36, Try.ntmps36
  go_wp2_with (first | (go_at_call 57; (with_reducible refine (isWidth_any _ _).mono ?_); rintro e w' ⟨rfl, rfl⟩) | (go_at_call 58; (with_reducible refine HE.out.mono ?_); rintro e w2 ⟨rfl, hrow, hbel⟩; have HR := Lib.hid hrow; clear hrow) | (go_at_call 59; (with_reducible refine (HS.out _ HR.out hbel).mono ?_); rintro e w3 ⟨rfl, hrow3, hbel3⟩; have HR3 := Lib.hid hrow3; clear hrow3))
  go_ret
  exact ⟨rfl, by rw [← HO.out]; exact HR3.out, hbel3⟩
end Go.Proofs.Ytekmbgcijkdkfaa.LeP
