/-
  The program's directory, all of its blocks new since the law began: Write, Sync, All, Crash with what Keep answers.
-/
import Derived.Test.YtpgkimohekdmmaaDh
import Derived.Test.YtpgkimohekdmmaaDw
import Derived.Test.YtpgkimohekdmmaaKeep
namespace Go.Proofs.Ytpgkimohekdmmaa.Di
open Go.ChangeShapes Go.WideShapes Go.ChangeAt Go.RowKit
open Bytes8 Blk8 Own8 OwnA OwnM OwnE Fa Fo Ta Ua Kf Dm Dp Da Db Dc Dd Ds Dk Dl Df Dg Dn Dx Dh Dw Sfa Sfb Pv8 Do8 Keep8 Go.Maps
set_option linter.unusedVariables false
set_option linter.unusedSimpArgs false
set_option maxRecDepth 100000

theorem ownE_max {E : TypeId} {size : Nat} {w : World} {base n c : Nat} {A : Option Addr} {xs : List Value} (h : OwnE E size w base A n c xs) : c ≤ maxLen := by
  rcases h.2.2 with ⟨h1, h2⟩ | ⟨g, cap, cur, h1, _, _, _, h2, _⟩
  · injection h1 with _ _ e; rw [e]; exact Nat.zero_le _
  · injection h1 with _ _ e; rw [e]; exact h2
theorem write_b (w0 w : World) (B : Nat) (g : Nat) (d : Dir) (h : DirB B w0 g d) (hb0 : Below w0.heap.size w0 w) (n : List Int) (hA : AllB n) (hl : n.length ≤ 1000) (p : Int) (A : Option Addr) (m cb : Nat) (b : List Int) (hb : Bytes w A b) (hm : b.length = m) (hmx : m ≤ maxLen) (hwh : ∀ k off, A = some ⟨k, off, none⟩ → 0 < b.length → k < B ∨ w0.heap.size ≤ k) (hp1 : -9223372036854775808 ≤ p) (hp2 : p ≤ 9223372036854775807) :
    Calls Try.prog 15 #[.pointer (some ⟨g, 0, none⟩), .string (T n), .int .i64 p, .slice A m cb] w fun e w' => e = .returned (.int .i64 (d.write n p b).1) ∧ DirB B w' g (d.write n p b).2 ∧ Below B w w' := by
  obtain ⟨hB, own, h1, h2⟩ := h
  refine (write_any w own g d (h1.below hb0) n hA (by unfold maxLen; omega) p A m cb b hb hm hmx (fun k off e h0 hmn => ?_) hp1 hp2).mono fun e w' ⟨h3, h4⟩ => ⟨h3, DirB.did (Nat.le_trans hB hb0.size) h2 h4⟩
  unfold Mine at hmn
  rcases hwh k off e h0 with h3 | h3
  · have := h2 k h3; omega
  · have := own_fresh h1.foot h3; omega
theorem sync_b (w : World) (B : Nat) (g : Nat) (d : Dir) (h : DirB B w g d) (n : List Int) (hA : AllB n) (hl : n.length ≤ 1000) :
    Calls Try.prog 16 #[.pointer (some ⟨g, 0, none⟩), .string (T n)] w fun e w' => e = .returned (.int .i64 (d.sync n).1) ∧ DirB B w' g (d.sync n).2 ∧ Below B w w' := by
  obtain ⟨hB, own, h1, h2⟩ := h
  exact (sync_any w own g d h1 n hA (by unfold maxLen; omega)).mono fun e w' ⟨h3, h4⟩ => ⟨h3, DirB.did hB h2 h4⟩
theorem all_b (w : World) (B : Nat) (g : Nat) (d : Dir) (h : DirB B w g d) (n : List Int) (hA : AllB n) (hl : n.length ≤ 1000) :
    Calls Try.prog 22 #[.pointer (some ⟨g, 0, none⟩), .string (T n)] w fun e w' => ∃ A m, e = .returned (.tuple #[.slice A (d.all n).2.length m, .int .i64 (d.all n).1]) ∧ Bytes w' A (d.all n).2 ∧ DirB B w' g d ∧ Below B w w' := by
  have h' := h
  obtain ⟨hB, own, h1, h2⟩ := h
  exact (all_any w own g d h1 n hA (by unfold maxLen; omega)).mono fun e w' ⟨A, m, h3, h4, _, h5⟩ => ⟨A, m, h3, h4, h'.below h5, h5.mono hB⟩
/-- Crash with what Keep answered. -/
theorem crash_keep (w0 w : World) (B : Nat) (g : Nat) (d : Dir) (h : DirB B w0 g d) (hb0 : Below w0.heap.size w0 w) (n : Nat) (A : Option Addr) (c : Nat) (ho : OwnE 4 1 w w0.heap.size A 64 c (bitsV n 64)) (dirs : Int) (hd1 : -9223372036854775808 ≤ dirs) (hd2 : dirs ≤ 9223372036854775807) :
    Calls Try.prog 20 #[.pointer (some ⟨g, 0, none⟩), .slice A 64 c, .int .i64 dirs] w fun e w' => e = .returned (.tuple #[]) ∧ DirB B w' g (d.crash 64 (fun i => n.testBit i) dirs) ∧ Below B w w' := by
  obtain ⟨hB, own, h1, h2⟩ := h
  refine (Dx.crash_any w own g d (h1.below hb0) A 64 c _ (keep_bools ho) (ownE_cap ho) (ownE_max ho) (fun b off e hmn => ?_) dirs hd1 hd2).mono fun e w' ⟨h3, h4⟩ => ⟨h3, DirB.did (Nat.le_trans hB hb0.size) h2 h4⟩
  have h3 := (OwnE.blk ho (by rw [e]; rfl : ownB A = some b)).1
  have := own_fresh h1.foot h3
  unfold Mine at hmn
  omega
end Go.Proofs.Ytpgkimohekdmmaa.Di
