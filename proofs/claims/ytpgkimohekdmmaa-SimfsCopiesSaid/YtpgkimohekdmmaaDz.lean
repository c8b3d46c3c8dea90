/-
  The program's directory, all of its blocks new since the law began: Rename.
-/
import Derived.Test.YtpgkimohekdmmaaDi
import Derived.Test.YtpgkimohekdmmaaDj
namespace Go.Proofs.Ytpgkimohekdmmaa.Dz
open Go.ChangeShapes Go.WideShapes Go.ChangeAt Go.RowKit
open Bytes8 Blk8 Own8 OwnA OwnM OwnE Fa Fo Ta Ua Kf Dm Dp Dh Di Dj
set_option linter.unusedVariables false
set_option maxRecDepth 100000

theorem rename_b (w : World) (B : Nat) (g : Nat) (d : Dir) (h : DirB B w g d) (o n : List Int) (hA : AllB o) (hl : o.length ≤ 1000) (hA2 : AllB n) (hl2 : n.length ≤ 1000) (hp : d.past.length < 1000000) :
    Calls Try.prog 19 #[.pointer (some ⟨g, 0, none⟩), .string (T o), .string (T n)] w fun e w' => e = .returned (.int .i64 (d.rename o n).1) ∧ DirB B w' g (d.rename o n).2 ∧ Below B w w' := by
  obtain ⟨hB, own, h1, h2⟩ := h
  exact (rename_any w own g d h1 o n hA (by unfold maxLen; omega) hA2 (by unfold maxLen; omega) hp).mono fun e w' ⟨h3, h4⟩ => ⟨h3, DirB.did hB h2 h4⟩
end Go.Proofs.Ytpgkimohekdmmaa.Dz
