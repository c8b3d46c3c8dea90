/-
  Plain: a file written and synced in a directory just begun; what a call may add.
-/
import Derived.Test.YtpgkimohekdmmaaUc
namespace Go.Proofs.Ytpgkimohekdmmaa.Ua
open Bytes8 Ta Fo
set_option linter.unusedVariables false
set_option maxRecDepth 100000
set_option linter.unusedSimpArgs false

/-- "safe" -/
def nS : List Int := [115, 97, 102, 101]
theorem nS_ok : nmOk nS = true := by decide
theorem wrN_first (b : List Int) (h : b.length ≤ 32768) : wrN [] 0 b = b := by
  have e : wrE 0 b.length = 0 := by unfold wrE; rw [if_neg (by omega), if_neg (by omega)]
  unfold wrN
  rw [e, if_pos rfl]
  by_cases h0 : b.length = 0
  · obtain rfl : b = [] := List.eq_nil_of_length_eq_zero h0
    rfl
  · refine (wr_is (by omega) (by simp) fun i hi => ?_).symm
    show b.getD i 0 = if (0 : Int).toNat ≤ i ∧ i < (0 : Int).toNat + b.length then b.getD (i - (0 : Int).toNat) 0 else _
    rw [if_pos ⟨Nat.zero_le _, by simpa using hi⟩]
    rfl
def dS (b s : List Int) (past : List RowD) : Dir := ⟨1048576, [(nS, 1)], past, fun k => if k = 1 then ⟨b, s⟩ else default, 1, -1, false⟩
theorem dS_file (b s : List Int) (past : List RowD) : (dS b s past).file nS = (0, 1) := rfl
theorem dS_lay (b s c t : List Int) (past : List RowD) : (dS b s past).lay 1 ⟨c, t⟩ = dS c t past := by
  unfold Dir.lay dS
  congr 1
  funext k
  by_cases h : k = 1
  · rw [if_pos h, if_pos h]
  · rw [if_neg h, if_neg h]; exact if_neg h
theorem dS_make : (Dir.new 1048576).make nS = (0, dS [] [] [[]]) := by
  have h : (Dir.new 1048576).make nS = (0, (⟨1048576, [(nS, 1)], [[]], fun _ => default, 1, -1, false⟩ : Dir).lay 1 default) := rfl
  rw [h]
  unfold Dir.lay dS
  rfl
theorem dS_write {b : List Int} (h : b.length ≤ 1000) : (dS [] [] [[]]).write nS 0 b = (0, dS b [] [[]]) := by
  have e : wrE 0 b.length = 0 := by unfold wrE; rw [if_neg (by omega), if_neg (by omega)]
  unfold Dir.write
  rw [dS_file, if_neg (by simp), if_neg (by simpa using e)]
  have e2 : (dS [] [] [[]]).fl 1 = ⟨[], []⟩ := rfl
  have e3 : (dS [] [] [[]]).total = 0 := rfl
  simp only [e2, e3, wrN_first b (by omega)]
  rw [if_neg (by show ¬ ((1048576 : Nat) < _ ∧ _); simp; omega)]
  show (0, (dS [] [] [[]]).lay 1 ⟨b, []⟩) = _
  rw [dS_lay]
theorem dS_sync (b : List Int) : (dS b [] [[]]).sync nS = (0, dS b b [[]]) := by
  unfold Dir.sync
  rw [dS_file, if_neg (by simp)]
  show (0, (dS b [] [[]]).lay 1 ⟨b, b⟩) = _
  rw [dS_lay]
theorem dS_syncDir (b : List Int) : (dS b b [[]]).syncDir = (0, dS b b []) := rfl
theorem dS_stays {b : List Int} (hA : AllB b) (h : b.length ≤ 1000) : Stays (dS b b []) nS b := by
  have g1 := good_make (good_new 1048576) nS
  rw [dS_make] at g1
  have g2 := good_write g1 nS 0 hA
  rw [dS_write h] at g2
  have g3 := good_sync g2 nS
  rw [dS_sync] at g3
  have g4 := good_syncDir g3
  rw [dS_syncDir] at g4
  exact ⟨g4, nS_ok, rfl, (fun r hr => by cases hr), rfl⟩

/-- What a call may add. -/
def More (d d' : Dir) : Prop := d'.made ≤ d.made + 1 ∧ d'.past.length ≤ d.past.length + 1
theorem More.refl (d : Dir) : More d d := ⟨by omega, by omega⟩
theorem more_fine {d : Dir} {f : Dir → Dir} (h : More d (f d.burnt)) : More d (d.fine f).2 := by
  obtain ⟨_, e2, e3, e4, e5⟩ := d.burnt_same
  unfold Dir.fine
  split
  · exact ⟨by show d.burnt.made ≤ _; rw [e5]; omega, by show d.burnt.past.length ≤ _; rw [e3]; omega⟩
  · exact h
theorem more_make (d : Dir) (n : List Int) : More d (d.make n).2 := by
  obtain ⟨_, e2, e3, e4, e5⟩ := d.burnt_same
  unfold Dir.make
  repeat' split
  · exact More.refl d
  · exact More.refl d
  · exact More.refl d
  · refine more_fine ⟨?_, ?_⟩
    · show d.burnt.made + 1 ≤ _; rw [e5]; omega
    · show (d.burnt.past ++ [d.burnt.row]).length ≤ _; rw [e3]; simp
theorem more_lay (d : Dir) (k : Nat) (x : Fl) : More d (d.fine fun d' => d'.lay k x).2 := by
  obtain ⟨_, e2, e3, e4, e5⟩ := d.burnt_same
  refine more_fine ⟨?_, ?_⟩
  · show d.burnt.made ≤ _; rw [e5]; omega
  · show d.burnt.past.length ≤ _; rw [e3]; omega
theorem more_write (d : Dir) (n : List Int) (p : Int) (b : List Int) : More d (d.write n p b).2 := by
  unfold Dir.write
  by_cases h1 : (d.file n).1 ≠ 0
  · rw [if_pos h1]; exact More.refl d
  · rw [if_neg h1]
    by_cases h2 : wrE p b.length ≠ 0
    · rw [if_pos h2]; exact More.refl d
    · rw [if_neg h2]
      simp only
      split
      · exact More.refl d
      · exact more_lay d _ _
theorem more_sync (d : Dir) (n : List Int) : More d (d.sync n).2 := by
  unfold Dir.sync
  split
  · exact More.refl d
  · exact more_lay d _ _
theorem more_drop (d : Dir) (n : List Int) : More d (d.drop n).2 := by
  obtain ⟨_, e2, e3, e4, e5⟩ := d.burnt_same
  unfold Dir.drop
  split
  · exact More.refl d
  · refine more_fine ⟨?_, ?_⟩
    · show d.burnt.made ≤ _; rw [e5]; omega
    · show (d.burnt.past ++ [d.burnt.row]).length ≤ _; rw [e3]; simp
theorem more_rename (d : Dir) (o n : List Int) : More d (d.rename o n).2 := by
  obtain ⟨_, e2, e3, e4, e5⟩ := d.burnt_same
  unfold Dir.rename
  by_cases h1 : d.ask o ≠ 0
  · rw [if_pos h1]; exact More.refl d
  rw [if_neg h1]
  by_cases h2 : nmOk n ≠ true
  · rw [if_pos h2]; exact More.refl d
  rw [if_neg h2]
  by_cases h3 : (d.file o).1 ≠ 0
  · rw [if_pos h3]; exact More.refl d
  rw [if_neg h3]
  refine more_fine ?_
  by_cases h4 : o = n
  · simp only [if_pos h4]
    exact ⟨by rw [e5]; omega, by rw [e3]; omega⟩
  · simp only [if_neg h4]
    exact ⟨by show d.burnt.made ≤ _; rw [e5]; omega, by show (d.burnt.past ++ [d.burnt.row]).length ≤ _; rw [e3]; simp⟩
end Go.Proofs.Ytpgkimohekdmmaa.Ua
