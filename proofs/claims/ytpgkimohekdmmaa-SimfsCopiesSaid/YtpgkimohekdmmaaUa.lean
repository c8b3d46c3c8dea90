/-
  Plain: a directory of files that may lose sectors, as its chapter has it: names, what is pending, a fuse, a crash.
-/
import Derived.Test.YtpgkimohekdmmaaTa
import Derived.Test.YtpgkimohekdmmaaLt
namespace Go.Proofs.Ytpgkimohekdmmaa.Ua
open Bytes8 Ta Fo
set_option linter.unusedVariables false
set_option maxRecDepth 100000
set_option linter.unusedSimpArgs false

/-- A name that may be. -/
def nmOk (n : List Int) : Bool := decide (1 ≤ n.length) && decide (n.length ≤ 96) && n.all (fun c => decide (33 ≤ c) && decide (c ≤ 126))
theorem nmOk_all {n : List Int} (h : nmOk n = true) : AllB n ∧ 1 ≤ n.length ∧ n.length ≤ 96 := by
  unfold nmOk at h
  simp only [Bool.and_eq_true, decide_eq_true_eq, List.all_eq_true] at h
  refine ⟨fun c hc => ?_, h.1.1, h.1.2⟩
  have := h.2 c hc
  omega

/-- What a file has, and what of it is safe. -/
structure Fl where
  now : List Int
  safe : List Int
instance : Inhabited Fl := ⟨⟨[], []⟩⟩

/-! ## a row: names, by bytes, each with the number of the file that it names -/
abbrev RowD := List (List Int × Nat)
def at_ : RowD → List Int → Option Nat
  | [], _ => none
  | p :: r, n => if p.1 = n then some p.2 else at_ r n
def out (r : RowD) (n : List Int) : RowD := r.filter fun p => decide (p.1 ≠ n)
def put : RowD → List Int → Nat → RowD
  | [], n, b => [(n, b)]
  | p :: r, n, b => if p.1 = n then (n, b) :: r else if ltL n p.1 = true then (n, b) :: p :: r else p :: put r n b
/-- Names rise. -/
def Rises (r : RowD) : Prop := r.Pairwise fun p q => ltL p.1 q.1 = true

theorem at_none {r : RowD} {n : List Int} : at_ r n = none ↔ ∀ p ∈ r, p.1 ≠ n := by
  induction r with
  | nil => simp [at_]
  | cons p r ih =>
    unfold at_
    by_cases h : p.1 = n
    · rw [if_pos h]; simp [h]
    · rw [if_neg h, ih]; simp [h]
theorem at_some {r : RowD} {n : List Int} {b : Nat} (h : at_ r n = some b) : (n, b) ∈ r := by
  induction r with
  | nil => cases h
  | cons p r ih =>
    unfold at_ at h
    by_cases h1 : p.1 = n
    · rw [if_pos h1] at h
      injection h with h
      subst h1; subst h
      simp
    · rw [if_neg h1] at h
      exact List.mem_cons_of_mem _ (ih h)
theorem lt_ne {a b : List Int} (h : ltL a b = true) : a ≠ b := fun e => by rw [e, ltL_irrefl] at h; cases h
theorem at_mem {r : RowD} (hr : Rises r) {n : List Int} {b : Nat} (h : (n, b) ∈ r) : at_ r n = some b := by
  induction r with
  | nil => cases h
  | cons p r ih =>
    unfold at_
    rcases List.mem_cons.1 h with h1 | h1
    · rw [← h1, if_pos rfl]
    · have := (List.pairwise_cons.1 hr).1 _ h1
      rw [if_neg (lt_ne this)]
      exact ih (List.pairwise_cons.1 hr).2 h1
theorem out_at {r : RowD} {n m : List Int} : at_ (out r n) m = if m = n then none else at_ r m := by
  induction r with
  | nil => simp [out, at_]
  | cons p r ih =>
    unfold out at ih ⊢
    by_cases h : p.1 = n
    · rw [List.filter_cons_of_neg (by simp [h]), ih]
      by_cases hm : m = n
      · rw [if_pos hm, if_pos hm]
      · rw [if_neg hm, if_neg hm]
        conv => rhs; unfold at_
        rw [if_neg (fun e => hm (e.symm.trans h))]
    · rw [List.filter_cons_of_pos (by simp [h])]
      conv => lhs; unfold at_
      by_cases hp : p.1 = m
      · rw [if_pos hp, if_neg (fun e => h (hp.trans e))]
        unfold at_
        rw [if_pos hp]
      · rw [if_neg hp, ih]
        conv => rhs; unfold at_
        rw [if_neg hp]
theorem out_rises {r : RowD} (hr : Rises r) (n : List Int) : Rises (out r n) := List.Pairwise.filter _ hr
theorem put_mem {r : RowD} {n : List Int} {b : Nat} {p : List Int × Nat} (h : p ∈ put r n b) : p = (n, b) ∨ p ∈ r := by
  induction r with
  | nil => simpa [put] using h
  | cons q r ih =>
    unfold put at h
    split at h
    · rcases List.mem_cons.1 h with h1 | h1
      · exact .inl h1
      · exact .inr (List.mem_cons_of_mem _ h1)
    · split at h
      · rcases List.mem_cons.1 h with h1 | h1
        · exact .inl h1
        · exact .inr h1
      · rcases List.mem_cons.1 h with h1 | h1
        · exact .inr (by rw [h1]; simp)
        · rcases ih h1 with h2 | h2
          · exact .inl h2
          · exact .inr (List.mem_cons_of_mem _ h2)
theorem put_at (r : RowD) (n m : List Int) (b : Nat) : at_ (put r n b) m = if m = n then some b else at_ r m := by
  induction r with
  | nil =>
    unfold put at_
    by_cases h : m = n
    · rw [if_pos h.symm, if_pos h]
    · rw [if_neg (fun e => h e.symm), if_neg h]; rfl
  | cons p r ih =>
    unfold put
    by_cases h1 : p.1 = n
    · rw [if_pos h1]
      unfold at_
      by_cases h : m = n
      · rw [if_pos h.symm, if_pos h]
      · rw [if_neg (fun e => h e.symm), if_neg h, if_neg (fun e => h (e.symm.trans h1))]
    · rw [if_neg h1]
      by_cases h2 : ltL n p.1 = true
      · rw [if_pos h2]
        conv => lhs; unfold at_
        by_cases h : m = n
        · rw [if_pos h.symm, if_pos h]
        · rw [if_neg (fun e => h e.symm), if_neg h]
      · rw [if_neg h2]
        unfold at_
        by_cases h : m = n
        · rw [if_neg (fun e => h1 (e.trans h)), ih, if_pos h, if_pos h]
        · rw [ih, if_neg h, if_neg h]
theorem put_rises {r : RowD} (hr : Rises r) (n : List Int) (b : Nat) : Rises (put r n b) := by
  induction r with
  | nil => exact List.pairwise_singleton _ _
  | cons p r ih =>
    have h1 := List.pairwise_cons.1 hr
    unfold put
    by_cases hp : p.1 = n
    · rw [if_pos hp]
      exact List.pairwise_cons.2 ⟨fun q hq => by rw [← hp]; exact h1.1 q hq, h1.2⟩
    · rw [if_neg hp]
      by_cases h2 : ltL n p.1 = true
      · rw [if_pos h2]
        refine List.pairwise_cons.2 ⟨fun q hq => ?_, hr⟩
        rcases List.mem_cons.1 hq with h3 | h3
        · rw [h3]; exact h2
        · exact ltL_trans _ _ _ h2 (h1.1 q h3)
      · rw [if_neg h2]
        refine List.pairwise_cons.2 ⟨fun q hq => ?_, ih h1.2⟩
        rcases put_mem hq with h3 | h3
        · rw [h3]
          cases h4 : ltL p.1 n with
          | true => rfl
          | false => exact absurd (ltL_total _ _ h4 (by simpa using h2)) hp
        · exact h1.1 q h3
theorem at_far {r : RowD} {n : List Int} {p : List Int × Nat} (hr : Rises (p :: r)) (h : ltL n p.1 = true) : at_ r n = none := at_none.2 fun q hq e => by
  have h1 := ltL_trans _ _ _ h ((List.pairwise_cons.1 hr).1 q hq)
  rw [e, ltL_irrefl] at h1; cases h1
theorem put_length {r : RowD} (hr : Rises r) {n : List Int} {b : Nat} : (put r n b).length = if (at_ r n).isSome then r.length else r.length + 1 := by
  induction r with
  | nil => rfl
  | cons p r ih =>
    unfold put at_
    by_cases hp : p.1 = n
    · rw [if_pos hp, if_pos hp]; rfl
    · rw [if_neg hp, if_neg hp]
      by_cases h2 : ltL n p.1 = true
      · rw [if_pos h2, at_far hr h2]; rfl
      · rw [if_neg h2, List.length_cons, ih (List.pairwise_cons.1 hr).2]
        split <;> simp
theorem out_length {r : RowD} (hr : Rises r) {n : List Int} : (out r n).length = if (at_ r n).isSome then r.length - 1 else r.length := by
  induction r with
  | nil => rfl
  | cons p r ih =>
    have h1 := List.pairwise_cons.1 hr
    have ih := ih h1.2
    unfold out at ih ⊢
    unfold at_
    by_cases hp : p.1 = n
    · rw [List.filter_cons_of_neg (by simp [hp]), if_pos hp, ih]
      have : at_ r n = none := at_none.2 fun q hq e => by
        have := h1.1 q hq
        rw [hp, e, ltL_irrefl] at this; cases this
      rw [this]; simp
    · rw [List.filter_cons_of_pos (by simp [hp]), if_neg hp, List.length_cons, ih]
      have hm : (at_ r n).isSome = true → 0 < r.length := fun h => by
        cases r with
        | nil => cases h
        | cons => simp
      split
      · rename_i h
        have := hm h
        simp; omega
      · simp

/-! ## a directory -/
structure Dir where
  room : Nat
  row : RowD
  past : List RowD
  fl : Nat → Fl
  made : Nat
  fuse : Int
  off : Bool
def Dir.new (room : Nat) : Dir := ⟨room, [], [], fun _ => default, 0, -1, false⟩
def Dir.total (d : Dir) : Nat := (d.row.map fun p => (d.fl p.2).now.length).sum
def Dir.ask (d : Dir) (n : List Int) : Int := if d.off = true then 18 else if nmOk n = true then 0 else 1
/-- What the fuse does to a call that would tell Fine: it is not done, power is off. -/
def Dir.burns (d : Dir) : Bool := decide (d.fuse = 0)
def Dir.burnt (d : Dir) : Dir := if d.fuse < 0 then d else if d.fuse = 0 then { d with off := true } else { d with fuse := d.fuse - 1 }
def Dir.step (d : Dir) (r : RowD) : Dir := { d with past := d.past ++ [d.row], row := r }
def Dir.lay (d : Dir) (b : Nat) (x : Fl) : Dir := { d with fl := fun k => if k = b then x else d.fl k }
/-- A call that would tell Fine: done, or not. -/
def Dir.fine (d : Dir) (f : Dir → Dir) : Int × Dir := if d.burns = true then (18, d.burnt) else (0, f d.burnt)
/-- A file by its name: the code, the file. -/
def Dir.file (d : Dir) (n : List Int) : Int × Nat := if d.ask n ≠ 0 then (d.ask n, 0) else match at_ d.row n with | none => (16, 0) | some b => (0, b)

def Dir.make (d : Dir) (n : List Int) : Int × Dir :=
  if d.ask n ≠ 0 then (d.ask n, d) else if (at_ d.row n).isSome then (17, d) else if 24 ≤ d.row.length then (15, d)
  else d.fine fun d => ({ d with made := d.made + 1 }.step (put d.row n (d.made + 1))).lay (d.made + 1) default
/-- sect's code, and what is there then. -/
def wrE (p : Int) (m : Nat) : Int := if p < 0 then 1 else if 32768 - p < (m : Int) then 15 else 0
def wrN (now : List Int) (p : Int) (b : List Int) : List Int := if wrE p b.length = 0 then wr now p.toNat b else now
def Dir.write (d : Dir) (n : List Int) (p : Int) (b : List Int) : Int × Dir :=
  if (d.file n).1 ≠ 0 then ((d.file n).1, d) else
  if wrE p b.length ≠ 0 then (wrE p b.length, d) else
  let x := d.fl (d.file n).2
  if d.room < d.total - x.now.length + (wrN x.now p b).length ∧ x.now.length < (wrN x.now p b).length then (15, d)
  else d.fine fun d' => d'.lay (d.file n).2 ⟨wrN x.now p b, x.safe⟩
def Dir.sync (d : Dir) (n : List Int) : Int × Dir :=
  if (d.file n).1 ≠ 0 then ((d.file n).1, d) else d.fine fun d' => d'.lay (d.file n).2 ⟨(d.fl (d.file n).2).now, (d.fl (d.file n).2).now⟩
def Dir.rename (d : Dir) (o n : List Int) : Int × Dir :=
  if d.ask o ≠ 0 then (d.ask o, d) else if nmOk n ≠ true then (1, d) else if (d.file o).1 ≠ 0 then ((d.file o).1, d)
  else d.fine fun d' => if o = n then d' else d'.step (put (out d.row o) n (d.file o).2)
def Dir.drop (d : Dir) (n : List Int) : Int × Dir :=
  if (d.file n).1 ≠ 0 then ((d.file n).1, d) else d.fine fun d' => d'.step (out d.row n)
def Dir.syncDir (d : Dir) : Int × Dir := if d.off = true then (18, d) else d.fine fun d' => { d' with past := [] }
def Dir.setFuse (d : Dir) (n : Int) : Dir := { d with fuse := max n (-1) }
def Dir.names (d : Dir) : List (List Int) := if d.off = true then [] else d.row.map (·.1)
def Dir.free (d : Dir) : Nat := if d.off = true then 0 else d.room - d.total
def Dir.all (d : Dir) (n : List Int) : Int × List Int := if (d.file n).1 ≠ 0 then ((d.file n).1, []) else (0, (d.fl (d.file n).2).now)
/-- The row that is there behind a crash. -/
def Dir.back (d : Dir) (k : Int) : RowD := if (max k 0).toNat < d.past.length then d.past.getD (max k 0).toNat [] else d.row
/-- The files numbered up to n crashed, and how many of the kept ones were asked for. -/
def crashTo (r : RowD) (fl : Nat → Fl) (L : Nat) (K : Nat → Bool) : Nat → Nat × (Nat → Fl)
  | 0 => (0, fl)
  | n + 1 =>
    let q := crashTo r fl L K n
    if (r.map (·.2)).contains (n + 1) then
      let x := fl (n + 1)
      let y := crash x.now x.safe fun i => decide (q.1 + i < L) && K (q.1 + i)
      (q.1 + (dirty x.now x.safe).length, fun k => if k = n + 1 then ⟨y, y⟩ else q.2 k)
    else q
def Dir.crash (d : Dir) (L : Nat) (K : Nat → Bool) (k : Int) : Dir :=
  { d with row := d.back k, past := [], off := false, fuse := -1, fl := (crashTo (d.back k) d.fl L K d.made).2 }
end Go.Proofs.Ytpgkimohekdmmaa.Ua
