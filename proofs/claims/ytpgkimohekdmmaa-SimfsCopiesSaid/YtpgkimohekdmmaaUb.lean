/-
  Plain: what a directory keeps: behind each call, behind a crash.
-/
import Derived.Test.YtpgkimohekdmmaaUa
namespace Go.Proofs.Ytpgkimohekdmmaa.Ua
open Bytes8 Ta Fo
set_option linter.unusedVariables false
set_option maxRecDepth 100000
set_option linter.unusedSimpArgs false

theorem crash_self (l : List Int) (kp : Nat → Bool) : crash l l kp = l := crash_none fun i hi => by rw [dirty_self] at hi; exact absurd hi (by simp)

/-- What a crash does to one file. -/
theorem crashTo_fl (r : RowD) (fl : Nat → Fl) (L : Nat) (K : Nat → Bool) (N k : Nat) :
    ∃ kp, (crashTo r fl L K N).2 k = if (1 ≤ k ∧ k ≤ N) ∧ k ∈ r.map (·.2) then ⟨crash (fl k).now (fl k).safe kp, crash (fl k).now (fl k).safe kp⟩ else fl k := by
  induction N with
  | zero => exact ⟨fun _ => false, by rw [if_neg (by omega)]; rfl⟩
  | succ N ih =>
    obtain ⟨kp, ih⟩ := ih
    unfold crashTo
    simp only
    by_cases hc : (r.map (·.2)).contains (N + 1) = true
    · rw [if_pos hc]
      by_cases hk : k = N + 1
      · subst hk
        refine ⟨fun i => decide ((crashTo r fl L K N).1 + i < L) && K ((crashTo r fl L K N).1 + i), ?_⟩
        rw [if_pos ⟨by omega, by simpa using hc⟩]
        simp
      · refine ⟨kp, ?_⟩
        simp only [if_neg hk, ih]
        have : ((1 ≤ k ∧ k ≤ N) ∧ k ∈ r.map (·.2)) = ((1 ≤ k ∧ k ≤ N + 1) ∧ k ∈ r.map (·.2)) := by
          apply propext
          constructor
          · rintro ⟨h1, h2⟩; exact ⟨by omega, h2⟩
          · rintro ⟨h1, h2⟩; exact ⟨by omega, h2⟩
        simp only [this]
    · rw [if_neg hc]
      by_cases hk : k = N + 1
      · subst hk
        refine ⟨kp, ?_⟩
        rw [ih, if_neg (by omega), if_neg (fun h => hc (by simpa using h.2))]
      · refine ⟨kp, ?_⟩
        rw [ih]
        have : ((1 ≤ k ∧ k ≤ N) ∧ k ∈ r.map (·.2)) = ((1 ≤ k ∧ k ≤ N + 1) ∧ k ∈ r.map (·.2)) := by
          apply propext
          constructor
          · rintro ⟨h1, h2⟩; exact ⟨by omega, h2⟩
          · rintro ⟨h1, h2⟩; exact ⟨by omega, h2⟩
        simp only [this]

/-! ## what is so at any time -/
structure GoodRow (made : Nat) (r : RowD) : Prop where
  rises : Rises r
  few : r.length ≤ 24
  ids : ∀ p ∈ r, 1 ≤ p.2 ∧ p.2 ≤ made
  once : (r.map (·.2)).Nodup
  names : ∀ p ∈ r, nmOk p.1 = true
structure GoodFl (x : Fl) : Prop where
  le : x.safe.length ≤ x.now.length
  max : x.now.length ≤ 32768
  now : AllB x.now
  safe : AllB x.safe
structure Good (d : Dir) : Prop where
  row : GoodRow d.made d.row
  past : ∀ r ∈ d.past, GoodRow d.made r
  fl : ∀ b, GoodFl (d.fl b)

theorem GoodRow.more {m m' : Nat} {r : RowD} (h : GoodRow m r) (hm : m ≤ m') : GoodRow m' r := ⟨h.rises, h.few, fun p hp => ⟨(h.ids p hp).1, Nat.le_trans (h.ids p hp).2 hm⟩, h.once, h.names⟩
theorem GoodRow.nil (m : Nat) : GoodRow m [] := ⟨List.Pairwise.nil, by simp, (fun p h => by cases h), List.nodup_nil, (fun p h => by cases h)⟩
theorem GoodFl.nil : GoodFl default := ⟨Nat.le_refl _, by decide, (fun _ h => by cases h), (fun _ h => by cases h)⟩
theorem good_new (room : Nat) : Good (Dir.new room) := ⟨GoodRow.nil _, (fun r h => by cases h), fun _ => GoodFl.nil⟩
theorem out_ids (r : RowD) (n : List Int) : List.Sublist ((out r n).map (·.2)) (r.map (·.2)) := (List.filter_sublist (l := r)).map _
theorem GoodRow.out {m : Nat} {r : RowD} (h : GoodRow m r) (n : List Int) : GoodRow m (out r n) :=
  ⟨out_rises h.rises n, Nat.le_trans (List.length_filter_le _ _) h.few, fun p hp => h.ids p ((List.mem_filter.1 hp).1), List.Nodup.sublist (out_ids r n) h.once, fun p hp => h.names p ((List.mem_filter.1 hp).1)⟩
theorem put_ids {r : RowD} {n : List Int} {b : Nat} (hb : b ∉ r.map (·.2)) (h : (r.map (·.2)).Nodup) : ((put r n b).map (·.2)).Nodup := by
  induction r with
  | nil => simp [put]
  | cons p r ih =>
    simp only [List.map_cons, List.mem_cons, not_or] at hb
    simp only [List.map_cons, List.nodup_cons] at h
    unfold put
    split
    · simp only [List.map_cons, List.nodup_cons]
      exact ⟨hb.2, h.2⟩
    · split
      · simp only [List.map_cons, List.nodup_cons, List.mem_cons, not_or]
        exact ⟨hb, h⟩
      · simp only [List.map_cons, List.nodup_cons]
        refine ⟨fun hm => ?_, ih hb.2 h.2⟩
        obtain ⟨q, hq, e⟩ := List.mem_map.1 hm
        rcases put_mem hq with h1 | h1
        · rw [h1] at e; exact hb.1 e
        · exact h.1 (List.mem_map.2 ⟨q, h1, e⟩)
theorem GoodRow.put {m : Nat} {r : RowD} (h : GoodRow m r) {n : List Int} {b : Nat} (hn : nmOk n = true) (hb : 1 ≤ b ∧ b ≤ m) (hb2 : b ∉ r.map (·.2)) (hl : r.length < 24) : GoodRow m (put r n b) :=
  ⟨put_rises h.rises n b, by rw [put_length h.rises]; split <;> omega, fun p hp => by
    rcases put_mem hp with h1 | h1
    · rw [h1]; exact hb
    · exact h.ids p h1, put_ids hb2 h.once, fun p hp => by
    rcases put_mem hp with h1 | h1
    · rw [h1]; exact hn
    · exact h.names p h1⟩
/-- One file has one name. -/
theorem id_once {r : RowD} (h : (r.map (·.2)).Nodup) {n m : List Int} {b : Nat} (hn : (n, b) ∈ r) (hm : (m, b) ∈ r) : n = m := by
  induction r with
  | nil => cases hn
  | cons p r ih =>
    simp only [List.map_cons, List.nodup_cons] at h
    rcases List.mem_cons.1 hn with h1 | h1 <;> rcases List.mem_cons.1 hm with h2 | h2
    · rw [← h1] at h2; injection h2 with e _; exact e.symm
    · rw [← h1] at h; exact absurd (List.mem_map.2 ⟨_, h2, rfl⟩) h.1
    · rw [← h2] at h; exact absurd (List.mem_map.2 ⟨_, h1, rfl⟩) h.1
    · exact ih h.2 h1 h2
theorem out_gone {r : RowD} (h : (r.map (·.2)).Nodup) {n : List Int} {b : Nat} (hn : at_ r n = some b) : b ∉ (out r n).map (·.2) := fun hm => by
  obtain ⟨q, hq, e⟩ := List.mem_map.1 hm
  have h1 := (List.mem_filter.1 hq).1
  have h2 := id_once h (at_some hn) (show (q.1, b) ∈ r by rw [← e]; exact h1)
  have h3 := (List.mem_filter.1 hq).2
  simp at h3
  exact h3 h2.symm

theorem Dir.burnt_same (d : Dir) : d.burnt.room = d.room ∧ d.burnt.row = d.row ∧ d.burnt.past = d.past ∧ d.burnt.fl = d.fl ∧ d.burnt.made = d.made := by
  unfold Dir.burnt
  split
  · exact ⟨rfl, rfl, rfl, rfl, rfl⟩
  · split <;> exact ⟨rfl, rfl, rfl, rfl, rfl⟩
theorem good_burnt {d : Dir} (h : Good d) : Good d.burnt := by
  obtain ⟨_, h2, h3, h4, h5⟩ := d.burnt_same
  exact ⟨by rw [h2, h5]; exact h.row, by rw [h3, h5]; exact h.past, by rw [h4]; exact h.fl⟩
theorem good_fine {d : Dir} {f : Dir → Dir} (h : Good d) (hf : Good (f d.burnt)) : Good (d.fine f).2 := by
  unfold Dir.fine
  split
  · exact good_burnt h
  · exact hf
theorem good_step {d : Dir} {r : RowD} (h : Good d) (hr : GoodRow d.made r) : Good (d.step r) :=
  ⟨hr, fun q hq => by
    rcases List.mem_append.1 (show q ∈ d.past ++ [d.row] from hq) with h1 | h1
    · exact h.past q h1
    · rw [List.mem_singleton.1 h1]; exact h.row, h.fl⟩
theorem good_lay {d : Dir} {b : Nat} {x : Fl} (h : Good d) (hx : GoodFl x) : Good (d.lay b x) :=
  ⟨h.row, h.past, fun k => by
    show GoodFl (if k = b then x else d.fl k)
    split
    · exact hx
    · exact h.fl k⟩
theorem ask_ok {d : Dir} {n : List Int} (h : ¬ d.ask n ≠ 0) : d.off = false ∧ nmOk n = true := by
  unfold Dir.ask at h
  split at h
  · exact absurd (by decide) h
  · split at h
    · rename_i h1 h2
      exact ⟨by simpa using h1, h2⟩
    · exact absurd (by decide) h
theorem file_ok {d : Dir} {n : List Int} (h : ¬ (d.file n).1 ≠ 0) : d.off = false ∧ nmOk n = true ∧ at_ d.row n = some (d.file n).2 := by
  unfold Dir.file at h ⊢
  by_cases ha : d.ask n ≠ 0
  · rw [if_pos ha] at h; exact absurd ha h
  · obtain ⟨h1, h2⟩ := ask_ok ha
    rw [if_neg ha] at h ⊢
    refine ⟨h1, h2, ?_⟩
    cases hr : at_ d.row n with
    | none => rw [hr] at h; exact absurd (by decide) h
    | some b => rfl
theorem good_make {d : Dir} (h : Good d) (n : List Int) : Good (d.make n).2 := by
  unfold Dir.make
  split
  · exact h
  split
  · exact h
  split
  · exact h
  rename_i h1 h2 h3
  obtain ⟨_, hn⟩ := ask_ok h1
  refine good_fine h ?_
  have hb := good_burnt h
  obtain ⟨_, e2, _, _, e5⟩ := d.burnt_same
  have hg : Good { d.burnt with made := d.burnt.made + 1 } := ⟨hb.row.more (Nat.le_succ _), fun r hr => (hb.past r hr).more (Nat.le_succ _), hb.fl⟩
  refine good_lay (good_step hg (GoodRow.put hg.row hn ⟨Nat.succ_le_succ (Nat.zero_le _), Nat.le_refl _⟩ (fun hm => ?_) (by show d.burnt.row.length < 24; rw [e2]; omega))) GoodFl.nil
  obtain ⟨q, hq, e⟩ := List.mem_map.1 hm
  have := (hb.row.ids q hq).2
  have e' : q.2 = d.burnt.made + 1 := e
  omega
theorem good_wrN {x : Fl} (h : GoodFl x) {p : Int} {b : List Int} (hb : AllB b) : GoodFl ⟨wrN x.now p b, x.safe⟩ := by
  unfold wrN
  split
  · rename_i h0
    unfold wrE at h0
    by_cases hp : p < 0
    · rw [if_pos hp] at h0; cases h0
    · rw [if_neg hp] at h0
      by_cases hm : 32768 - p < (b.length : Int)
      · rw [if_pos hm] at h0; cases h0
      · by_cases h1 : b.length = 0
        · obtain rfl : b = [] := List.eq_nil_of_length_eq_zero h1
          rw [wr_nil]; exact h
        · have hl := wr_length (now := x.now) (p := p.toNat) (show 0 < b.length by omega)
          have h2 := h.le
          have h3 := h.max
          exact ⟨by show x.safe.length ≤ (wr x.now p.toNat b).length; omega, by show (wr x.now p.toNat b).length ≤ 32768; omega, wr_all h.now hb, h.safe⟩
  · exact h
theorem good_write {d : Dir} (h : Good d) (n : List Int) (p : Int) {b : List Int} (hb : AllB b) : Good (d.write n p b).2 := by
  unfold Dir.write
  split
  · exact h
  split
  · exact h
  simp only
  split
  · exact h
  exact good_fine h (good_lay (good_burnt h) (good_wrN (h.fl _) hb))
theorem good_sync {d : Dir} (h : Good d) (n : List Int) : Good (d.sync n).2 := by
  unfold Dir.sync
  split
  · exact h
  exact good_fine h (good_lay (good_burnt h) ⟨Nat.le_refl _, (h.fl _).max, (h.fl _).now, (h.fl _).now⟩)
theorem good_rename {d : Dir} (h : Good d) (o n : List Int) : Good (d.rename o n).2 := by
  unfold Dir.rename
  split
  · exact h
  split
  · exact h
  split
  · exact h
  rename_i h1 h2 h3
  obtain ⟨_, _, ha⟩ := file_ok h3
  refine good_fine h ?_
  show Good (if o = n then d.burnt else d.burnt.step (put (out d.row o) n (d.file o).2))
  split
  · exact good_burnt h
  · have hb := good_burnt h
    obtain ⟨_, e2, _, _, e5⟩ := d.burnt_same
    refine good_step hb ?_
    rw [e5]
    have hi := h.row.ids _ (at_some ha)
    refine GoodRow.put (h.row.out o) (by simpa using h2) hi (out_gone h.row.once ha) ?_
    rw [out_length h.row.rises, ha]
    have := h.row.few
    have h0 : 0 < d.row.length := List.length_pos_of_mem (at_some ha)
    simp; omega
theorem good_drop {d : Dir} (h : Good d) (n : List Int) : Good (d.drop n).2 := by
  unfold Dir.drop
  split
  · exact h
  have hb := good_burnt h
  obtain ⟨_, e2, _, _, e5⟩ := d.burnt_same
  exact good_fine h (good_step hb (by rw [e5]; exact h.row.out n))
theorem good_syncDir {d : Dir} (h : Good d) : Good d.syncDir.2 := by
  unfold Dir.syncDir
  split
  · exact h
  have hb := good_burnt h
  exact good_fine h ⟨hb.row, (fun r hr => by cases hr), hb.fl⟩
theorem good_setFuse {d : Dir} (h : Good d) (n : Int) : Good (d.setFuse n) := ⟨h.row, h.past, h.fl⟩
theorem good_back {d : Dir} (h : Good d) (k : Int) : GoodRow d.made (d.back k) := by
  unfold Dir.back
  split
  · rename_i h1
    rw [List.getD_eq_getElem?_getD, List.getElem?_eq_getElem h1]
    exact h.past _ (List.getElem_mem h1)
  · exact h.row
theorem good_crashed {x : Fl} (h : GoodFl x) (kp : Nat → Bool) : GoodFl ⟨crash x.now x.safe kp, crash x.now x.safe kp⟩ := by
  have h1 := crash_len_le x.now x.safe kp
  have h2 := h.le
  have h3 := h.max
  exact ⟨Nat.le_refl _, by show (crash x.now x.safe kp).length ≤ 32768; omega, crash_all h.now h.safe kp, crash_all h.now h.safe kp⟩
theorem good_crash {d : Dir} (h : Good d) (L : Nat) (K : Nat → Bool) (k : Int) : Good (d.crash L K k) :=
  ⟨good_back h k, (fun r hr => by cases hr), fun b => by
    obtain ⟨kp, e⟩ := crashTo_fl (d.back k) d.fl L K d.made b
    show GoodFl ((crashTo (d.back k) d.fl L K d.made).2 b)
    rw [e]
    split
    · exact good_crashed (h.fl b) kp
    · exact h.fl b⟩
end Go.Proofs.Ytpgkimohekdmmaa.Ua
