/-
  Plain: what the statements on a directory say of it: a synced file stays; names made one behind the other; as many as may be; a fuse.
-/
import Derived.Test.YtpgkimohekdmmaaUb
namespace Go.Proofs.Ytpgkimohekdmmaa.Ua
open Bytes8 Ta Fo
set_option linter.unusedVariables false
set_option maxRecDepth 100000
set_option linter.unusedSimpArgs false

/-! ## a file that was synced, its name too -/
structure Stays (d : Dir) (S : List Int) (b : List Int) : Prop where
  good : Good d
  ok : nmOk S = true
  row : at_ d.row S = some 1
  past : ∀ r ∈ d.past, at_ r S = some 1
  fl : d.fl 1 = ⟨b, b⟩
theorem Stays.made {d : Dir} {S b : List Int} (h : Stays d S b) : 1 ≤ d.made := (h.good.row.ids _ (at_some h.row)).2
theorem Stays.other {d : Dir} {S b : List Int} (h : Stays d S b) {n : List Int} {k : Nat} (hk : at_ d.row n = some k) (hn : n ≠ S) : k ≠ 1 := fun e => by
  subst e
  exact hn (id_once h.good.row.once (at_some hk) (at_some h.row))
theorem stays_fine {d : Dir} {S b : List Int} (h : Stays d S b) {f : Dir → Dir} (hg : Good (d.fine f).2) (h1 : at_ (f d.burnt).row S = some 1) (h2 : ∀ r ∈ (f d.burnt).past, at_ r S = some 1) (h3 : (f d.burnt).fl 1 = ⟨b, b⟩) : Stays (d.fine f).2 S b := by
  obtain ⟨_, e2, e3, e4, _⟩ := d.burnt_same
  unfold Dir.fine at hg ⊢
  by_cases hb : d.burns = true
  · rw [if_pos hb] at hg ⊢
    exact ⟨hg, h.ok, by show at_ d.burnt.row S = _; rw [e2]; exact h.row, by show ∀ r ∈ d.burnt.past, _; rw [e3]; exact h.past, by show d.burnt.fl 1 = _; rw [e4]; exact h.fl⟩
  · rw [if_neg hb] at hg ⊢
    exact ⟨hg, h.ok, h1, h2, h3⟩
theorem stays_step {d : Dir} {S b : List Int} (h : Stays d S b) : ∀ r ∈ d.burnt.past ++ [d.burnt.row], at_ r S = some 1 := fun r hr => by
  obtain ⟨_, e2, e3, e4, _⟩ := d.burnt_same
  rw [e2, e3] at hr
  rcases List.mem_append.1 hr with h1 | h1
  · exact h.past r h1
  · rw [List.mem_singleton.1 h1]; exact h.row
theorem stays_make {d : Dir} {S b : List Int} (h : Stays d S b) {n : List Int} (hn : n ≠ S) : Stays (d.make n).2 S b := by
  have hg := good_make h.good n
  unfold Dir.make at hg ⊢
  by_cases c1 : d.ask n ≠ 0
  · rw [if_pos c1]; exact h
  rw [if_neg c1] at hg ⊢
  by_cases c2 : (at_ d.row n).isSome = true
  · rw [if_pos c2]; exact h
  rw [if_neg c2] at hg ⊢
  by_cases c3 : 24 ≤ d.row.length
  · rw [if_pos c3]; exact h
  rw [if_neg c3] at hg ⊢
  obtain ⟨_, e2, e3, e4, e5⟩ := d.burnt_same
  refine stays_fine h hg ?_ (stays_step h) ?_
  · show at_ (put d.burnt.row n (d.burnt.made + 1)) S = _
    rw [put_at, if_neg (fun e => hn e.symm), e2]; exact h.row
  · show (if 1 = d.burnt.made + 1 then default else d.burnt.fl 1) = _
    have := h.made
    rw [if_neg (by rw [e5]; omega), e4]; exact h.fl
theorem stays_lay {d : Dir} {S b : List Int} (h : Stays d S b) {k : Nat} (hk : k ≠ 1) {x : Fl} (hg : Good (d.fine fun d => d.lay k x).2) : Stays (d.fine fun d => d.lay k x).2 S b := by
  obtain ⟨_, e2, e3, e4, e5⟩ := d.burnt_same
  refine stays_fine h hg (by show at_ d.burnt.row S = _; rw [e2]; exact h.row) (by show ∀ r ∈ d.burnt.past, _; rw [e3]; exact h.past) ?_
  show (if 1 = k then x else d.burnt.fl 1) = _
  rw [if_neg (fun e => hk e.symm), e4]; exact h.fl
theorem stays_write {d : Dir} {S b : List Int} (h : Stays d S b) {n : List Int} (hn : n ≠ S) (p : Int) {c : List Int} (hc : AllB c) : Stays (d.write n p c).2 S b := by
  have hg := good_write h.good n p hc
  unfold Dir.write at hg ⊢
  by_cases c1 : (d.file n).1 ≠ 0
  · rw [if_pos c1]; exact h
  rw [if_neg c1] at hg ⊢
  by_cases c2 : wrE p c.length ≠ 0
  · rw [if_pos c2]; exact h
  rw [if_neg c2] at hg ⊢
  simp only at hg ⊢
  by_cases c3 : d.room < d.total - (d.fl (d.file n).2).now.length + (wrN (d.fl (d.file n).2).now p c).length ∧ (d.fl (d.file n).2).now.length < (wrN (d.fl (d.file n).2).now p c).length
  · rw [if_pos c3]; exact h
  rw [if_neg c3] at hg ⊢
  obtain ⟨_, _, ha⟩ := file_ok c1
  exact stays_lay h (h.other ha hn) hg
theorem stays_sync {d : Dir} {S b : List Int} (h : Stays d S b) {n : List Int} (hn : n ≠ S) : Stays (d.sync n).2 S b := by
  have hg := good_sync h.good n
  unfold Dir.sync at hg ⊢
  by_cases c1 : (d.file n).1 ≠ 0
  · rw [if_pos c1]; exact h
  rw [if_neg c1] at hg ⊢
  obtain ⟨_, _, ha⟩ := file_ok c1
  exact stays_lay h (h.other ha hn) hg
theorem stays_rename {d : Dir} {S b : List Int} (h : Stays d S b) {o n : List Int} (ho : o ≠ S) (hn : n ≠ S) : Stays (d.rename o n).2 S b := by
  have hg := good_rename h.good o n
  unfold Dir.rename at hg ⊢
  by_cases c1 : d.ask o ≠ 0
  · rw [if_pos c1]; exact h
  rw [if_neg c1] at hg ⊢
  by_cases c2 : nmOk n ≠ true
  · rw [if_pos c2]; exact h
  rw [if_neg c2] at hg ⊢
  by_cases c3 : (d.file o).1 ≠ 0
  · rw [if_pos c3]; exact h
  rw [if_neg c3] at hg ⊢
  obtain ⟨_, e2, e3, e4, e5⟩ := d.burnt_same
  by_cases c4 : o = n
  · refine stays_fine h hg ?_ ?_ ?_ <;> simp only [if_pos c4]
    · rw [e2]; exact h.row
    · rw [e3]; exact h.past
    · rw [e4]; exact h.fl
  · refine stays_fine h hg ?_ ?_ ?_ <;> simp only [if_neg c4]
    · show at_ (put (out d.row o) n _) S = _
      rw [put_at, if_neg (fun e => hn e.symm), out_at, if_neg (fun e => ho e.symm)]; exact h.row
    · exact stays_step h
    · show d.burnt.fl 1 = _
      rw [e4]; exact h.fl
theorem stays_drop {d : Dir} {S b : List Int} (h : Stays d S b) {n : List Int} (hn : n ≠ S) : Stays (d.drop n).2 S b := by
  have hg := good_drop h.good n
  unfold Dir.drop at hg ⊢
  by_cases c1 : (d.file n).1 ≠ 0
  · rw [if_pos c1]; exact h
  rw [if_neg c1] at hg ⊢
  obtain ⟨_, e2, e3, e4, e5⟩ := d.burnt_same
  refine stays_fine h hg ?_ (stays_step h) (by show d.burnt.fl 1 = _; rw [e4]; exact h.fl)
  show at_ (out d.row n) S = _
  rw [out_at, if_neg (fun e => hn e.symm)]; exact h.row
theorem stays_crash {d : Dir} {S b : List Int} (h : Stays d S b) (L : Nat) (K : Nat → Bool) (k : Int) : (d.crash L K k).all S = (0, b) := by
  have hrow : at_ (d.back k) S = some 1 := by
    unfold Dir.back
    split
    · rename_i h1
      rw [List.getD_eq_getElem?_getD, List.getElem?_eq_getElem h1]
      exact h.past _ (List.getElem_mem h1)
    · exact h.row
  have hfile : (d.crash L K k).file S = (0, 1) := by
    unfold Dir.file Dir.ask
    have e : (d.crash L K k).off = false := rfl
    have e2 : (d.crash L K k).row = d.back k := rfl
    rw [e, e2, hrow, h.ok]
    rfl
  unfold Dir.all
  rw [hfile, if_neg (by simp)]
  obtain ⟨kp, e⟩ := crashTo_fl (d.back k) d.fl L K d.made 1
  show (0, ((crashTo (d.back k) d.fl L K d.made).2 1).now) = _
  rw [e, h.fl]
  split
  · show (0, crash b b kp) = _
    rw [crash_self]
  · rfl

/-! ## names made one behind the other -/
/-- i files; those ahead of the s-th name are safe in their names; power is on, and there is no fuse. -/
structure Made (d : Dir) (i s : Nat) : Prop where
  good : Good d
  on : d.off = false
  fuse : d.fuse < 0
  row : d.row.length = i
  past : d.past.length = i - s
  each : ∀ j, j < i - s → (d.past.getD j []).length = s + j
  le : s ≤ i
theorem fine_on {d : Dir} (h : d.fuse < 0) (f : Dir → Dir) : d.fine f = (0, f d) := by
  unfold Dir.fine Dir.burns Dir.burnt
  rw [if_neg (by simp; omega), if_pos h]
theorem ask_on {d : Dir} (h : d.off = false) {n : List Int} (hn : nmOk n = true) : d.ask n = 0 := by
  unfold Dir.ask
  rw [h, hn]; rfl
theorem made_new (room : Nat) : Made (Dir.new room) 0 0 := ⟨good_new room, rfl, (by show (-1 : Int) < 0; decide), rfl, rfl, (fun j h => by omega), Nat.le_refl _⟩
theorem make_fresh {d : Dir} (h1 : d.off = false) (h2 : d.fuse < 0) (h3 : d.row.length < 24) {n : List Int} (hn : nmOk n = true) (hf : at_ d.row n = none) :
    d.make n = (0, ({ d with made := d.made + 1 }.step (put d.row n (d.made + 1))).lay (d.made + 1) default) := by
  unfold Dir.make
  rw [ask_on h1 hn, if_neg (by simp), hf, if_neg (by simp), if_neg (by omega), fine_on h2]
theorem made_make {d : Dir} {i s : Nat} (h : Made d i s) (hi : i < 24) {n : List Int} (hn : nmOk n = true) (hf : at_ d.row n = none) : (d.make n).1 = 0 ∧ Made (d.make n).2 (i + 1) s ∧ ∀ m, at_ (d.make n).2.row m = if m = n then some (d.made + 1) else at_ d.row m := by
  have hg := good_make h.good n
  have hm := make_fresh h.on h.fuse (by rw [h.row]; exact hi) hn hf
  rw [hm] at hg ⊢
  have hle := h.le
  refine ⟨rfl, ⟨hg, h.on, h.fuse, ?_, ?_, fun j hj => ?_, by omega⟩, fun m => put_at _ _ _ _⟩
  · show (put d.row n (d.made + 1)).length = _
    rw [put_length h.good.row.rises, hf, h.row]; rfl
  · show (d.past ++ [d.row]).length = _
    rw [List.length_append, h.past]; simp; omega
  · show ((d.past ++ [d.row]).getD j []).length = _
    rw [List.getD_eq_getElem?_getD, List.getElem?_append]
    have hp := h.past
    by_cases hj2 : j < i - s
    · rw [if_pos (by omega)]
      have := h.each j hj2
      rwa [List.getD_eq_getElem?_getD] at this
    · have : j = i - s := by omega
      rw [if_neg (by omega), this, hp]
      simp [h.row]; omega
theorem made_sync {d : Dir} {i s : Nat} (h : Made d i s) : d.syncDir.1 = 0 ∧ Made d.syncDir.2 i i ∧ d.syncDir.2.row = d.row ∧ d.syncDir.2.fl = d.fl := by
  have hg := good_syncDir h.good
  unfold Dir.syncDir at hg ⊢
  rw [h.on, if_neg (by simp), fine_on h.fuse] at hg ⊢
  exact ⟨rfl, ⟨hg, h.on, h.fuse, h.row, by show ([] : List RowD).length = _; simp, fun j hj => by omega, Nat.le_refl _⟩, rfl, rfl⟩
theorem made_crash {d : Dir} {i s : Nat} (h : Made d i s) (L : Nat) (K : Nat → Bool) (k : Int) : (d.crash L K k).names.length = min i (s + (max k 0).toNat) := by
  unfold Dir.names
  have e : (d.crash L K k).off = false := rfl
  rw [e, if_neg (by simp), List.length_map]
  show (d.back k).length = _
  unfold Dir.back
  have hp := h.past
  have hle := h.le
  by_cases hk : (max k 0).toNat < d.past.length
  · rw [if_pos hk, h.each _ (by omega)]; omega
  · rw [if_neg hk, h.row]; omega
theorem names_on {d : Dir} {i s : Nat} (h : Made d i s) : d.names.length = i := by
  unfold Dir.names
  rw [h.on, if_neg (by simp), List.length_map, h.row]

/-! ## as many as there may be -/
theorem make_full {d : Dir} (h1 : d.off = false) {n : List Int} (hn : nmOk n = true) (hf : at_ d.row n = none) (hl : 24 ≤ d.row.length) : d.make n = (15, d) := by
  unfold Dir.make
  rw [ask_on h1 hn, if_neg (by simp), hf, if_neg (by simp), if_pos hl]
theorem make_there {d : Dir} (h1 : d.off = false) {n : List Int} (hn : nmOk n = true) {b : Nat} (hf : at_ d.row n = some b) : d.make n = (17, d) := by
  unfold Dir.make
  rw [ask_on h1 hn, if_neg (by simp), hf, if_pos (by rfl)]
theorem file_there {d : Dir} (h1 : d.off = false) {n : List Int} (hn : nmOk n = true) {b : Nat} (hf : at_ d.row n = some b) : d.file n = (0, b) := by
  unfold Dir.file
  rw [ask_on h1 hn, if_neg (by simp), hf]
theorem file_none {d : Dir} (h1 : d.off = false) {n : List Int} (hn : nmOk n = true) (hf : at_ d.row n = none) : d.file n = (16, 0) := by
  unfold Dir.file
  rw [ask_on h1 hn, if_neg (by simp), hf]
theorem drop_there {d : Dir} (h1 : d.off = false) (h2 : d.fuse < 0) {n : List Int} (hn : nmOk n = true) {b : Nat} (hf : at_ d.row n = some b) : d.drop n = (0, d.step (out d.row n)) := by
  unfold Dir.drop
  rw [file_there h1 hn hf, if_neg (by simp), fine_on h2]
theorem drop_none {d : Dir} (h1 : d.off = false) {n : List Int} (hn : nmOk n = true) (hf : at_ d.row n = none) : d.drop n = (16, d) := by
  unfold Dir.drop
  rw [file_none h1 hn hf, if_pos (by simp)]
theorem file_off {d : Dir} (h : d.off = true) (n : List Int) : d.file n = (18, 0) := by
  unfold Dir.file Dir.ask
  rw [h]; rfl

/-! ## a fuse -/
/-- A directory with one file, its name safe; with a fuse of n, behind i writes of one byte each. -/
structure Fused (d : Dir) (A : List Int) (n i : Nat) : Prop where
  good : Good d
  ok : nmOk A = true
  row : d.row = [(A, 1)]
  past : d.past = []
  made : d.made = 1
  room : d.room = 4096
  len : (d.fl 1).now.length = min i n
  on : i ≤ n → d.off = false ∧ d.fuse = (n : Int) - i
  off : n < i → d.off = true
theorem Fused.at1 {d : Dir} {A : List Int} {n i : Nat} (h : Fused d A n i) : at_ d.row A = some 1 := by
  rw [h.row]; unfold at_; rw [if_pos rfl]
theorem Fused.total {d : Dir} {A : List Int} {n i : Nat} (h : Fused d A n i) : d.total = (d.fl 1).now.length := by
  unfold Dir.total
  rw [h.row]; simp
theorem fused_new {A : List Int} (hA : nmOk A = true) (n : Nat) : ((((Dir.new 4096).make A).2).syncDir).2 = { Dir.new 4096 with row := [(A, 1)], made := 1, fl := fun k => if k = 1 then default else default } ∧ Fused (((((Dir.new 4096).make A).2).syncDir).2.setFuse n) A n 0 := by
  obtain ⟨m1, m2, m3⟩ := made_make (made_new 4096) (by decide) hA rfl
  have e := make_fresh (d := Dir.new 4096) rfl (by show (-1 : Int) < 0; decide) (by show 0 < 24; decide) hA rfl
  obtain ⟨s1, s2, s3, s4⟩ := made_sync m2
  have e2 : ((((Dir.new 4096).make A).2).syncDir).2 = { Dir.new 4096 with row := [(A, 1)], made := 1, fl := fun k => if k = 1 then default else default } := by
    have hf := fine_on (d := ((Dir.new 4096).make A).2) m2.fuse (fun d' => { d' with past := [] })
    unfold Dir.syncDir
    rw [m2.on, if_neg (by simp), hf, e]
    rfl
  refine ⟨e2, ⟨good_setFuse s2.good _, hA, by rw [e2]; rfl, by rw [e2]; rfl, by rw [e2]; rfl, by rw [e2]; rfl, by rw [e2]; show (if (1 : Nat) = 1 then (default : Fl) else default).now.length = _; simp; rfl, fun _ => ⟨by rw [e2]; rfl, ?_⟩, fun h => by omega⟩⟩
  rw [e2]
  show max (n : Int) (-1) = _
  omega
theorem fused_step {d : Dir} {A : List Int} {n i : Nat} (h : Fused d A n i) (hi : i < 100) {c : Int} (hc : 0 ≤ c ∧ c < 256) :
    (d.write A (i : Int) [c]).1 = (if i < n then 0 else 18) ∧ Fused (d.write A (i : Int) [c]).2 A n (i + 1) := by
  have hg := good_write h.good A (i : Int) (b := [c]) (fun x hx => by simp at hx; subst hx; exact hc)
  have hlen := h.len
  by_cases hin : n < i
  · have hw : d.write A (i : Int) [c] = (18, d) := by
      unfold Dir.write
      rw [file_off (h.off hin), if_pos (by simp)]
    rw [hw]
    exact ⟨by rw [if_neg (by omega)], ⟨h.good, h.ok, h.row, h.past, h.made, h.room, by rw [hlen]; omega, fun h' => by omega, fun _ => h.off hin⟩⟩
  · obtain ⟨h1, h2⟩ := h.on (by omega)
    have hE : wrE (i : Int) [c].length = 0 := by unfold wrE; rw [if_neg (by omega), if_neg (by simp; omega)]
    have hN : wrN (d.fl 1).now (i : Int) [c] = wr (d.fl 1).now i [c] := by unfold wrN; rw [hE, if_pos rfl]; rfl
    have hl := wr_length (now := (d.fl 1).now) (p := i) (b := [c]) (by simp)
    have hl2 : (wr (d.fl 1).now i [c]).length = i + 1 := by rw [hl]; simp; omega
    have hw : d.write A (i : Int) [c] = d.fine fun d' => d'.lay 1 ⟨wr (d.fl 1).now i [c], (d.fl 1).safe⟩ := by
      unfold Dir.write
      rw [file_there h1 h.ok h.at1, if_neg (by simp), hE, if_neg (by simp)]
      simp only [hN]
      rw [if_neg (by rw [h.total, h.room, hl2]; omega)]
    rw [hw] at hg ⊢
    by_cases h0 : i = n
    · have hb : d.burns = true := by unfold Dir.burns; rw [h2]; simp; omega
      have hbt : d.burnt = { d with off := true } := by unfold Dir.burnt; rw [if_neg (by omega), if_pos (by omega)]
      unfold Dir.fine at hg ⊢
      rw [if_pos hb, hbt] at hg ⊢
      exact ⟨by rw [if_neg (by omega)], ⟨hg, h.ok, h.row, h.past, h.made, h.room, by show (d.fl 1).now.length = _; rw [hlen]; omega, fun h' => by omega, fun _ => rfl⟩⟩
    · have hb : ¬ d.burns = true := by unfold Dir.burns; rw [h2]; simp; omega
      have hbt : d.burnt = { d with fuse := d.fuse - 1 } := by unfold Dir.burnt; rw [if_neg (by omega), if_neg (by omega)]
      unfold Dir.fine at hg ⊢
      rw [if_neg hb, hbt] at hg ⊢
      exact ⟨by rw [if_pos (by omega)], ⟨hg, h.ok, h.row, h.past, h.made, h.room, by show (if (1 : Nat) = 1 then (⟨wr (d.fl 1).now i [c], (d.fl 1).safe⟩ : Fl) else d.fl 1).now.length = _; rw [if_pos rfl]; show (wr (d.fl 1).now i [c]).length = _; omega, fun _ => ⟨h1, by show d.fuse - 1 = _; rw [h2]; omega⟩, fun h' => by omega⟩⟩
/-- Behind the crash: all bytes are there, and a write is done. -/
theorem fused_crash {d : Dir} {A : List Int} {n i : Nat} (h : Fused d A n i) (K : Nat → Bool) (hK : ∀ j, j < 64 → K j = true) (k : Int) (hi : i ≤ 100) (c : Int) :
    (d.crash 64 K k).all A = (0, (d.fl 1).now) ∧ (d.crash 64 K k).off = false ∧ ((d.crash 64 K k).write A 0 [c]).1 = 0 := by
  have hb : d.back k = [(A, 1)] := by
    unfold Dir.back
    rw [h.past, if_neg (by simp), h.row]
  have hrow : (d.crash 64 K k).row = [(A, 1)] := hb
  have hat : at_ (d.crash 64 K k).row A = some 1 := by rw [hrow]; unfold at_; rw [if_pos rfl]
  have hfl : (d.crash 64 K k).fl 1 = ⟨(d.fl 1).now, (d.fl 1).now⟩ := by
    show (crashTo (d.back k) d.fl 64 K d.made).2 1 = _
    rw [hb, h.made]
    unfold crashTo
    have hx : crash (d.fl 1).now (d.fl 1).safe (fun i => decide (0 + i < 64) && K (0 + i)) = (d.fl 1).now := crash_every fun j hj => by
      have h1 := (h.good.fl 1).le
      have h2 := (h.good.fl 1).max
      have h3 := dirty_few (now := (d.fl 1).now) (safe := (d.fl 1).safe) (n := 64) (by omega)
      rw [Nat.zero_add, hK j (by omega), decide_eq_true (by omega)]; rfl
    simp only [Nat.zero_add] at hx
    simp [crashTo, hx]
  have hlen := h.len
  have hfile := file_there (d := d.crash 64 K k) (n := A) rfl h.ok hat
  refine ⟨by unfold Dir.all; rw [hfile, if_neg (by simp), hfl], rfl, ?_⟩
  have hE : wrE 0 [c].length = 0 := by unfold wrE; rw [if_neg (by omega), if_neg (by simp)]
  have htot : (d.crash 64 K k).total = (d.fl 1).now.length := by
    unfold Dir.total
    rw [hrow]; simp [hfl]
  have hN : wrN (d.fl 1).now 0 [c] = wr (d.fl 1).now 0 [c] := by unfold wrN; rw [hE, if_pos rfl]; rfl
  have hl := wr_length (now := (d.fl 1).now) (p := 0) (b := [c]) (by simp)
  unfold Dir.write
  rw [hfile, if_neg (by simp), hE, if_neg (by simp)]
  simp only [hfl, hN]
  rw [if_neg (by
    have e : (d.crash 64 K k).room = 4096 := h.room
    rw [htot, e, hl]
    simp only [List.length_cons, List.length_nil]
    omega), fine_on (by show (-1 : Int) < 0; decide)]
end Go.Proofs.Ytpgkimohekdmmaa.Ua
