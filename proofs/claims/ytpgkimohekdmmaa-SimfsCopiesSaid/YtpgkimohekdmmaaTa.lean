/-
  Plain: a file's bytes as lists of numbers: what is written, sectors, which are dirty, what a crash leaves.
-/
import Derived.Test.YtpgkimohekdmmaaBytes
namespace Go.Proofs.Ytpgkimohekdmmaa.Ta
open Bytes8
set_option linter.unusedVariables false
set_option maxRecDepth 100000
set_option linter.unusedSimpArgs false

theorem ext0 {l m : List Int} (hl : l.length = m.length) (h : ∀ i, i < l.length → l.getD i 0 = m.getD i 0) : l = m := by
  refine List.ext_getElem hl fun i h1 h2 => ?_
  have := h i h1
  rwa [List.getD_eq_getElem?_getD, List.getD_eq_getElem?_getD, List.getElem?_eq_getElem h1, List.getElem?_eq_getElem h2] at this
theorem getD_out {l : List Int} {i : Nat} (h : l.length ≤ i) : l.getD i 0 = 0 := by
  rw [List.getD_eq_getElem?_getD, List.getElem?_eq_none h]; rfl
theorem getD_app (l m : List Int) (i : Nat) : (l ++ m).getD i 0 = if i < l.length then l.getD i 0 else m.getD (i - l.length) 0 := by
  simp only [List.getD_eq_getElem?_getD, List.getElem?_append]
  split <;> rfl
theorem getD_zeros (n i : Nat) : (List.replicate n (0 : Int)).getD i 0 = 0 := by
  simp only [List.getD_eq_getElem?_getD, List.getElem?_replicate]
  split <;> rfl
theorem getD_take (l : List Int) (n i : Nat) : (l.take n).getD i 0 = if i < n then l.getD i 0 else 0 := by
  simp only [List.getD_eq_getElem?_getD, List.getElem?_take]
  split <;> rfl
theorem getD_drop (l : List Int) (n i : Nat) : (l.drop n).getD i 0 = l.getD (n + i) 0 := by
  simp only [List.getD_eq_getElem?_getD, List.getElem?_drop]
theorem getD_set (l : List Int) (k i : Nat) (x : Int) : (l.set k x).getD i 0 = if k = i ∧ i < l.length then x else l.getD i 0 := by
  simp only [List.getD_eq_getElem?_getD, List.getElem?_set]
  by_cases h : k = i
  · subst h
    by_cases h2 : k < l.length
    · simp [h2]
    · simp [h2]
  · simp [h]

/-! ## writing -/
/-- Filled up with 0. -/
def pad (l : List Int) (n : Nat) : List Int := l ++ List.replicate (n - l.length) 0
theorem pad_length (l : List Int) (n : Nat) : (pad l n).length = max l.length n := by
  unfold pad; simp; omega
theorem pad_getD (l : List Int) (n i : Nat) : (pad l n).getD i 0 = l.getD i 0 := by
  unfold pad
  rw [getD_app, getD_zeros]
  split
  · rfl
  · rw [getD_out (by omega)]
theorem pad_all {l : List Int} (h : AllB l) (n : Nat) : AllB (pad l n) := h.app (AllB.zeros _)
theorem pad_same {l : List Int} {n : Nat} (h : n ≤ l.length) : pad l n = l := by
  unfold pad
  rw [show n - l.length = 0 by omega]; simp
theorem pad_step {l : List Int} {n : Nat} (h : l.length < n) : pad (l ++ [0]) n = pad l n := by
  refine ext0 (by rw [pad_length, pad_length]; simp; omega) fun i _ => ?_
  rw [pad_getD, pad_getD, getD_app]
  split
  · rfl
  · rw [getD_out (show l.length ≤ i by omega)]
    cases i - l.length <;> rfl

/-- What stands in a file behind a write. -/
def wr (now : List Int) (p : Nat) (b : List Int) : List Int :=
  if b.length = 0 then now else (pad now (p + b.length)).take p ++ (b ++ (pad now (p + b.length)).drop (p + b.length))
theorem wr_nil (now : List Int) (p : Nat) : wr now p [] = now := rfl
theorem wr_length {now b : List Int} {p : Nat} (h : 0 < b.length) : (wr now p b).length = max now.length (p + b.length) := by
  unfold wr
  rw [if_neg (by omega)]
  have := pad_length now (p + b.length)
  simp only [List.length_append, List.length_take, List.length_drop]
  omega
theorem wr_getD {now b : List Int} {p : Nat} (h : 0 < b.length) (i : Nat) : (wr now p b).getD i 0 = if p ≤ i ∧ i < p + b.length then b.getD (i - p) 0 else now.getD i 0 := by
  unfold wr
  rw [if_neg (by omega)]
  have hl := pad_length now (p + b.length)
  have ht : ((pad now (p + b.length)).take p).length = p := by rw [List.length_take]; omega
  rw [getD_app, ht, getD_app, getD_take, getD_drop, pad_getD, pad_getD]
  by_cases h1 : i < p
  · rw [if_pos h1, if_pos h1, if_neg (by omega)]
  · rw [if_neg h1]
    by_cases h2 : i - p < b.length
    · rw [if_pos h2, if_pos (by omega)]
    · rw [if_neg h2, if_neg (by omega)]
      congr 1
      omega
theorem wr_all {now b : List Int} {p : Nat} (hn : AllB now) (hb : AllB b) : AllB (wr now p b) := by
  unfold wr
  split
  · exact hn
  · exact ((pad_all hn _).take _).app (hb.app ((pad_all hn _).drop _))
/-- Whatever is as long and has the same bytes is it. -/
theorem wr_is {now b l : List Int} {p : Nat} (h : 0 < b.length) (hl : l.length = max now.length (p + b.length)) (hg : ∀ i, i < l.length → l.getD i 0 = if p ≤ i ∧ i < p + b.length then b.getD (i - p) 0 else now.getD i 0) : l = wr now p b :=
  ext0 (by rw [hl, wr_length h]) fun i hi => by rw [hg i hi, wr_getD h]
/-- Byte by byte, into what was filled up. -/
def wrTo (now : List Int) (p : Nat) (b : List Int) : Nat → List Int
  | 0 => pad now (p + b.length)
  | k + 1 => (wrTo now p b k).set (p + k) (b.getD k 0)
theorem wrTo_length (now : List Int) (p : Nat) (b : List Int) (k : Nat) : (wrTo now p b k).length = max now.length (p + b.length) := by
  induction k with
  | zero => exact pad_length _ _
  | succ k ih => unfold wrTo; rw [List.length_set, ih]
theorem wrTo_getD (now : List Int) (p : Nat) (b : List Int) (k : Nat) (hk : k ≤ b.length) (i : Nat) : (wrTo now p b k).getD i 0 = if p ≤ i ∧ i < p + k then b.getD (i - p) 0 else now.getD i 0 := by
  induction k with
  | zero => rw [if_neg (by omega)]; exact pad_getD _ _ _
  | succ k ih =>
    unfold wrTo
    rw [getD_set, wrTo_length, ih (by omega)]
    by_cases h1 : p + k = i
    · subst h1
      rw [if_pos (by omega), if_pos (by omega)]
      congr 1
      omega
    · rw [if_neg (by omega)]
      by_cases h2 : p ≤ i ∧ i < p + k
      · rw [if_pos h2, if_pos (by omega)]
      · rw [if_neg h2, if_neg (by omega)]
theorem wrTo_all {now b : List Int} (hn : AllB now) (hb : AllB b) (p k : Nat) : AllB (wrTo now p b k) := by
  induction k with
  | zero => exact pad_all hn _
  | succ k ih => unfold wrTo; exact ih.set _ (hb.at_ k).1 (hb.at_ k).2
theorem wrTo_end {now b : List Int} {p : Nat} (h : 0 < b.length) : wrTo now p b b.length = wr now p b :=
  wr_is h (wrTo_length _ _ _ _) fun i _ => wrTo_getD now p b _ (Nat.le_refl _) i

/-! ## sectors -/
def sec (l : List Int) (k : Nat) : List Int := (l.drop (512 * k)).take 512
theorem sec_length (l : List Int) (k : Nat) : (sec l k).length = min 512 (l.length - 512 * k) := by
  unfold sec; simp
theorem sec_getD (l : List Int) (k r : Nat) (hr : r < 512) : (sec l k).getD r 0 = l.getD (512 * k + r) 0 := by
  unfold sec; rw [getD_take, if_pos hr, getD_drop]
theorem sec_byte (l : List Int) (i : Nat) : (sec l (i / 512)).getD (i % 512) 0 = l.getD i 0 := by
  rw [sec_getD _ _ _ (Nat.mod_lt _ (by decide)), Nat.div_add_mod]
theorem sec_all {l : List Int} (h : AllB l) (k : Nat) : AllB (sec l k) := (h.drop _).take _
theorem sec_none {l : List Int} {k : Nat} (h : l.length ≤ 512 * k) : sec l k = [] := List.eq_nil_of_length_eq_zero (by rw [sec_length]; omega)
theorem sec_some {l : List Int} {k : Nat} (h : 512 * k < l.length) : sec l k ≠ [] := fun h0 => by
  have := congrArg List.length h0
  rw [sec_length] at this
  simp at this
  omega
/-- How many sectors so many bytes have. -/
def secs (n : Nat) : Nat := (n + 511) / 512
theorem secs_lt {n k : Nat} : k < secs n ↔ 512 * k < n := by unfold secs; omega
theorem secs_le {n k : Nat} : secs n ≤ k ↔ n ≤ 512 * k := by unfold secs; omega

/-! ## dirty ones -/
def dirt (now safe : List Int) (k : Nat) : Bool := decide (sec now k ≠ sec safe k)
/-- .. among the first K. -/
def dirtyTo (now safe : List Int) (K : Nat) : List Nat := (List.range K).filter (dirt now safe)
def dirty (now safe : List Int) : List Nat := dirtyTo now safe (secs (max now.length safe.length))
theorem dirtyTo_zero (now safe : List Int) : dirtyTo now safe 0 = [] := rfl
theorem dirtyTo_yes {now safe : List Int} {K : Nat} (h : dirt now safe K = true) : dirtyTo now safe (K + 1) = dirtyTo now safe K ++ [K] := by
  unfold dirtyTo; rw [List.range_succ, List.filter_append]; simp [h]
theorem dirtyTo_no {now safe : List Int} {K : Nat} (h : dirt now safe K = false) : dirtyTo now safe (K + 1) = dirtyTo now safe K := by
  unfold dirtyTo; rw [List.range_succ, List.filter_append]; simp [h]
theorem dirtyTo_le (now safe : List Int) (K : Nat) : (dirtyTo now safe K).length ≤ K := by
  unfold dirtyTo
  exact Nat.le_trans (List.length_filter_le _ _) (by simp)
theorem dirtyTo_lt {now safe : List Int} {K k : Nat} (h : k ∈ dirtyTo now safe K) : k < K ∧ dirt now safe k = true := by
  unfold dirtyTo at h
  simpa using h
theorem dirt_self (now : List Int) (k : Nat) : dirt now now k = false := by unfold dirt; simp
theorem dirtyTo_self (now : List Int) (K : Nat) : dirtyTo now now K = [] := by
  unfold dirtyTo
  exact List.filter_eq_nil_iff.2 fun k _ => by simp [dirt_self]
theorem dirty_self (now : List Int) : dirty now now = [] := dirtyTo_self _ _
theorem dirtyTo_mono (now safe : List Int) {k K : Nat} (h : k ≤ K) : ∃ m, dirtyTo now safe K = dirtyTo now safe k ++ m := by
  induction K with
  | zero =>
    have hk : k = 0 := by omega
    subst hk
    exact ⟨[], by simp⟩
  | succ K ih =>
    rcases Nat.lt_or_ge K k with h1 | h1
    · obtain rfl : k = K + 1 := by omega
      exact ⟨[], by simp⟩
    · obtain ⟨m, hm⟩ := ih h1
      cases hd : dirt now safe K with
      | true => exact ⟨m ++ [K], by rw [dirtyTo_yes hd, hm]; simp⟩
      | false => exact ⟨m, by rw [dirtyTo_no hd, hm]⟩
/-- Where the sector k stands among the dirty ones. -/
theorem dirtyTo_at {now safe : List Int} {K k : Nat} (hk : k < K) (hd : dirt now safe k = true) : (dirtyTo now safe k).length < (dirtyTo now safe K).length ∧ (dirtyTo now safe K).getD (dirtyTo now safe k).length 0 = k := by
  obtain ⟨m, hm⟩ := dirtyTo_mono now safe (show k + 1 ≤ K from hk)
  rw [hm, dirtyTo_yes hd]
  refine ⟨by simp <;> omega, ?_⟩
  simp [List.getD_eq_getElem?_getD]
theorem dirtyTo_is {now safe : List Int} {K k i : Nat} (hi : i < (dirtyTo now safe K).length) : (dirtyTo now safe K).getD i 0 = k ↔ k < K ∧ dirt now safe k = true ∧ i = (dirtyTo now safe k).length := by
  have hnd : (dirtyTo now safe K).Nodup := List.Pairwise.filter _ List.nodup_range
  constructor
  · intro h
    have hm : k ∈ dirtyTo now safe K := by
      rw [← h, List.getD_eq_getElem?_getD, List.getElem?_eq_getElem hi]
      exact List.getElem_mem hi
    obtain ⟨h1, h2⟩ := dirtyTo_lt hm
    refine ⟨h1, h2, ?_⟩
    obtain ⟨h3, h4⟩ := dirtyTo_at h1 h2
    rw [List.getD_eq_getElem?_getD, List.getElem?_eq_getElem hi] at h
    rw [List.getD_eq_getElem?_getD, List.getElem?_eq_getElem h3] at h4
    exact (List.getElem_inj hnd).1 ((show (dirtyTo now safe K)[i] = k from h).trans (show k = (dirtyTo now safe K)[(dirtyTo now safe k).length] from h4.symm))
  · rintro ⟨h1, h2, rfl⟩
    exact (dirtyTo_at h1 h2).2

/-! ## a crash -/
/-- Sectors laid one behind the other: an empty one leaves all as it is. -/
def lay (ch : Nat → List Int) : Nat → List Int
  | 0 => []
  | k + 1 => if (ch k).length = 0 then lay ch k else pad (lay ch k) (512 * k) ++ ch k
theorem lay_skip {ch : Nat → List Int} {k : Nat} (h : (ch k).length = 0) : lay ch (k + 1) = lay ch k := if_pos h
theorem lay_put {ch : Nat → List Int} {k : Nat} (h : (ch k).length ≠ 0) : lay ch (k + 1) = pad (lay ch k) (512 * k) ++ ch k := if_neg h
theorem lay_le {ch : Nat → List Int} (hc : ∀ k, (ch k).length ≤ 512) (K : Nat) : (lay ch K).length ≤ 512 * K := by
  induction K with
  | zero => simp [lay]
  | succ K ih =>
    by_cases h : (ch K).length = 0
    · rw [lay_skip h]; omega
    · rw [lay_put h, List.length_append, pad_length]
      have := hc K
      omega
theorem lay_all {ch : Nat → List Int} (hc : ∀ k, AllB (ch k)) (K : Nat) : AllB (lay ch K) := by
  induction K with
  | zero => exact fun _ h => by cases h
  | succ K ih =>
    by_cases h : (ch K).length = 0
    · rw [lay_skip h]; exact ih
    · rw [lay_put h]; exact (pad_all ih _).app (hc K)
theorem lay_getD {ch : Nat → List Int} (hc : ∀ k, (ch k).length ≤ 512) (K i : Nat) : (lay ch K).getD i 0 = if i / 512 < K then (ch (i / 512)).getD (i % 512) 0 else 0 := by
  induction K with
  | zero => rw [if_neg (by omega)]; exact getD_out (by simp [lay])
  | succ K ih =>
    have hle := lay_le hc K
    by_cases h : (ch K).length = 0
    · rw [lay_skip h, ih]
      by_cases h1 : i / 512 < K
      · rw [if_pos h1, if_pos (by omega)]
      · rw [if_neg h1]
        by_cases h2 : i / 512 = K
        · rw [h2, if_pos (by omega), List.eq_nil_of_length_eq_zero h]; rfl
        · rw [if_neg (by omega)]
    · rw [lay_put h, getD_app, pad_length, pad_getD]
      by_cases h1 : i < 512 * K
      · rw [if_pos (by omega), ih, if_pos (by omega), if_pos (by omega)]
      · rw [if_neg (by omega), Nat.max_eq_right hle]
        by_cases h2 : i / 512 = K
        · rw [if_pos (by omega), h2]
          congr 1
          omega
        · rw [if_neg (by omega)]
          have := hc K
          exact getD_out (by omega)
theorem lay_lt {ch : Nat → List Int} (hc : ∀ k, (ch k).length ≤ 512) (K i : Nat) : i < (lay ch K).length ↔ ∃ j, j < K ∧ (ch j).length ≠ 0 ∧ i < 512 * j + (ch j).length := by
  induction K with
  | zero => simp [lay]
  | succ K ih =>
    have hle := lay_le hc K
    by_cases h : (ch K).length = 0
    · rw [lay_skip h, ih]
      constructor
      · rintro ⟨j, h1, h2, h3⟩
        exact ⟨j, by omega, h2, h3⟩
      · rintro ⟨j, h1, h2, h3⟩
        have : j ≠ K := fun e => h2 (e ▸ h)
        exact ⟨j, by omega, h2, h3⟩
    · rw [lay_put h, List.length_append, pad_length, Nat.max_eq_right hle]
      constructor
      · intro h1
        exact ⟨K, by omega, h, h1⟩
      · rintro ⟨j, h1, h2, h3⟩
        have := hc j
        rcases Nat.lt_or_ge j K with h4 | h4
        · omega
        · obtain rfl : j = K := by omega
          exact h3
theorem lay_congr {ch ch' : Nat → List Int} {K : Nat} (h : ∀ k, k < K → ch k = ch' k) : lay ch K = lay ch' K := by
  induction K with
  | zero => rfl
  | succ K ih =>
    unfold lay
    rw [ih fun k hk => h k (by omega), h K (by omega)]
/-- A file is its sectors. -/
theorem lay_self (l : List Int) {K : Nat} (hK : l.length ≤ 512 * K) : lay (sec l) K = l := by
  have hc : ∀ k, (sec l k).length ≤ 512 := fun k => by rw [sec_length]; omega
  have hlt : ∀ i, i < (lay (sec l) K).length ↔ i < l.length := fun i => by
    rw [lay_lt hc]
    constructor
    · rintro ⟨j, h1, h2, h3⟩
      rw [sec_length] at h2 h3
      omega
    · intro hi
      refine ⟨i / 512, by omega, ?_, ?_⟩
      all_goals
        rw [sec_length]
        omega
  have hlen : (lay (sec l) K).length = l.length := by
    rcases Nat.lt_trichotomy (lay (sec l) K).length l.length with h | h | h
    · have := (hlt _).2 h; omega
    · exact h
    · have := (hlt _).1 h; omega
  refine ext0 hlen fun i hi => ?_
  rw [lay_getD hc, if_pos (by omega), sec_byte]

/-- Does the sector stay as it is? -/
def stays (now safe : List Int) (kp : Nat → Bool) (k : Nat) : Bool := dirt now safe k && kp (dirtyTo now safe k).length
def chosen (now safe : List Int) (kp : Nat → Bool) (k : Nat) : List Int := if stays now safe kp k = true then sec now k else sec safe k
def crash (now safe : List Int) (kp : Nat → Bool) : List Int := lay (chosen now safe kp) (secs (max now.length safe.length))
theorem chosen_le (now safe : List Int) (kp : Nat → Bool) (k : Nat) : (chosen now safe kp k).length ≤ 512 := by
  unfold chosen
  split <;> (rw [sec_length]; omega)
theorem chosen_all {now safe : List Int} (hn : AllB now) (hs : AllB safe) (kp : Nat → Bool) (k : Nat) : AllB (chosen now safe kp k) := by
  unfold chosen
  split
  · exact sec_all hn k
  · exact sec_all hs k
theorem crash_all {now safe : List Int} (hn : AllB now) (hs : AllB safe) (kp : Nat → Bool) : AllB (crash now safe kp) := lay_all (chosen_all hn hs kp) _
theorem crash_none {now safe : List Int} {kp : Nat → Bool} (h : ∀ i, i < (dirty now safe).length → kp i = false) : crash now safe kp = safe := by
  unfold crash
  rw [lay_congr (ch' := sec safe) fun k hk => ?_]
  · exact lay_self safe (by have := (secs_le (n := max now.length safe.length) (k := secs (max now.length safe.length))).1 (Nat.le_refl _); omega)
  · unfold chosen stays
    cases hd : dirt now safe k with
    | false => rfl
    | true => rw [h _ (dirtyTo_at hk hd).1]; rfl
theorem crash_every {now safe : List Int} {kp : Nat → Bool} (h : ∀ i, i < (dirty now safe).length → kp i = true) : crash now safe kp = now := by
  unfold crash
  rw [lay_congr (ch' := sec now) fun k hk => ?_]
  · exact lay_self now (by have := (secs_le (n := max now.length safe.length) (k := secs (max now.length safe.length))).1 (Nat.le_refl _); omega)
  · unfold chosen stays
    cases hd : dirt now safe k with
    | false =>
      have : sec now k = sec safe k := by simpa [dirt] using hd
      simp [this]
    | true => rw [h _ (dirtyTo_at hk hd).1]; rfl
theorem crash_getD (now safe : List Int) (kp : Nat → Bool) (i : Nat) : (crash now safe kp).getD i 0 = if stays now safe kp (i / 512) = true then now.getD i 0 else safe.getD i 0 := by
  unfold crash
  rw [lay_getD (chosen_le now safe kp)]
  split
  · unfold chosen
    split
    · exact sec_byte _ _
    · exact sec_byte _ _
  · rename_i h
    have h1 := secs_le.1 (Nat.le_of_not_lt h)
    rw [getD_out (l := now) (by omega), getD_out (l := safe) (by omega)]
    split <;> rfl
theorem crash_lt {now safe : List Int} {kp : Nat → Bool} (i : Nat) : i < (crash now safe kp).length ↔ ∃ j, 512 * j < max now.length safe.length ∧ (chosen now safe kp j).length ≠ 0 ∧ i < 512 * j + (chosen now safe kp j).length := by
  unfold crash
  rw [lay_lt (chosen_le now safe kp)]
  simp only [secs_lt]
theorem crash_len_le (now safe : List Int) (kp : Nat → Bool) : (crash now safe kp).length ≤ max now.length safe.length := by
  rcases Nat.lt_or_ge (max now.length safe.length) (crash now safe kp).length with h | h
  · obtain ⟨j, h1, h2, h3⟩ := (crash_lt _).1 h
    unfold chosen at h2 h3
    split at h3 <;> (rw [sec_length] at h3; omega)
  · exact h
/-- What both have is there behind it. -/
theorem crash_len_ge {now safe : List Int} {kp : Nat → Bool} {n : Nat} (h1 : n ≤ now.length) (h2 : n ≤ safe.length) : n ≤ (crash now safe kp).length := by
  rcases Nat.eq_zero_or_pos n with rfl | h0
  · exact Nat.zero_le _
  · have : n - 1 < (crash now safe kp).length := (crash_lt _).2 ⟨(n - 1) / 512, by omega, by
      unfold chosen
      split <;> (rw [sec_length]; omega), by
      unfold chosen
      split <;> (rw [sec_length]; omega)⟩
    omega
theorem crash_same {now safe : List Int} {kp : Nat → Bool} {i : Nat} (h : now.getD i 0 = safe.getD i 0) : (crash now safe kp).getD i 0 = safe.getD i 0 := by
  rw [crash_getD]
  split
  · exact h
  · rfl
/-- What was synced, where nothing was written since. -/
theorem crash_keeps {b now : List Int} {kp : Nat → Bool} (hl : b.length ≤ now.length) (h : ∀ i, i < b.length → now.getD i 0 = b.getD i 0) : (crash now b kp).take b.length = b := by
  have h1 := crash_len_ge (kp := kp) hl (Nat.le_refl b.length)
  refine ext0 (by rw [List.length_take]; omega) fun i hi => ?_
  rw [List.length_take] at hi
  rw [getD_take, if_pos (by omega), crash_same (h i (by omega))]
/-! ## picking by a loop over the dirty ones -/
def pick (d : List Nat) (B : Nat → Bool) (k : Nat) : Nat → Bool
  | 0 => false
  | i + 1 => (decide (d.getD i 0 = k) && B i) || pick d B k i
theorem pick_yes {d : List Nat} {B : Nat → Bool} {k i : Nat} (h : d.getD i 0 = k) (hB : B i = true) : pick d B k (i + 1) = true := by
  unfold pick; rw [decide_eq_true h, hB]; rfl
theorem pick_other {d : List Nat} {B : Nat → Bool} {k i : Nat} (h : d.getD i 0 ≠ k) : pick d B k (i + 1) = pick d B k i := by
  conv => lhs; unfold pick
  rw [decide_eq_false h]; simp
theorem pick_no {d : List Nat} {B : Nat → Bool} {k i : Nat} (hB : B i = false) : pick d B k (i + 1) = pick d B k i := by
  conv => lhs; unfold pick
  rw [hB]; simp
theorem pick_iff {d : List Nat} {B : Nat → Bool} {k : Nat} (m : Nat) : pick d B k m = true ↔ ∃ j, j < m ∧ d.getD j 0 = k ∧ B j = true := by
  induction m with
  | zero => simp [pick]
  | succ m ih =>
    unfold pick
    rw [Bool.or_eq_true, Bool.and_eq_true, decide_eq_true_eq, ih]
    constructor
    · rintro (⟨h1, h2⟩ | ⟨j, h1, h2, h3⟩)
      · exact ⟨m, by omega, h1, h2⟩
      · exact ⟨j, by omega, h2, h3⟩
    · rintro ⟨j, h1, h2, h3⟩
      rcases Nat.lt_or_ge j m with h4 | h4
      · exact .inr ⟨j, h4, h2, h3⟩
      · obtain rfl : j = m := by omega
        exact .inl ⟨h2, h3⟩
/-- What is kept, of a row of so many. -/
def kept (L : Nat) (B : Nat → Bool) (i : Nat) : Bool := decide (i < L) && B i
theorem pick_dirty (now safe : List Int) (L : Nat) (B : Nat → Bool) {K k m : Nat} (hk : k < K) (hm : m = min (dirtyTo now safe K).length L) : pick (dirtyTo now safe K) B k m = stays now safe (kept L B) k := by
  subst hm
  cases hs : stays now safe (kept L B) k with
  | true =>
    unfold stays kept at hs
    simp only [Bool.and_eq_true, decide_eq_true_eq] at hs
    obtain ⟨h1, h2, h3⟩ := hs
    obtain ⟨h4, h5⟩ := dirtyTo_at hk h1
    exact (pick_iff _).2 ⟨_, by omega, h5, h3⟩
  | false =>
    cases hp : pick (dirtyTo now safe K) B k (min (dirtyTo now safe K).length L) with
    | false => rfl
    | true =>
      obtain ⟨j, h1, h2, h3⟩ := (pick_iff _).1 hp
      obtain ⟨h4, h5, rfl⟩ := (dirtyTo_is (by omega)).1 h2
      have : stays now safe (kept L B) k = true := by
        unfold stays kept
        rw [h5, h3, decide_eq_true (by omega)]; rfl
      rw [this] at hs; cases hs
theorem chosen_pick (now safe : List Int) (L : Nat) (B : Nat → Bool) {K k m : Nat} (hk : k < K) (hm : m = min (dirtyTo now safe K).length L) :
    (if pick (dirtyTo now safe K) B k m = true then sec now k else sec safe k) = chosen now safe (kept L B) k := by
  rw [pick_dirty now safe L B hk hm]; rfl

/-- A sector that stays, where nothing was cut off: what is there of it is as it stood. -/
theorem either {now safe : List Int} {kp : Nat → Bool} {i k n : Nat} (hs : safe.length ≤ now.length) (hi : i < (dirty now safe).length) (hk : (dirty now safe).getD i 0 = k) (hp : kp i = true) (hn : 512 * k + n ≤ (crash now safe kp).length) (h5 : n ≤ 512) :
    512 * k < now.length ∧ 512 * k + n ≤ now.length ∧ ((crash now safe kp).drop (512 * k)).take n = (now.drop (512 * k)).take n := by
  obtain ⟨h1, h2, h3⟩ := (dirtyTo_is hi).1 hk
  have h4 := secs_lt.1 h1
  have h6 := crash_len_le now safe kp
  have hst : stays now safe kp k = true := by
    unfold stays
    rw [h2, ← h3, hp]; rfl
  refine ⟨by omega, by omega, ext0 (by simp only [List.length_take, List.length_drop]; omega) fun r hr => ?_⟩
  simp only [List.length_take, List.length_drop] at hr
  rw [getD_take, getD_take, if_pos (by omega), if_pos (by omega), getD_drop, getD_drop, crash_getD, show (512 * k + r) / 512 = k by omega, if_pos hst]
theorem dirty_few {now safe : List Int} {n : Nat} (h : max now.length safe.length ≤ 512 * n) : (dirty now safe).length ≤ n :=
  Nat.le_trans (dirtyTo_le _ _ _) (secs_le.2 h)
theorem dirty_at {now safe : List Int} {i : Nat} (hi : i < (dirty now safe).length) : 512 * (dirty now safe).getD i 0 < max now.length safe.length :=
  secs_lt.1 ((dirtyTo_is hi).1 rfl).1
end Go.Proofs.Ytpgkimohekdmmaa.Ta
