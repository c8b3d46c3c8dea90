/-
  A place as a text, plainly: digits, numbers, names, a cursor's text; what is read back.
-/
import Derived.Test.YtpfkhcgeblihcaaDoorTx
namespace Go.Proofs.YtpfkhcgeblihcaaDoor.Kua
set_option linter.unusedVariables false
set_option linter.unusedSimpArgs false

/-! ## digits -/
def hexD (d : Nat) : Int := if d < 10 then 48 + d else 87 + d
def nib (c : Int) : Option Nat := if 48 ≤ c ∧ c ≤ 57 then some (c - 48).toNat else if 97 ≤ c ∧ c ≤ 102 then some (c - 87).toNat else none
theorem nib_hexD {d : Nat} (h : d < 16) : nib (hexD d) = some d := by
  unfold nib hexD
  by_cases h1 : d < 10
  · rw [if_pos h1, if_pos (by omega)]; congr 1; omega
  · rw [if_neg h1, if_neg (by omega), if_pos (by omega)]; congr 1; omega
theorem nib_back {c : Int} {d : Nat} (h : nib c = some d) : c = hexD d ∧ d < 16 := by
  unfold nib at h
  unfold hexD
  by_cases h1 : 48 ≤ c ∧ c ≤ 57
  · rw [if_pos h1] at h; injection h with h; rw [if_pos (by omega)]; omega
  · rw [if_neg h1] at h
    by_cases h2 : 97 ≤ c ∧ c ≤ 102
    · rw [if_pos h2] at h; injection h with h; rw [if_neg (by omega)]; omega
    · rw [if_neg h2] at h; cases h
theorem hexD_byte {d : Nat} (h : d < 16) : 48 ≤ hexD d ∧ hexD d ≤ 102 ∧ hexD d ≠ 59 := by unfold hexD; split <;> omega
theorem hexD_zero {d : Nat} (h : d < 16) : hexD d = 48 ↔ d = 0 := by unfold hexD; split <;> omega
/-- So many digits of a number, the highest first. -/
def digs : Nat → Nat → List Int
  | 0, _ => []
  | k + 1, v => digs k (v / 16) ++ [hexD (v % 16)]
theorem digs_len : ∀ (k v : Nat), (digs k v).length = k
  | 0, _ => rfl
  | k + 1, v => by rw [digs, List.length_append, digs_len k]; rfl
theorem digs_byte : ∀ (k v : Nat), ∀ c ∈ digs k v, 48 ≤ c ∧ c ≤ 102 ∧ c ≠ 59
  | 0, _ => fun c hc => by cases hc
  | k + 1, v => fun c hc => by
    rw [digs, List.mem_append] at hc
    rcases hc with hc | hc
    · exact digs_byte k _ c hc
    · rw [List.mem_singleton.1 hc]; exact hexD_byte (Nat.mod_lt _ (by decide))
/-- The number of which these are the digits, behind what is read already. -/
def valF : List Int → Nat → Option Nat
  | [], v => some v
  | c :: l, v => match nib c with
    | none => none
    | some d => valF l (v * 16 + d)
theorem valF_snoc : ∀ (l : List Int) (c : Int) (v : Nat), valF (l ++ [c]) v = (valF l v).bind fun u => (nib c).map fun d => u * 16 + d
  | [], c, v => by
    simp only [List.nil_append, valF, Option.bind]
    cases nib c <;> rfl
  | x :: l, c, v => by
    simp only [List.cons_append, valF]
    cases nib x with
    | none => rfl
    | some d => exact valF_snoc l c _
theorem valF_digs : ∀ (k v : Nat), valF (digs k v) 0 = some (v % 16 ^ k)
  | 0, v => by simp [digs, valF, Nat.mod_one]
  | k + 1, v => by
    rw [digs, valF_snoc, valF_digs k]
    simp only [Option.bind, nib_hexD (Nat.mod_lt v (by decide : 0 < 16)), Option.map]
    rw [Nat.pow_succ, Nat.mul_comm (16 ^ k) 16, Nat.mod_mul]
    congr 1
    omega
theorem valF_back : ∀ (n : Nat) (l : List Int), l.length = n → ∀ {u : Nat}, valF l 0 = some u → l = digs n u ∧ u < 16 ^ n
  | 0, l, hl, u, h => by
    obtain rfl := List.length_eq_zero_iff.1 hl
    simp only [valF] at h
    injection h with h
    subst h
    exact ⟨rfl, by decide⟩
  | n + 1, l, hl, u, h => by
    have hne : l ≠ [] := fun e => by rw [e] at hl; cases hl
    obtain ⟨s, c, rfl⟩ : ∃ s c, l = s ++ [c] := ⟨l.dropLast, l.getLast hne, (List.dropLast_concat_getLast hne).symm⟩
    rw [valF_snoc] at h
    have hs : s.length = n := by simpa using hl
    cases hv : valF s 0 with
    | none => rw [hv] at h; cases h
    | some u1 =>
      obtain ⟨e1, e2⟩ := valF_back n s hs hv
      rw [hv] at h
      simp only [Option.bind] at h
      cases hc : nib c with
      | none => rw [hc] at h; cases h
      | some d =>
        obtain ⟨e3, e4⟩ := nib_back hc
        rw [hc] at h
        simp only [Option.map] at h
        injection h with h
        subst h
        refine ⟨?_, by rw [Nat.pow_succ]; omega⟩
        rw [digs, show (u1 * 16 + d) / 16 = u1 by omega, show (u1 * 16 + d) % 16 = d by omega, ← e1, ← e3]
theorem valF_none : ∀ (l : List Int) (v : Nat), valF l v = none ↔ ∃ c ∈ l, nib c = none
  | [], v => by simp [valF]
  | c :: l, v => by
    simp only [valF]
    cases h : nib c with
    | none => simp [h]
    | some d => simp [h, valF_none l]

/-! ## a number in 16 digits, and in few -/
def fixL (v : Nat) : List Int := digs 16 v
theorem fix_back {l : List Int} {v : Nat} (hl : l.length = 16) : valF l 0 = some v ↔ l = fixL v ∧ v < 18446744073709551616 := by
  constructor
  · intro h
    obtain ⟨e1, e2⟩ := valF_back 16 l hl h
    exact ⟨e1, e2⟩
  · rintro ⟨rfl, h⟩
    unfold fixL
    rw [valF_digs, Nat.mod_eq_of_lt (by exact h)]
def nd (v : Nat) : Nat := if h : v < 16 then 1 else nd (v / 16) + 1
termination_by v
decreasing_by omega
def shortL (v : Nat) : List Int := digs (nd v) v
theorem nd_small {v : Nat} (h : v < 16) : nd v = 1 := by rw [nd, dif_pos h]
theorem nd_big {v : Nat} (h : ¬ v < 16) : nd v = nd (v / 16) + 1 := by rw [nd, dif_neg h]
theorem short_small {v : Nat} (h : v < 16) : shortL v = [hexD v] := by
  unfold shortL; rw [nd_small h, digs, digs, Nat.mod_eq_of_lt h]; rfl
theorem short_big {v : Nat} (h : ¬ v < 16) : shortL v = shortL (v / 16) ++ [hexD (v % 16)] := by
  unfold shortL; rw [nd_big h, digs]
theorem nd_pos (v : Nat) : 0 < nd v := by
  by_cases h : v < 16
  · rw [nd_small h]; decide
  · rw [nd_big h]; omega
theorem nd_le : ∀ (k v : Nat), v < 16 ^ (k + 1) → nd v ≤ k + 1
  | 0, v, h => by rw [nd_small (by simpa using h)]; exact Nat.le_refl _
  | k + 1, v, h => by
    by_cases h1 : v < 16
    · rw [nd_small h1]; omega
    · rw [nd_big h1]
      have := nd_le k (v / 16) (by rw [Nat.pow_succ] at h; omega)
      omega
theorem lt_nd : ∀ (k v : Nat), nd v ≤ k → v < 16 ^ k
  | 0, v, h => by have := nd_pos v; omega
  | k + 1, v, h => by
    by_cases h1 : v < 16
    · exact Nat.lt_of_lt_of_le h1 (by rw [Nat.pow_succ]; have := Nat.pow_pos (n := k) (by decide : 0 < 16); omega)
    · rw [nd_big h1] at h
      have := lt_nd k (v / 16) (by omega)
      rw [Nat.pow_succ]
      omega
theorem short_len (v : Nat) : (shortL v).length = nd v := digs_len _ _
theorem short_le {v : Nat} (h : v < 18446744073709551616) : 1 ≤ (shortL v).length ∧ (shortL v).length ≤ 16 := by
  rw [short_len]; exact ⟨nd_pos v, nd_le 15 v h⟩
theorem short_byte (v : Nat) : ∀ c ∈ shortL v, 48 ≤ c ∧ c ≤ 102 ∧ c ≠ 59 := digs_byte _ _
theorem short_val (v : Nat) : valF (shortL v) 0 = some v := by
  unfold shortL
  rw [valF_digs, Nat.mod_eq_of_lt (lt_nd _ _ (Nat.le_refl _))]
theorem short_zero : shortL 0 = [48] := by rw [short_small (by decide)]; rfl
/-- No nought stands ahead, but of 0. -/
theorem short_head (v : Nat) : (shortL v).head? = some 48 → v = 0 := by
  induction v using Nat.strongRecOn with
  | ind v ih =>
    intro h
    by_cases h1 : v < 16
    · rw [short_small h1] at h
      simp only [List.head?_cons, Option.some.injEq] at h
      exact (hexD_zero h1).1 h
    · rw [short_big h1] at h
      have hp : shortL (v / 16) ≠ [] := fun e => by have := nd_pos (v / 16); rw [← short_len, e] at this; cases this
      obtain ⟨x, l, e⟩ := List.exists_cons_of_ne_nil hp
      rw [e] at h
      have := ih (v / 16) (by omega) (by rw [e]; simpa using h)
      omega
/-- As few digits as can be. -/
def Few (l : List Int) : Prop := l ≠ [] ∧ (l.head? = some 48 → l = [48])
theorem few_short (v : Nat) : Few (shortL v) := ⟨fun e => (by have := nd_pos v; rw [← short_len, e] at this; cases this), fun h => by rw [short_head v h, short_zero]⟩
theorem short_back : ∀ (n : Nat) (l : List Int), l.length = n → ∀ {v : Nat}, valF l 0 = some v → Few l → l = shortL v
  | 0, l, hl, v, h, hf => absurd (List.length_eq_zero_iff.1 hl) hf.1
  | n + 1, l, hl, v, h, hf => by
    obtain ⟨s, c, rfl⟩ : ∃ s c, l = s ++ [c] := ⟨l.dropLast, l.getLast hf.1, (List.dropLast_concat_getLast hf.1).symm⟩
    have hs : s.length = n := by simpa using hl
    rw [valF_snoc] at h
    cases hv : valF s 0 with
    | none => rw [hv] at h; cases h
    | some u =>
      rw [hv] at h
      simp only [Option.bind] at h
      cases hc : nib c with
      | none => rw [hc] at h; cases h
      | some d =>
        obtain ⟨e3, e4⟩ := nib_back hc
        rw [hc] at h
        simp only [Option.map] at h
        injection h with h
        subst h
        by_cases he : s = []
        · subst he
          simp only [valF] at hv
          injection hv with hv
          subst hv
          rw [show 0 * 16 + d = d by omega, short_small e4, e3]; rfl
        · have hh : s.head? ≠ some 48 := fun hh => by
            have h1 : (s ++ [c]).head? = some 48 := by
              obtain ⟨x, t, rfl⟩ := List.exists_cons_of_ne_nil he
              simpa using hh
            have := congrArg List.length (hf.2 h1)
            simp at this
            exact he this
          have e5 := short_back n s hs hv ⟨he, fun h => absurd h hh⟩
          have hu : u ≠ 0 := fun e => hh (by rw [e5, e, short_zero]; rfl)
          rw [short_big (by omega : ¬ u * 16 + d < 16), show (u * 16 + d) / 16 = u by omega, show (u * 16 + d) % 16 = d by omega, ← e5, ← e3]
theorem short_inj {u v : Nat} (h : shortL u = shortL v) : u = v := by
  have h1 := short_val u
  rw [h, short_val v] at h1
  injection h1 with h1
  exact h1.symm
theorem fix_inj {u v : Nat} (hu : u < 18446744073709551616) (hv : v < 18446744073709551616) (h : fixL u = fixL v) : u = v := by
  have h1 := (fix_back (digs_len 16 u)).2 ⟨rfl, hu⟩
  have h2 := (fix_back (digs_len 16 v)).2 ⟨rfl, hv⟩
  unfold fixL at h
  rw [h, h2] at h1
  injection h1 with h1
  exact h1.symm
/-- 16 digits are few ones behind noughts. -/
theorem digs_pad : ∀ (k v : Nat), nd v ≤ k → digs k v = List.replicate (k - nd v) 48 ++ shortL v
  | 0, v, h => by have := nd_pos v; omega
  | k + 1, v, h => by
    by_cases h1 : v < 16
    · rw [short_small h1, nd_small h1, digs, show v / 16 = 0 by omega, Nat.mod_eq_of_lt h1]
      congr 1
      clear h
      induction k with
      | zero => rfl
      | succ k ih => rw [digs, Nat.zero_div, ih]; simp only [Nat.add_sub_cancel, Nat.zero_mod]; rw [List.replicate_succ']; rfl
    · rw [short_big h1, nd_big h1, digs, digs_pad k (v / 16) (by rw [nd_big h1] at h; omega), List.append_assoc]
      congr 2
      omega
theorem fix_pad {v : Nat} (h : v < 18446744073709551616) : fixL v = List.replicate (16 - (shortL v).length) 48 ++ shortL v := by
  rw [short_len]; exact digs_pad 16 v (nd_le 15 v h)

/-! ## sixteen bytes -/
def pairL (b : Int) : List Int := [hexD (b / 16).toNat, hexD (b % 16).toNat]
def hexL (K : Nat → Int) : List Int := (List.range 16).flatMap fun i => pairL (K i)
def hexN (K : Nat → Int) (n : Nat) : List Int := (List.range n).flatMap fun i => pairL (K i)
theorem hexN_succ (K : Nat → Int) (n : Nat) : hexN K (n + 1) = hexN K n ++ pairL (K n) := by
  unfold hexN; rw [List.range_succ, List.flatMap_append]; simp
theorem hexN_len (K : Nat → Int) : ∀ n, (hexN K n).length = 2 * n
  | 0 => rfl
  | n + 1 => by rw [hexN_succ, List.length_append, hexN_len K n]; simp [pairL]; omega
theorem hex_len (K : Nat → Int) : (hexL K).length = 32 := hexN_len K 16
theorem pair_byte {b : Int} (h0 : 0 ≤ b) (h1 : b < 256) : ∀ c ∈ pairL b, 48 ≤ c ∧ c ≤ 102 ∧ c ≠ 59 := fun c hc => by
  unfold pairL at hc
  simp at hc
  rcases hc with rfl | rfl
  · exact hexD_byte (by omega)
  · exact hexD_byte (by omega)
theorem hexN_byte {K : Nat → Int} (hK : ∀ i, 0 ≤ K i ∧ K i < 256) (n : Nat) : ∀ c ∈ hexN K n, 48 ≤ c ∧ c ≤ 102 ∧ c ≠ 59 := fun c hc => by
  unfold hexN at hc
  obtain ⟨i, _, h⟩ := List.mem_flatMap.1 hc
  exact pair_byte (hK i).1 (hK i).2 c h
theorem pair_val {b : Int} (h0 : 0 ≤ b) (h1 : b < 256) : valF (pairL b) 0 = some b.toNat := by
  unfold pairL
  simp only [valF, nib_hexD (show (b / 16).toNat < 16 by omega), nib_hexD (show (b % 16).toNat < 16 by omega)]
  congr 1
  omega
theorem pair_back {x y : Int} {v : Nat} (h : valF [x, y] 0 = some v) : [x, y] = pairL (v : Int) ∧ v < 256 := by
  obtain ⟨h1, h2⟩ := valF_back 2 [x, y] rfl h
  refine ⟨?_, h2⟩
  rw [h1]
  have e2 : v / 16 % 16 = v / 16 := Nat.mod_eq_of_lt (by omega)
  simp only [digs, pairL, List.nil_append, List.singleton_append, e2]
  rw [show ((v : Int) / 16).toNat = v / 16 by omega, show ((v : Int) % 16).toNat = v % 16 by omega]
/-- The bytes of which these are the digits. -/
def idAt (s : List Int) (i : Nat) : Option Nat := valF ((s.drop (2 * i)).take 2) 0
theorem hex_inj {K M : Nat → Int} (hK : ∀ i, 0 ≤ K i ∧ K i < 256) (hM : ∀ i, 0 ≤ M i ∧ M i < 256) (h : hexL K = hexL M) : ∀ i, i < 16 → K i = M i := by
  have key : ∀ n, hexN K n = hexN M n → ∀ i, i < n → K i = M i := by
    intro n
    induction n with
    | zero => intro _ i hi; omega
    | succ n ih =>
      intro h i hi
      rw [hexN_succ, hexN_succ] at h
      obtain ⟨h1, h2⟩ := List.append_inj h (by rw [hexN_len, hexN_len])
      by_cases hi' : i < n
      · exact ih h1 i hi'
      · obtain rfl : i = n := by omega
        have h3 := pair_val (hK i).1 (hK i).2
        rw [h2, pair_val (hM i).1 (hM i).2] at h3
        injection h3 with h3
        have := (hK i).1; have := (hM i).1
        omega
  exact key 16 h
theorem hexN_at {K : Nat → Int} (hK : ∀ i, 0 ≤ K i ∧ K i < 256) {n i : Nat} (hi : i < n) : idAt (hexN K n) i = some (K i).toNat := by
  have e : ((hexN K n).drop (2 * i)).take 2 = pairL (K i) := by
    have : ∀ m, hexN K (i + 1 + m) = hexN K i ++ (pairL (K i) ++ (List.range m).flatMap fun j => pairL (K (i + 1 + j))) := by
      intro m
      induction m with
      | zero => rw [Nat.add_zero, hexN_succ]; simp
      | succ m ih => rw [← Nat.add_assoc, hexN_succ, ih, List.range_succ, List.flatMap_append]; simp
    obtain ⟨m, rfl⟩ : ∃ m, n = i + 1 + m := ⟨n - (i + 1), by omega⟩
    rw [this m, List.drop_append_of_le_length (by rw [hexN_len]; exact Nat.le_refl _), List.drop_of_length_le (by rw [hexN_len]; exact Nat.le_refl _), List.nil_append, List.take_append_of_le_length (by simp [pairL])]
    rfl
  unfold idAt
  rw [e]
  exact pair_val (hK i).1 (hK i).2
theorem hex_back {s : List Int} (hl : s.length = 32) {K : Nat → Int} (h : ∀ i, i < 16 → idAt s i = some (K i).toNat ∧ 0 ≤ K i) : s = hexL K := by
  have key : ∀ n, n ≤ 16 → s.take (2 * n) = hexN K n := by
    intro n
    induction n with
    | zero => intro _; rfl
    | succ n ih =>
      intro hn
      rw [hexN_succ, ← ih (by omega), show 2 * (n + 1) = 2 * n + 2 by omega, List.take_add]
      congr 1
      obtain ⟨h1, h2⟩ := h n (by omega)
      unfold idAt at h1
      have h3 : ((s.drop (2 * n)).take 2).length = 2 := by rw [List.length_take, List.length_drop]; omega
      obtain ⟨x, y, e⟩ : ∃ x y, (s.drop (2 * n)).take 2 = [x, y] := by
        match hm : (s.drop (2 * n)).take 2, h3 with
        | [x, y], _ => exact ⟨x, y, rfl⟩
      rw [e] at h1 ⊢
      rw [(pair_back h1).1, show (((K n).toNat : Nat) : Int) = K n by omega]
  have := key 16 (Nat.le_refl _)
  rwa [List.take_of_length_le (by omega)] at this
end Go.Proofs.YtpfkhcgeblihcaaDoor.Kua
