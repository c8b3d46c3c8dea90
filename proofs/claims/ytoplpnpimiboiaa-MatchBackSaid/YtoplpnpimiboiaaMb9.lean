/-
  Texts beneath the proof, one behind the other.
-/
import Derived.Test.YtoplpnpimiboiaaMb8
import Derived.Test.YtoplpnpimiboiaaMb5
import Derived.Test.YtoplpnpimiboiaaMb6

/-
  Plain: the match of whole words: small, and with a row.
-/
namespace Go.Proofs.Ytoplpnpimiboiaa.Qs
open Go.ChangeShapes Go.WideShapes Go.ChangeAt Go.RowKit
open Bytes8 Blk8 Own8 OwnE Fa Fb Fc Fo Pr8 Pv8 Qa Qb Qc Qn Qp
open Qk (grp_len grp_ok)
set_option linter.unusedVariables false
set_option maxRecDepth 100000
set_option linter.unusedSimpArgs false

theorem canon_small (row : List PR) : (canon row).length ≤ row.length ∧ ((∀ p ∈ row, AllB p.1) → ∀ a ∈ canon row, a.2.length ≤ row.length) := by
  have hd := Qh.dd_len (sortN row) row.length
  rw [List.take_of_length_le (by rw [sortN_len]; exact Nat.le_refl _)] at hd
  obtain ⟨d1, d2⟩ := dd_fold (sortN row) [] .nil (sortN_up row) (fun a ha => by cases ha)
  rw [← grp_canon]
  refine ⟨Nat.le_trans (grp_len _ []) (by simp; exact hd), fun h a ha => ?_⟩
  have := (grp_ok (dd (sortN row)) [] 0 (fun _ h => by cases h) (fun p hp => h p ((sortN_mem row p).1 (((d2 p).1 hp).elim (fun h => by cases h) id))) a ha).2
  omega
theorem canon_ok {row : List PR} (h : ∀ p ∈ row, okP p) (hl : row.length ≤ 100000) : OkR (canon row) := by
  obtain ⟨h1, h2⟩ := canon_small row
  have h3 := h2 fun p hp => (h p hp).1
  have hM : 100000 ≤ maxLen := by decide
  refine ⟨fun a ha => ?_, by omega⟩
  have hv : ∀ v ∈ a.2, (a.1, v) ∈ row := fun v hv => (canon_in row (a.1, v)).1 ⟨a, ha, rfl, hv⟩
  refine ⟨?_, fun v hv' => ⟨(h _ (hv v hv')).2.1, (h _ (hv v hv')).2.2.2⟩, by have := h3 a ha; omega⟩
  rcases hc : a.2 with _ | ⟨v, vs⟩
  · exact absurd hc ((canon_ris row).each a ha).1
  · have := h _ (hv v (by rw [hc]; simp))
    exact ⟨this.1, this.2.2.1⟩
theorem split_ok' {x : TX} (hx : AllB x) (hl : x.length ≤ 900000) : okP (splitN x, splitV x) := by
  have h1 : (splitN x).length ≤ x.length := by
    unfold splitN
    split
    · rw [List.length_take]; exact Nat.min_le_right _ _
    · exact Nat.zero_le _
  have h2 : (splitV x).length ≤ x.length := by
    unfold splitV
    split
    · rw [List.length_drop]; omega
    · exact Nat.zero_le _
  exact ⟨splitN_all hx, splitV_all hx, by unfold maxLen; show (splitN x).length ≤ _; omega, by unfold maxLen; show (splitV x).length ≤ _; omega⟩
theorem comp_ok : ∀ (ws : List TX) (rows : List RW) (row : List PR), (∀ v ∈ ws, AllB v ∧ v.length ≤ 900000) → (∀ r ∈ rows, OkR r) → (∀ p ∈ row, okP p) → row.length + ws.length ≤ 100000 → (∀ r ∈ (comp ws rows row).2, OkR r) ∧ (comp ws rows row).2.length ≤ rows.length + ws.length + 1
  | [], rows, row, _, hR, hr, hl => by
    rw [comp]
    dsimp only
    split
    · exact ⟨hR, by omega⟩
    · refine ⟨fun r h => ?_, by simp⟩
      rcases List.mem_append.1 h with h | h
      · exact hR r h
      · rw [List.mem_singleton.1 h]; exact canon_ok hr (by simpa using hl)
  | x :: ws, rows, row, hw, hR, hr, hl => by
    have hl' : row.length + ws.length + 1 ≤ 100000 := by simpa [Nat.add_assoc] using hl
    rw [comp]
    split
    · split
      · exact ⟨(fun _ h => by cases h), Nat.zero_le _⟩
      · obtain ⟨h1, h2⟩ := comp_ok ws (rows ++ [canon row]) [] (fun v hv => hw v (by simp [hv])) (fun r h => by
          rcases List.mem_append.1 h with h | h
          · exact hR r h
          · rw [List.mem_singleton.1 h]; exact canon_ok hr (by omega)) (fun _ h => by cases h) (by simp; omega)
        exact ⟨h1, by simp at h2 ⊢; omega⟩
    · split
      · obtain ⟨h1, h2⟩ := comp_ok ws rows (row ++ [(splitN x, splitV x)]) (fun v hv => hw v (by simp [hv])) hR (fun p h => by
          rcases List.mem_append.1 h with h | h
          · exact hr p h
          · rw [List.mem_singleton.1 h]; exact split_ok' (hw x (by simp)).1 (hw x (by simp)).2) (by simp; omega)
        exact ⟨h1, by simp at h2 ⊢; omega⟩
      · exact ⟨(fun _ h => by cases h), Nat.zero_le _⟩
theorem compM_ok {ws : List TX} (h : ∀ v ∈ ws, AllB v ∧ v.length ≤ 900000) : OkM (compM ws).2 := by
  have hM : 100000 ≤ maxLen := by decide
  unfold compM
  split
  · exact ⟨(fun _ h => by cases h), Nat.zero_le _⟩
  · obtain ⟨h1, h2⟩ := comp_ok ws [] [] h (fun _ h => by cases h) (fun _ h => by cases h) (by simp; omega)
    exact ⟨h1, by simp at h2; omega⟩
theorem comp_some : ∀ (ws : List TX) (rows : List RW) (row : List PR), (comp ws rows row).1 = 0 → (rows ≠ [] ∨ row ≠ [] ∨ ws ≠ []) → (∀ x ∈ ws, x ≠ [43] → True) → (comp ws rows row).2 ≠ []
  | [], rows, row, _, h, _ => by
    rw [comp]
    dsimp only
    split
    · rename_i e
      rcases h with h | h | h
      · exact h
      · exact absurd e h
      · exact absurd rfl h
    · simp
  | x :: ws, rows, row, h0, _, ht => by
    rw [comp] at h0 ⊢
    split at h0
    · rename_i e
      rw [if_pos e]
      split at h0
      · cases h0
      · rename_i e2
        rw [if_neg e2]
        exact comp_some ws _ _ h0 (.inl (by simp)) (fun _ _ _ => trivial)
    · rename_i e
      rw [if_neg e]
      split at h0
      · rename_i e2
        rw [if_pos e2]
        exact comp_some ws _ _ h0 (.inr (.inl (by simp))) (fun _ _ _ => trivial)
      · rename_i e2
        exact absurd h0 e2
theorem compM_some {ws : List TX} (h : (compM ws).1 = 0) (hne : ws ≠ []) : (compM ws).2 ≠ [] := by
  unfold compM at h ⊢
  split at h
  · cases h
  · rename_i e
    rw [if_neg e]
    exact comp_some ws [] [] h (.inr (.inr hne)) (fun _ _ _ => trivial)
end Go.Proofs.Ytoplpnpimiboiaa.Qs

/-
  Plain: which matches are right, the words of one, rows of words turned and doubled.
-/
namespace Go.Proofs.Ytoplpnpimiboiaa.Qv
open Go.ChangeShapes Go.WideShapes Go.ChangeAt Go.RowKit
open Bytes8 Blk8 Own8 OwnE Fa Fb Fc Fo Pr8 Pv8 Qa Qb Qc Qn Qp Qu
set_option linter.unusedVariables false
set_option maxRecDepth 100000
set_option linter.unusedSimpArgs false

/-! ## right -/
def rA (a : AL) : Bool := decide (∀ i, i < a.2.length → (a.2.getD i []).length ≤ 256 ∧ (0 < i → ltL (a.2.getD (i - 1) []) (a.2.getD i []) = true)) && (decide (0 < a.2.length) && nmB a.1)
def rR (r : RW) : Bool := decide (∀ i, i < r.length → rA (r.getD i nilA) = true ∧ (0 < i → ltL (r.getD (i - 1) nilA).1 (r.getD i nilA).1 = true)) && decide (0 < r.length)
def vals (r : RW) : Nat := (r.map fun a => a.2.length).sum
def cnt (M : List RW) : Nat := (M.map vals).sum
def rM (M : List RW) : Bool := decide (∀ i, i < M.length → rR (M.getD i []) = true) && decide (cnt M + M.length ≤ 33)
def prs (r : RW) : List PR := r.flatMap fun a => a.2.map fun v => (a.1, v)
theorem prs_in (r : RW) (q : PR) : q ∈ prs r ↔ inR r q := by
  unfold prs inR
  rw [List.mem_flatMap]
  constructor
  · rintro ⟨a, ha, h⟩
    obtain ⟨v, hv, rfl⟩ := List.mem_map.1 h
    exact ⟨a, ha, rfl, hv⟩
  · rintro ⟨a, ha, e, h⟩
    exact ⟨a, ha, List.mem_map.2 ⟨q.2, h, by rw [e]⟩⟩
structure RightP (r : RW) : Prop where
  ris : Ris r
  ne : r ≠ []
  fine : ∀ p ∈ prs r, flawI p.1 p.2 = 0
theorem RightP.prs_ne {r : RW} (h : RightP r) : prs r ≠ [] := by
  rcases r with _ | ⟨a, r⟩
  · exact absurd rfl h.ne
  · rcases hc : a.2 with _ | ⟨v, vs⟩
    · exact absurd hc (h.ris.each a (by simp)).1
    · intro e
      have : ((a.1, v) : PR) ∈ prs (a :: r) := (prs_in _ _).2 ⟨a, by simp, rfl, by rw [hc]; simp⟩
      rw [e] at this; cases this
theorem RightP.canon {r : RW} (h : RightP r) : canon (prs r) = r := (canon_is h.ris fun q => (prs_in r q).symm).symm
theorem flaw_fine {n v : List Int} (h : flawI n v = 0) : nmB n = true ∧ v.length ≤ 256 := by
  unfold flawI at h
  by_cases h1 : nmB n = true
  · rw [if_pos h1] at h
    by_cases h2 : 256 < v.length
    · rw [if_pos h2] at h; cases h
    · exact ⟨h1, by omega⟩
  · rw [if_neg h1] at h; cases h
theorem getD_at {α : Type} {l : List α} {i : Nat} {d : α} (hi : i < l.length) : l.getD i d = l[i] := by simp [List.getElem?_eq_getElem hi]
theorem RightP.alt {r : RW} (h : RightP r) {a : AL} (ha : a ∈ r) : rA a = true := by
  obtain ⟨h1, h2⟩ := h.ris.each a ha
  have hv : ∀ v ∈ a.2, flawI a.1 v = 0 := fun v hv => h.fine (a.1, v) ((prs_in _ _).2 ⟨a, ha, rfl, hv⟩)
  have hpos := List.length_pos_iff.2 h1
  unfold rA
  rw [Bool.and_eq_true, Bool.and_eq_true, decide_eq_true_eq, decide_eq_true_eq]
  refine ⟨fun i hi => ⟨?_, fun h0 => ?_⟩, hpos, (flaw_fine (hv _ (List.getElem_mem (n := 0) hpos))).1⟩
  · rw [getD_at hi]; exact (flaw_fine (hv _ (List.getElem_mem hi))).2
  · rw [getD_at hi, getD_at (show i - 1 < a.2.length by omega)]
    exact List.pairwise_iff_getElem.1 h2 (i - 1) i (by omega) hi (by omega)
theorem RightP.right {r : RW} (h : RightP r) : rR r = true := by
  unfold rR
  rw [Bool.and_eq_true, decide_eq_true_eq, decide_eq_true_eq]
  refine ⟨fun i hi => ⟨?_, fun h0 => ?_⟩, List.length_pos_iff.2 h.ne⟩
  · rw [getD_at hi]; exact h.alt (List.getElem_mem hi)
  · rw [getD_at hi, getD_at (show i - 1 < r.length by omega)]
    exact List.pairwise_iff_getElem.1 h.ris.names (i - 1) i (by omega) hi (by omega)
theorem right_canon {row : List PR} (h : ∀ p ∈ row, flawI p.1 p.2 = 0) (h0 : row ≠ []) : RightP (canon row) := by
  refine ⟨canon_ris row, fun e => ?_, fun p hp => h p ((canon_in row p).1 ((prs_in _ p).1 hp))⟩
  rcases row with _ | ⟨p, row⟩
  · exact h0 rfl
  · have := (canon_in (p :: row) p).2 (by simp)
    rw [e] at this
    exact inR_nil p this
theorem insT_len : ∀ (l : List TX) (s : TX), (insT l s).length ≤ l.length + 1
  | [], s => by simp [insT]
  | x :: l, s => by
    unfold insT
    split
    · have := insT_len l s; simp; omega
    · split <;> simp
theorem vals_cons (a : AL) (r : RW) : vals (a :: r) = a.2.length + vals r := by simp [vals]
theorem insA_vals : ∀ (r : RW) (p : PR), vals (insA r p) ≤ vals r + 1
  | [], p => by simp [insA, vals]
  | a :: l, p => by
    unfold insA
    split
    · rw [vals_cons, vals_cons]; have := insT_len a.2 p.2; dsimp only; omega
    · split
      · rw [vals_cons, vals_cons]; simp; omega
      · rw [vals_cons, vals_cons]; have := insA_vals l p; omega
theorem fold_vals : ∀ (row : List PR) (r : RW), vals (row.foldl insA r) ≤ vals r + row.length
  | [], r => by simp
  | p :: row, r => by
    rw [List.foldl_cons]
    have h1 := fold_vals row (insA r p)
    have h2 := insA_vals r p
    simp; omega
theorem canon_vals (row : List PR) : vals (canon row) ≤ row.length := by
  have := fold_vals row []
  simpa [vals, Qa.canon] using this
theorem cnt_snoc (M : List RW) (r : RW) : cnt (M ++ [r]) = cnt M + vals r := by simp [cnt]
theorem comp_right : ∀ (ws : List TX) (rows : List RW) (row : List PR), (comp ws rows row).1 = 0 → (∀ r ∈ rows, RightP r) → (∀ p ∈ row, flawI p.1 p.2 = 0) →
    (∀ r ∈ (comp ws rows row).2, RightP r) ∧ cnt (comp ws rows row).2 + (comp ws rows row).2.length ≤ cnt rows + rows.length + row.length + ws.length + 1
  | [], rows, row, _, hR, hr => by
    rw [comp]
    dsimp only
    split
    · exact ⟨hR, by simp; omega⟩
    · rename_i e
      refine ⟨fun r h => ?_, ?_⟩
      · rcases List.mem_append.1 h with h | h
        · exact hR r h
        · rw [List.mem_singleton.1 h]; exact right_canon hr e
      · rw [cnt_snoc]; have := canon_vals row; simp; omega
  | x :: ws, rows, row, h0, hR, hr => by
    rw [comp] at h0 ⊢
    split at h0
    · rename_i e
      rw [if_pos e]
      split at h0
      · cases h0
      · rename_i e2
        rw [if_neg e2]
        have hne : row ≠ [] := fun h => e2 (.inl h)
        obtain ⟨h1, h2⟩ := comp_right ws (rows ++ [canon row]) [] h0 (fun r h => by
          rcases List.mem_append.1 h with h | h
          · exact hR r h
          · rw [List.mem_singleton.1 h]; exact right_canon hr hne) (fun _ h => by cases h)
        refine ⟨h1, ?_⟩
        rw [cnt_snoc] at h2
        have := canon_vals row
        simp at h2 ⊢; omega
    · rename_i e
      rw [if_neg e]
      split at h0
      · rename_i e2
        rw [if_pos e2]
        obtain ⟨h1, h2⟩ := comp_right ws rows (row ++ [(splitN x, splitV x)]) h0 hR (fun p h => by
          rcases List.mem_append.1 h with h | h
          · exact hr p h
          · rw [List.mem_singleton.1 h]; exact (pay_split e2).1)
        refine ⟨h1, ?_⟩
        simp at h2 ⊢; omega
      · rename_i e2
        exact absurd h0 e2
theorem right_comp {ws : List TX} {M : List RW} (h : compM ws = (0, M)) : (∀ r ∈ M, RightP r) ∧ cnt M + M.length ≤ 33 := by
  unfold compM at h
  by_cases hl : 32 < ws.length
  · rw [if_pos hl] at h; cases h
  · rw [if_neg hl] at h
    have h1 := comp_right ws [] [] (by rw [h]) (fun _ h => by cases h) (fun _ h => by cases h)
    rw [h] at h1
    refine ⟨h1.1, ?_⟩
    have := h1.2
    simp [cnt] at this ⊢; omega
theorem rM_yes {M : List RW} (h : ∀ r ∈ M, RightP r) (hc : cnt M + M.length ≤ 33) : rM M = true := by
  unfold rM
  rw [Bool.and_eq_true, decide_eq_true_eq, decide_eq_true_eq]
  exact ⟨fun i hi => by rw [getD_at hi]; exact (h _ (List.getElem_mem hi)).right, hc⟩

/-! ## words -/
def payP (p : PR) : TX := pay p.1 p.2
def rowT (r : RW) : List TX := (prs r).map payP
def wordsM : List RW → List TX
  | [] => []
  | r :: M => rowT r ++ M.flatMap fun s => [43] :: rowT s
theorem pay_word {p : PR} (h : flawI p.1 p.2 = 0) : payP p ≠ [43] ∧ splitE (payP p) = 0 ∧ (splitN (payP p), splitV (payP p)) = p := by
  have hs := split_pay h
  have hn := nmB_len (flaw_fine h).1
  refine ⟨fun e => ?_, hs.1, ?_⟩
  · have := congrArg List.length e
    unfold payP at this
    rw [pay_len] at this
    simp at this
    omega
  · unfold payP; rw [hs.2.1, hs.2.2]
theorem comp_row : ∀ (l : List PR) (t : List TX) (rows : List RW) (row : List PR), (∀ p ∈ l, flawI p.1 p.2 = 0) → comp (l.map payP ++ t) rows row = comp t rows (row ++ l)
  | [], t, rows, row, _ => by simp
  | p :: l, t, rows, row, h => by
    obtain ⟨h1, h2, h3⟩ := pay_word (h p (by simp))
    rw [List.map_cons, List.cons_append, comp, if_neg h1, if_pos h2, h3, comp_row l t rows (row ++ [p]) (fun q hq => h q (by simp [hq]))]
    simp
theorem comp_tail : ∀ (M : List RW) (rows : List RW) (r : RW), RightP r → (∀ s ∈ M, RightP s) → comp (M.flatMap fun s => [43] :: rowT s) rows (prs r) = (0, rows ++ r :: M)
  | [], rows, r, h, _ => by
    rw [List.flatMap_nil, comp, if_neg h.prs_ne, h.canon]
  | s :: M, rows, r, h, hM => by
    have hs := hM s (by simp)
    rw [List.flatMap_cons, List.cons_append, comp, if_pos rfl, if_neg, h.canon]
    · unfold rowT
      rw [comp_row (prs s) _ _ _ hs.fine, List.nil_append]
      have := comp_tail M (rows ++ [r]) s hs (fun q hq => hM q (by simp [hq]))
      unfold rowT at this
      rw [this]; simp
    · rintro (e | e)
      · exact h.prs_ne e
      · have := (List.append_eq_nil_iff.1 e).1
        unfold rowT at this
        exact hs.prs_ne (List.map_eq_nil_iff.1 this)
theorem prs_len (r : RW) : (prs r).length = vals r := by
  unfold prs vals
  rw [List.length_flatMap]
  simp
theorem words_len : ∀ (M : List RW), M ≠ [] → (wordsM M).length + 1 = cnt M + M.length
  | [], h => absurd rfl h
  | r :: M, _ => by
    have : ∀ M : List RW, (M.flatMap fun s => [43] :: rowT s).length = cnt M + M.length := fun M => by
      induction M with
      | nil => rfl
      | cons s M ih =>
        rw [List.flatMap_cons, List.length_append, ih]
        unfold rowT cnt
        simp [prs_len]; omega
    unfold wordsM
    rw [List.length_append, this]
    unfold rowT cnt
    simp [prs_len]; omega
theorem comp_words {M : List RW} (h : ∀ r ∈ M, RightP r) (hc : cnt M + M.length ≤ 33) : compM (wordsM M) = (0, M) := by
  unfold compM
  rcases M with _ | ⟨r, M⟩
  · rfl
  · have hl := words_len (r :: M) (by simp)
    rw [if_neg (by omega)]
    unfold wordsM rowT
    rw [comp_row (prs r) _ _ _ (h r (by simp)).fine, List.nil_append]
    have := comp_tail M [] r (h r (by simp)) (fun s hs => h s (by simp [hs]))
    unfold rowT at this
    rw [this]; rfl
theorem words_snoc : ∀ (M : List RW) (r : RW), wordsM (M ++ [r]) = wordsM M ++ (if M = [] then [] else [[43]]) ++ rowT r
  | [], r => by simp [wordsM]
  | s :: M, r => by simp [wordsM]
theorem rowT_snoc (r : RW) (a : AL) : rowT (r ++ [a]) = rowT r ++ a.2.map fun v => pay a.1 v := by
  unfold rowT prs
  simp [payP]
theorem words_all {M : List RW} (h : ∀ r ∈ M, RightP r) (hok : OkM M) : ∀ v ∈ wordsM M, AllB v ∧ v.length ≤ 900000 := by
  have hrow : ∀ r ∈ M, ∀ v ∈ rowT r, AllB v ∧ v.length ≤ 900000 := fun r hr v hv => by
    obtain ⟨p, hp, rfl⟩ := List.mem_map.1 hv
    obtain ⟨a, ha, e, h2⟩ := (prs_in r p).1 hp
    have ho := (hok.1 r hr).1 a ha
    have hf := (h r hr).fine p hp
    have hl := flaw_fine hf
    have hn := nmB_len hl.1
    refine ⟨pay_all (e ▸ ho.1.1) (ho.2.1 _ h2).1, ?_⟩
    unfold payP; rw [pay_len]; omega
  rcases M with _ | ⟨r, M⟩
  · intro v hv; cases hv
  · intro v hv
    unfold wordsM at hv
    rcases List.mem_append.1 hv with hv | hv
    · exact hrow r (by simp) v hv
    · obtain ⟨s, hs, hv⟩ := List.mem_flatMap.1 hv
      rcases List.mem_cons.1 hv with rfl | hv
      · exact ⟨(fun x hx => by simp at hx; subst hx; decide), by simp⟩
      · exact hrow s (by simp [hs]) v hv

/-! ## turned and doubled -/
def bk (d : Bool) : List TX → List TX → List TX → List TX
  | [], b, r => b ++ r
  | x :: ws, b, r => if x = [43] then bk d ws (b ++ r ++ [[43]]) [] else bk d ws b (if d then x :: x :: r else x :: r)
def Gd (x : TX) : Prop := x ≠ [43] ∧ splitE x = 0
theorem comp_good : ∀ (r t : List TX) (rows : List RW) (row : List PR), (∀ x ∈ r, Gd x) → comp (r ++ t) rows row = comp t rows (row ++ r.map sp)
  | [], t, rows, row, _ => by simp
  | x :: r, t, rows, row, h => by
    have hx := h x (by simp)
    rw [List.cons_append, comp, if_neg hx.1, if_pos hx.2, comp_good r t rows _ (fun y hy => h y (by simp [hy]))]
    simp
theorem canon_same {R S : List PR} (h : ∀ p, p ∈ R ↔ p ∈ S) : canon R = canon S :=
  canon_is (canon_ris R) fun q => (canon_in R q).trans (h q)
theorem comp_bk (d : Bool) : ∀ (ws b r : List TX) (A : List RW) (R : List PR), (∀ t, t ≠ [] → comp (b ++ t) [] [] = comp t A []) → (∀ x ∈ r, Gd x) → (∀ x ∈ ws, x = [43] ∨ Gd x) → (∀ p, p ∈ r.map sp ↔ p ∈ R) → (comp ws A R).1 = 0 → (ws ≠ [] ∨ r ≠ []) →
    comp (bk d ws b r) [] [] = comp ws A R
  | [], b, r, A, R, hb, hr, _, hRr, _, hne => by
    have hne : r ≠ [] := hne.elim (fun h => absurd rfl h) id
    have hR : R ≠ [] := fun e => by
      rcases r with _ | ⟨x, r⟩
      · exact hne rfl
      · have := (hRr (sp x)).1 (by simp)
        rw [e] at this; cases this
    have hm : r.map sp ≠ [] := fun e => hne (List.map_eq_nil_iff.1 e)
    unfold bk
    rw [hb r hne]
    have := comp_good r [] A [] hr
    rw [List.append_nil, List.nil_append] at this
    rw [this, comp, comp, if_neg hm, if_neg hR, canon_same hRr]
  | x :: ws, b, r, A, R, hb, hr, hw, hRr, h0, hne => by
    unfold bk
    rw [comp] at h0 ⊢
    by_cases e : x = [43]
    · rw [if_pos e] at h0
      rw [if_pos e, if_pos e]
      by_cases e2 : R = [] ∨ ws = []
      · rw [if_pos e2] at h0; cases h0
      · rw [if_neg e2] at h0 ⊢
        have hR : R ≠ [] := fun h => e2 (.inl h)
        have hws : ws ≠ [] := fun h => e2 (.inr h)
        have hrne : r ≠ [] := fun h => by
          subst h
          rcases R with _ | ⟨p, R⟩
          · exact hR rfl
          · have := (hRr p).2 (by simp)
            cases this
        have hm : r.map sp ≠ [] := fun e => hrne (List.map_eq_nil_iff.1 e)
        refine comp_bk d ws (b ++ r ++ [[43]]) [] (A ++ [canon R]) [] (fun t ht => ?_) (fun _ h => by cases h) (fun y hy => hw y (by simp [hy])) (fun p => by simp) h0 (.inl hws)
        rw [List.append_assoc, List.append_assoc, hb _ (by simp), comp_good r _ _ _ hr, List.nil_append, List.singleton_append, comp, if_pos rfl, if_neg (fun h => h.elim hm ht), canon_same hRr]
    · rw [if_neg e] at h0
      rw [if_neg e, if_neg e]
      have hx : Gd x := (hw x (by simp)).elim (fun h => absurd h e) id
      rw [if_pos hx.2] at h0 ⊢
      refine comp_bk d ws b _ A (R ++ [sp x]) hb (fun y hy => ?_) (fun y hy => hw y (by simp [hy])) (fun p => ?_) h0 (.inr (by cases d <;> simp))
      · cases d
        · rcases List.mem_cons.1 (by simpa using hy : y ∈ x :: r) with rfl | hy
          · exact hx
          · exact hr y hy
        · rcases List.mem_cons.1 (by simpa using hy : y ∈ x :: r) with rfl | hy
          · exact hx
          · exact hr y hy
      · have := hRr p
        cases d
        · simp only [Bool.false_eq_true, if_false, List.map_cons, List.mem_cons, List.mem_append, List.mem_singleton, this, List.not_mem_nil, or_false]; exact or_comm
        · simp only [if_true, List.map_cons, List.mem_cons, List.mem_append, List.mem_singleton, this, List.not_mem_nil, or_false]
          constructor
          · intro h
            exact h.elim .inr (fun h => h.elim .inr .inl)
          · intro h
            exact h.elim (fun h => .inr (.inr h)) .inl
theorem bk_len (d : Bool) : ∀ (ws b r : List TX), (bk d ws b r).length ≤ b.length + r.length + (if d then 2 else 1) * ws.length
  | [], b, r => by unfold bk; simp
  | x :: ws, b, r => by
    unfold bk
    split
    · have := bk_len d ws (b ++ r ++ [[43]]) []
      cases d <;> simp at this ⊢ <;> omega
    · cases d
      · have := bk_len false ws b (x :: r)
        simp at this ⊢; omega
      · have := bk_len true ws b (x :: x :: r)
        simp at this ⊢; omega
theorem compM_bk {d : Bool} {ws : List TX} (h : FW ws) (hl : (if d then 2 else 1) * ws.length ≤ 32) : compM (bk d ws [] []) = compM ws := by
  have h1 := bk_len d ws [] []
  have h32 : ws.length ≤ 32 := by cases d <;> simp at hl <;> omega
  have h0 := comp_fine h h32
  unfold compM at h0 ⊢
  rw [if_neg (by omega)] at h0
  rw [if_neg (by simp at h1; omega), if_neg (by omega)]
  by_cases hw : ws = []
  · subst hw; rfl
  · refine comp_bk d ws [] [] [] [] (fun t _ => rfl) (fun _ h => by cases h) (fun x hx => ?_) (fun p => by simp) h0 (.inl hw)
    obtain ⟨i, hi, rfl⟩ := List.mem_iff_getElem.1 hx
    have h2 := h.1 i hi
    rw [getD_at hi] at h2
    rcases h2 with ⟨e, _⟩ | e
    · exact .inl e
    · exact .inr ⟨e.1, e.2.1⟩
theorem bk_all {d : Bool} {F : TX → Prop} (hp : F [43]) : ∀ (ws b r : List TX), (∀ x ∈ ws, F x) → (∀ x ∈ b, F x) → (∀ x ∈ r, F x) → ∀ x ∈ bk d ws b r, F x
  | [], b, r, _, hb, hr => fun x hx => by
    unfold bk at hx
    exact (List.mem_append.1 hx).elim (hb x) (hr x)
  | y :: ws, b, r, hw, hb, hr => fun x hx => by
    unfold bk at hx
    split at hx
    · refine bk_all hp ws _ [] (fun z hz => hw z (by simp [hz])) (fun z hz => ?_) (fun _ h => by cases h) x hx
      rcases List.mem_append.1 hz with h | h
      · exact (List.mem_append.1 h).elim (hb z) (hr z)
      · rw [List.mem_singleton.1 h]; exact hp
    · refine bk_all hp ws b _ (fun z hz => hw z (by simp [hz])) hb (fun z hz => ?_) x hx
      have : z = y ∨ z ∈ r := by
        cases d <;> simp at hz
        · exact hz
        · exact hz
      rcases this with rfl | h
      · exact hw z (by simp)
      · exact hr z h
end Go.Proofs.Ytoplpnpimiboiaa.Qv
