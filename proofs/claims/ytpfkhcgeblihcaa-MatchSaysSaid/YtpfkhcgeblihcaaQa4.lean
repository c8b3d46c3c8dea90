/-
  Texts beneath the proof, one behind the other.
-/
import Derived.Deep.Slices
import Derived.Lib.SmallJoins
import Derived.SizedLaws
import Derived.BigQuiet
import Derived.Test.YtpfkhcgeblihcaaQa3
import Derived.Test.YtpfkhcgeblihcaaQa1
import Derived.Test.YtpfkhcgeblihcaaQa2

/-
  Plain: rows of a match: pairs by names, then by values; a row made of pairs, in two ways; the match that words ask for.
-/
namespace Go.Proofs.Ytpfkhcgeblihcaa.Qa
open Go.ChangeShapes Go.WideShapes Go.ChangeAt Go.RowKit
open Bytes8 Blk8 Fa Fo Pr8
set_option linter.unusedVariables false
set_option maxRecDepth 100000
set_option linter.unusedSimpArgs false

abbrev TX := List Int
abbrev AL := TX × List TX
abbrev RW := List AL

/-! ## the order -/
def ltN (p q : PR) : Bool := ltL p.1 q.1 || (decide (p.1 = q.1) && ltL p.2 q.2)
theorem ltN_iff {p q : PR} : ltN p q = true ↔ ltL p.1 q.1 = true ∨ (p.1 = q.1 ∧ ltL p.2 q.2 = true) := by simp [ltN]
theorem ltN_irrefl (p : PR) : ltN p p = false := by simp [ltN, ltL_irrefl]
theorem ltN_trans {p q r : PR} (h : ltN p q = true) (k : ltN q r = true) : ltN p r = true := by
  rw [ltN_iff] at *
  rcases h with h | ⟨h1, h2⟩
  · rcases k with k | ⟨k1, k2⟩
    · exact .inl (ltL_trans _ _ _ h k)
    · exact .inl (k1 ▸ h)
  · rcases k with k | ⟨k1, k2⟩
    · exact .inl (h1 ▸ k)
    · exact .inr ⟨h1.trans k1, ltL_trans _ _ _ h2 k2⟩
theorem ltN_total {p q : PR} (h : ltN p q = false) (k : ltN q p = false) : p = q := by
  have h1 : ¬ (ltL p.1 q.1 = true ∨ (p.1 = q.1 ∧ ltL p.2 q.2 = true)) := fun c => by rw [← ltN_iff, h] at c; cases c
  have k1 : ¬ (ltL q.1 p.1 = true ∨ (q.1 = p.1 ∧ ltL q.2 p.2 = true)) := fun c => by rw [← ltN_iff, k] at c; cases c
  have e1 : p.1 = q.1 := ltL_total _ _ (by cases e : ltL p.1 q.1 with | false => rfl | true => exact absurd (.inl e) h1) (by cases e : ltL q.1 p.1 with | false => rfl | true => exact absurd (.inl e) k1)
  have e2 : p.2 = q.2 := ltL_total _ _ (by cases e : ltL p.2 q.2 with | false => rfl | true => exact absurd (.inr ⟨e1, e⟩) h1) (by cases e : ltL q.2 p.2 with | false => rfl | true => exact absurd (.inr ⟨e1.symm, e⟩) k1)
  exact Prod.ext e1 e2

/-- Two rows that rise, with the same in them, are one. -/
theorem sorted_ext {α : Type} {lt : α → α → Prop} (irr : ∀ x, ¬ lt x x) (tr : ∀ x y z, lt x y → lt y z → lt x z) : ∀ l m : List α, l.Pairwise lt → m.Pairwise lt → (∀ x, x ∈ l ↔ x ∈ m) → l = m
  | [], [], _, _, _ => rfl
  | [], b :: m, _, _, h => absurd ((h b).2 (by simp)) (by simp)
  | a :: l, [], _, _, h => absurd ((h a).1 (by simp)) (by simp)
  | a :: l, b :: m, hl, hm, h => by
    rw [List.pairwise_cons] at hl hm
    have e : a = b := by
      rcases List.mem_cons.1 ((h a).1 (by simp)) with h1 | h1
      · exact h1
      · rcases List.mem_cons.1 ((h b).2 (by simp)) with h2 | h2
        · exact h2.symm
        · exact absurd (tr _ _ _ (hm.1 a h1) (hl.1 b h2)) (irr b)
    subst e
    rw [sorted_ext irr tr l m hl.2 hm.2 fun x => ?_]
    constructor
    · intro hx
      rcases List.mem_cons.1 ((h x).1 (by simp [hx])) with h1 | h1
      · subst h1; exact absurd (hl.1 x hx) (irr x)
      · exact h1
    · intro hx
      rcases List.mem_cons.1 ((h x).2 (by simp [hx])) with h1 | h1
      · subst h1; exact absurd (hm.1 x hx) (irr x)
      · exact h1
abbrev UpT (vs : List TX) : Prop := vs.Pairwise fun x y => ltL x y = true
theorem upT_ext {l m : List TX} (hl : UpT l) (hm : UpT m) (h : ∀ x, x ∈ l ↔ x ∈ m) : l = m :=
  sorted_ext (fun x hx => by rw [ltL_irrefl] at hx; cases hx) (fun x y z => ltL_trans x y z) l m hl hm h

/-! ## rows -/
structure Ris (r : RW) : Prop where
  names : r.Pairwise fun a b => ltL a.1 b.1 = true
  each : ∀ a ∈ r, a.2 ≠ [] ∧ UpT a.2
def inR (r : RW) (p : PR) : Prop := ∃ a ∈ r, a.1 = p.1 ∧ p.2 ∈ a.2
theorem Ris.nil : Ris [] := ⟨.nil, fun _ h => by cases h⟩
theorem inR_nil (p : PR) : ¬ inR [] p := fun ⟨_, h, _⟩ => by cases h
theorem inR_cons (a : AL) (r : RW) (p : PR) : inR (a :: r) p ↔ (a.1 = p.1 ∧ p.2 ∈ a.2) ∨ inR r p := by
  unfold inR; simp
theorem inR_app (r s : RW) (p : PR) : inR (r ++ s) p ↔ inR r p ∨ inR s p := by
  unfold inR; simp [or_and_right, exists_or]
theorem Ris.tail {a : AL} {r : RW} (h : Ris (a :: r)) : Ris r := ⟨(List.pairwise_cons.1 h.names).2, fun b hb => h.each b (by simp [hb])⟩
theorem Ris.head {a : AL} {r : RW} (h : Ris (a :: r)) : ∀ b ∈ r, ltL a.1 b.1 = true := (List.pairwise_cons.1 h.names).1
theorem Ris.not_in {a : AL} {r : RW} (h : Ris (a :: r)) {p : PR} (hp : inR r p) : a.1 ≠ p.1 := fun e => by
  obtain ⟨b, hb, e2, _⟩ := hp
  have := h.head b hb
  rw [e, ← e2, ltL_irrefl] at this; cases this
theorem ris_ext : ∀ {r s : RW}, Ris r → Ris s → (∀ p, inR r p ↔ inR s p) → r = s := by
  intro r s hr hs h
  have some_of : ∀ {r : RW}, Ris r → ∀ a ∈ r, ∃ v, inR r (a.1, v) ∧ v ∈ a.2 := fun {r} hr a ha => by
    rcases hv : a.2 with _ | ⟨v, vs⟩
    · exact absurd hv (hr.each a ha).1
    · exact ⟨v, ⟨a, ha, rfl, by rw [hv]; simp⟩, by simp⟩
  have hn : r.map Prod.fst = s.map Prod.fst := by
    refine sorted_ext (lt := fun x y => ltL x y = true) (fun x hx => by rw [ltL_irrefl] at hx; cases hx) (fun x y z => ltL_trans x y z) _ _ ?_ ?_ ?_
    · rw [List.pairwise_map]; exact hr.names
    · rw [List.pairwise_map]; exact hs.names
    · intro x
      constructor
      · intro hx
        obtain ⟨a, ha, rfl⟩ := List.mem_map.1 hx
        obtain ⟨v, hv, _⟩ := some_of hr a ha
        obtain ⟨b, hb, e, _⟩ := (h _).1 hv
        exact List.mem_map.2 ⟨b, hb, e⟩
      · intro hx
        obtain ⟨a, ha, rfl⟩ := List.mem_map.1 hx
        obtain ⟨v, hv, _⟩ := some_of hs a ha
        obtain ⟨b, hb, e, _⟩ := (h _).2 hv
        exact List.mem_map.2 ⟨b, hb, e⟩
  clear some_of
  induction r generalizing s with
  | nil => cases s with
    | nil => rfl
    | cons b s => cases hn
  | cons a r ih => cases s with
    | nil => cases hn
    | cons b s =>
      simp only [List.map_cons, List.cons.injEq] at hn
      obtain ⟨e, hn⟩ := hn
      have hv : a.2 = b.2 := by
        refine upT_ext (hr.each a (by simp)).2 (hs.each b (by simp)).2 fun v => ?_
        constructor
        · intro hv
          rcases (inR_cons b s (b.1, v)).1 ((h (b.1, v)).1 ((inR_cons a r _).2 (.inl ⟨e, hv⟩))) with h1 | h1
          · exact h1.2
          · exact absurd rfl (hs.not_in h1)
        · intro hv
          rcases (inR_cons a r (a.1, v)).1 ((h (a.1, v)).2 ((inR_cons b s _).2 (.inl ⟨e.symm, hv⟩))) with h1 | h1
          · exact h1.2
          · exact absurd rfl (hr.not_in h1)
      have e' : a = b := Prod.ext e hv
      subst e'
      rw [ih hr.tail hs.tail (fun p => ?_) hn]
      have := h p
      rw [inR_cons, inR_cons] at this
      constructor
      · intro hp
        rcases this.1 (.inr hp) with h1 | h1
        · exact absurd h1.1 (hr.not_in hp)
        · exact h1
      · intro hp
        rcases this.2 (.inr hp) with h1 | h1
        · exact absurd h1.1 (hs.not_in hp)
        · exact h1

/-! ## one way: put in one by one -/
def insT : List TX → TX → List TX
  | [], s => [s]
  | x :: l, s => if ltL x s = true then x :: insT l s else if x = s then x :: l else s :: x :: l
theorem insT_mem : ∀ (l : List TX) (s x : TX), x ∈ insT l s ↔ x ∈ l ∨ x = s
  | [], s, x => by simp [insT]
  | y :: l, s, x => by
    unfold insT
    split
    · rw [List.mem_cons, insT_mem l s x, List.mem_cons, or_assoc]
    · split
      · rename_i e
        subst e
        exact ⟨Or.inl, fun h => h.elim id fun h => by rw [h]; simp⟩
      · simp only [List.mem_cons]
        constructor
        · rintro (h | h | h)
          · exact .inr h
          · exact .inl (.inl h)
          · exact .inl (.inr h)
        · rintro ((h | h) | h)
          · exact .inr (.inl h)
          · exact .inr (.inr h)
          · exact .inl h
theorem insT_up : ∀ (l : List TX) (s : TX), UpT l → UpT (insT l s)
  | [], s, _ => by simp [insT, UpT]
  | y :: l, s, h => by
    have h' := List.pairwise_cons.1 h
    unfold insT
    split
    · rename_i h1
      refine List.pairwise_cons.2 ⟨fun z hz => ?_, insT_up l s h'.2⟩
      rcases (insT_mem l s z).1 hz with h2 | h2
      · exact h'.1 z h2
      · rw [h2]; exact h1
    · rename_i h1
      split
      · exact h
      · rename_i h2
        have h3 : ltL s y = true := by
          cases e : ltL s y with
          | true => rfl
          | false => exact absurd (ltL_total _ _ (by simpa using h1) e) h2
        refine List.pairwise_cons.2 ⟨fun z hz => ?_, h⟩
        rcases List.mem_cons.1 hz with h4 | h4
        · rw [h4]; exact h3
        · exact ltL_trans _ _ _ h3 (h'.1 z h4)
theorem insT_ne (l : List TX) (s : TX) : insT l s ≠ [] := fun e => by
  have := (insT_mem l s s).2 (.inr rfl)
  rw [e] at this; cases this
def insA : RW → PR → RW
  | [], p => [(p.1, [p.2])]
  | a :: l, p => if a.1 = p.1 then (p.1, insT a.2 p.2) :: l else if ltL p.1 a.1 = true then (p.1, [p.2]) :: a :: l else a :: insA l p
theorem insA_in : ∀ (r : RW) (p q : PR), inR (insA r p) q ↔ inR r q ∨ q = p
  | [], p, q => by
    show inR [(p.1, [p.2])] q ↔ _
    rw [inR_cons]
    constructor
    · rintro (⟨h1, h2⟩ | h)
      · exact .inr (Prod.ext h1.symm (by simpa using h2))
      · exact absurd h (inR_nil q)
    · rintro (h | rfl)
      · exact absurd h (inR_nil q)
      · exact .inl ⟨rfl, by simp⟩
  | a :: l, p, q => by
    unfold insA
    split
    · rename_i e
      rw [inR_cons, inR_cons]
      dsimp only
      rw [insT_mem, e]
      constructor
      · rintro (⟨h1, h2 | h2⟩ | h)
        · exact .inl (.inl ⟨h1, h2⟩)
        · exact .inr (Prod.ext h1.symm h2)
        · exact .inl (.inr h)
      · rintro ((⟨h1, h2⟩ | h) | rfl)
        · exact .inl ⟨h1, .inl h2⟩
        · exact .inr h
        · exact .inl ⟨rfl, .inr rfl⟩
    · split
      · rw [inR_cons, inR_cons]
        dsimp only
        constructor
        · rintro (⟨h1, h2⟩ | h)
          · exact .inr (Prod.ext h1.symm (by simpa using h2))
          · exact .inl h
        · rintro (h | rfl)
          · exact .inr h
          · exact .inl ⟨rfl, by simp⟩
      · rw [inR_cons, inR_cons, insA_in l p q, or_assoc]
theorem insA_name : ∀ (r : RW) (p : PR), ∀ b ∈ insA r p, (∃ a ∈ r, a.1 = b.1) ∨ b.1 = p.1
  | [], p, b, h => by
    have : b = (p.1, [p.2]) := by simpa [insA] using h
    exact .inr (by rw [this])
  | a :: l, p, b, h => by
    unfold insA at h
    split at h
    · rcases List.mem_cons.1 h with h1 | h1
      · exact .inr (by rw [h1])
      · exact .inl ⟨b, by simp [h1], rfl⟩
    · split at h
      · rcases List.mem_cons.1 h with h1 | h1
        · exact .inr (by rw [h1])
        · exact .inl ⟨b, h1, rfl⟩
      · rcases List.mem_cons.1 h with h1 | h1
        · exact .inl ⟨a, by simp, by rw [h1]⟩
        · rcases insA_name l p b h1 with ⟨c, hc, e⟩ | e
          · exact .inl ⟨c, by simp [hc], e⟩
          · exact .inr e
theorem insA_ris : ∀ (r : RW) (p : PR), Ris r → Ris (insA r p)
  | [], p, _ => ⟨by simp [insA], fun a h => by
      have : a = (p.1, [p.2]) := by simpa [insA] using h
      rw [this]; exact ⟨by simp, by simp [UpT]⟩⟩
  | a :: l, p, h => by
    have hh := h.head
    have ht := h.tail
    have ha := h.each a (by simp)
    unfold insA
    split
    · rename_i e
      refine ⟨List.pairwise_cons.2 ⟨fun b hb => ?_, ht.names⟩, fun b hb => ?_⟩
      · dsimp only; rw [← e]; exact hh b hb
      · rcases List.mem_cons.1 hb with h1 | h1
        · rw [h1]; exact ⟨insT_ne _ _, insT_up _ _ ha.2⟩
        · exact ht.each b h1
    · rename_i h1
      split
      · rename_i h2
        refine ⟨List.pairwise_cons.2 ⟨fun b hb => ?_, h.names⟩, fun b hb => ?_⟩
        · dsimp only
          rcases List.mem_cons.1 hb with h3 | h3
          · rw [h3]; exact h2
          · exact ltL_trans _ _ _ h2 (hh b h3)
        · rcases List.mem_cons.1 hb with h3 | h3
          · rw [h3]; exact ⟨by simp, by simp [UpT]⟩
          · exact h.each b h3
      · rename_i h2
        have h3 : ltL a.1 p.1 = true := by
          cases e : ltL a.1 p.1 with
          | true => rfl
          | false => exact absurd (ltL_total _ _ e (by simpa using h2)) h1
        have ih := insA_ris l p ht
        refine ⟨List.pairwise_cons.2 ⟨fun b hb => ?_, ih.names⟩, fun b hb => ?_⟩
        · rcases insA_name l p b hb with ⟨c, hc, e⟩ | e
          · rw [← e]; exact hh c hc
          · rw [e]; exact h3
        · rcases List.mem_cons.1 hb with h4 | h4
          · rw [h4]; exact ha
          · exact ih.each b h4
/-- The row that pairs ask for. -/
def canon (row : List PR) : RW := row.foldl insA []
theorem fold_ris : ∀ (l : List PR) (r : RW), Ris r → Ris (l.foldl insA r) ∧ ∀ q, inR (l.foldl insA r) q ↔ inR r q ∨ q ∈ l
  | [], r, h => ⟨h, fun q => by simp⟩
  | p :: l, r, h => by
    obtain ⟨h1, h2⟩ := fold_ris l (insA r p) (insA_ris r p h)
    refine ⟨h1, fun q => ?_⟩
    rw [List.foldl_cons, h2 q, insA_in, List.mem_cons, or_assoc]
theorem canon_ris (row : List PR) : Ris (canon row) := (fold_ris row [] Ris.nil).1
theorem canon_in (row : List PR) (q : PR) : inR (canon row) q ↔ q ∈ row := by
  rw [canon, (fold_ris row [] Ris.nil).2 q]
  constructor
  · rintro (h | h)
    · exact absurd h (inR_nil q)
    · exact h
  · exact .inr
theorem canon_snoc (row : List PR) (p : PR) : canon (row ++ [p]) = insA (canon row) p := by unfold canon; rw [List.foldl_append]; rfl
theorem canon_is {r : RW} {row : List PR} (h : Ris r) (k : ∀ q, inR r q ↔ q ∈ row) : r = canon row :=
  ris_ext h (canon_ris row) fun q => by rw [k, canon_in]

/-! ## the other way: sorted, each once, by names -/
def ddS (acc : List PR) (p : PR) : List PR := if acc.getLast? = some p then acc else acc ++ [p]
def dd (l : List PR) : List PR := l.foldl ddS []
def grpS (r : RW) (p : PR) : RW :=
  match r.getLast? with
  | some a => if a.1 = p.1 then r.dropLast ++ [(a.1, a.2 ++ [p.2])] else r ++ [(p.1, [p.2])]
  | none => [(p.1, [p.2])]
def grp (l : List PR) : RW := l.foldl grpS []
def sortN (l : List PR) : List PR := l.mergeSort fun x y => !ltN y x
theorem sortN_perm (l : List PR) : (sortN l).Perm l := List.mergeSort_perm _ _
theorem sortN_mem (l : List PR) (p : PR) : p ∈ sortN l ↔ p ∈ l := (sortN_perm l).mem_iff
theorem sortN_len (l : List PR) : (sortN l).length = l.length := (sortN_perm l).length_eq
theorem sortN_up (l : List PR) : (sortN l).Pairwise fun x y => ltN y x = false := by
  have := List.pairwise_mergeSort (le := fun x y => !ltN y x) (fun a b c h k => by
    simp only [Bool.not_eq_true'] at *
    cases e : ltN c a with
    | false => rfl
    | true =>
      cases e2 : ltN a b with
      | true => rw [ltN_trans e e2] at k; cases k
      | false => rw [ltN_total e2 h] at e; rw [e] at k; cases k) (fun a b => by
    cases e : ltN b a with
    | false => rfl
    | true => cases e2 : ltN a b with
      | false => rfl
      | true => have := ltN_trans e e2; rw [ltN_irrefl] at this; cases this) l
  exact this.imp fun h => by simpa using h
theorem dd_fold : ∀ (l acc : List PR), acc.Pairwise (fun x y => ltN x y = true) → l.Pairwise (fun x y => ltN y x = false) → (∀ a ∈ acc, ∀ p ∈ l, ltN p a = false) →
    (l.foldl ddS acc).Pairwise (fun x y => ltN x y = true) ∧ ∀ q, q ∈ l.foldl ddS acc ↔ q ∈ acc ∨ q ∈ l
  | [], acc, h, _, _ => ⟨h, fun q => by simp⟩
  | p :: l, acc, h, hl, hal => by
    have hl' := List.pairwise_cons.1 hl
    have step : (ddS acc p).Pairwise (fun x y => ltN x y = true) ∧ (∀ q, q ∈ ddS acc p ↔ q ∈ acc ∨ q = p) := by
      unfold ddS
      split
      · rename_i e
        refine ⟨h, fun q => ⟨Or.inl, ?_⟩⟩
        rintro (h1 | rfl)
        · exact h1
        · exact List.mem_of_getLast? e
      · rename_i e
        refine ⟨List.pairwise_append.2 ⟨h, by simp, fun a ha b hb => ?_⟩, fun q => by simp⟩
        obtain rfl : b = p := by simpa using hb
        cases e2 : ltN a b with
        | true => rfl
        | false =>
          have e3 := ltN_total e2 (hal a ha b (by simp))
          subst e3
          exfalso
          apply e
          rcases List.eq_nil_or_concat acc with h0 | ⟨m, z, h0⟩
          · rw [h0] at ha; cases ha
          · rw [List.concat_eq_append] at h0
            rw [h0, List.getLast?_append]
            rw [h0] at ha h
            have hz : z = a := by
              rcases List.mem_append.1 ha with h1 | h1
              · have h2 := (List.pairwise_append.1 h).2.2 a h1 z (by simp)
                have h3 := hal z (by rw [h0]; simp) a (by simp)
                rw [h2] at h3; cases h3
              · exact (by simpa using h1 : a = z).symm
            rw [hz]; rfl
    obtain ⟨k1, k2⟩ := dd_fold l (ddS acc p) step.1 hl'.2 (fun a ha q hq => by
      rcases (step.2 a).1 ha with h1 | h1
      · exact hal a h1 q (by simp [hq])
      · rw [h1]; exact hl'.1 q hq)
    refine ⟨k1, fun q => ?_⟩
    rw [List.foldl_cons, k2 q, step.2 q, List.mem_cons, or_assoc]
theorem grpS_ris {r : RW} {p : PR} (h : Ris r) (k : ∀ q, inR r q → ltN q p = true) : Ris (grpS r p) ∧ ∀ q, inR (grpS r p) q ↔ inR r q ∨ q = p := by
  rcases List.eq_nil_or_concat r with rfl | ⟨m, a, rfl⟩
  · exact ⟨insA_ris [] p Ris.nil, insA_in [] p⟩
  · rw [List.concat_eq_append] at *
    have hg : (m ++ [a]).getLast? = some a := by rw [List.getLast?_append]; rfl
    have hpw := List.pairwise_append.1 h.names
    have ha := h.each a (by simp)
    unfold grpS
    rw [hg]
    dsimp only
    split
    · rename_i e
      rw [List.dropLast_concat]
      refine ⟨⟨List.pairwise_append.2 ⟨hpw.1, by simp, fun x hx y hy => ?_⟩, fun b hb => ?_⟩, fun q => ?_⟩
      · obtain rfl : y = (a.1, a.2 ++ [p.2]) := by simpa using hy
        exact hpw.2.2 x hx a (by simp)
      · rcases List.mem_append.1 hb with h1 | h1
        · exact h.each b (by simp [h1])
        · obtain rfl : b = (a.1, a.2 ++ [p.2]) := by simpa using h1
          refine ⟨by simp, List.pairwise_append.2 ⟨ha.2, by simp, fun x hx y hy => ?_⟩⟩
          obtain rfl : y = p.2 := by simpa using hy
          rcases ltN_iff.1 (k (a.1, x) ⟨a, by simp, rfl, hx⟩) with h2 | h2
          · dsimp only at h2; rw [e, ltL_irrefl] at h2; cases h2
          · exact h2.2
      · rw [inR_app, inR_app, inR_cons, inR_cons]
        dsimp only
        rw [List.mem_append, List.mem_singleton]
        constructor
        · rintro (h1 | ⟨h1, h2 | h2⟩ | h1)
          · exact .inl (.inl h1)
          · exact .inl (.inr (.inl ⟨h1, h2⟩))
          · exact .inr (Prod.ext (h1.symm.trans e) h2)
          · exact absurd h1 (inR_nil q)
        · rintro ((h1 | ⟨h1, h2⟩ | h1) | rfl)
          · exact .inl h1
          · exact .inr (.inl ⟨h1, .inl h2⟩)
          · exact absurd h1 (inR_nil q)
          · exact .inr (.inl ⟨e, .inr rfl⟩)
    · rename_i e
      have hlt : ∀ b ∈ m ++ [a], ltL b.1 p.1 = true := by
        have hap : ltL a.1 p.1 = true := by
          rcases hv : a.2 with _ | ⟨v, vs⟩
          · exact absurd hv ha.1
          · rcases ltN_iff.1 (k (a.1, v) ⟨a, by simp, rfl, by rw [hv]; simp⟩) with h2 | h2
            · exact h2
            · exact absurd h2.1 e
        intro b hb
        rcases List.mem_append.1 hb with h1 | h1
        · exact ltL_trans _ _ _ (hpw.2.2 b h1 a (by simp)) hap
        · obtain rfl : b = a := by simpa using h1
          exact hap
      refine ⟨⟨List.pairwise_append.2 ⟨h.names, by simp, fun x hx y hy => ?_⟩, fun b hb => ?_⟩, fun q => ?_⟩
      · obtain rfl : y = (p.1, [p.2]) := by simpa using hy
        exact hlt x hx
      · rcases List.mem_append.1 hb with h1 | h1
        · exact h.each b h1
        · obtain rfl : b = (p.1, [p.2]) := by simpa using h1
          exact ⟨by simp, by simp [UpT]⟩
      · rw [inR_app, inR_cons]
        dsimp only
        constructor
        · rintro (h1 | ⟨h1, h2⟩ | h1)
          · exact .inl h1
          · exact .inr (Prod.ext h1.symm (by simpa using h2))
          · exact absurd h1 (inR_nil q)
        · rintro (h1 | rfl)
          · exact .inl h1
          · exact .inr (.inl ⟨rfl, by simp⟩)
theorem grp_fold : ∀ (l : List PR) (r : RW), Ris r → l.Pairwise (fun x y => ltN x y = true) → (∀ q, inR r q → ∀ p ∈ l, ltN q p = true) → Ris (l.foldl grpS r) ∧ ∀ q, inR (l.foldl grpS r) q ↔ inR r q ∨ q ∈ l
  | [], r, h, _, _ => ⟨h, fun q => by simp⟩
  | p :: l, r, h, hl, k => by
    have hl' := List.pairwise_cons.1 hl
    obtain ⟨s1, s2⟩ := grpS_ris h (fun q hq => k q hq p (by simp))
    obtain ⟨k1, k2⟩ := grp_fold l (grpS r p) s1 hl'.2 (fun q hq x hx => by
      rcases (s2 q).1 hq with h1 | h1
      · exact k q h1 x (by simp [hx])
      · rw [h1]; exact hl'.1 x hx)
    refine ⟨k1, fun q => ?_⟩
    rw [List.foldl_cons, k2 q, s2 q, List.mem_cons, or_assoc]
/-- Both ways make one row. -/
theorem grp_canon (row : List PR) : grp (dd (sortN row)) = canon row := by
  obtain ⟨d1, d2⟩ := dd_fold (sortN row) [] .nil (sortN_up row) (fun a ha => by cases ha)
  obtain ⟨g1, g2⟩ := grp_fold (dd (sortN row)) [] Ris.nil d1 (fun q hq => absurd hq (inR_nil q))
  refine canon_is g1 fun q => ?_
  rw [grp, g2 q]
  constructor
  · rintro (h | h)
    · exact absurd h (inR_nil q)
    · rcases (d2 q).1 h with h1 | h1
      · cases h1
      · exact (sortN_mem row q).1 h1
  · intro h
    exact .inr ((d2 q).2 (.inr ((sortN_mem row q).2 h)))

/-! ## the words -/
/-- What the words that are left make, behind the rows, and the pairs of the row that is under way. -/
def comp : List TX → List RW → List PR → Int × List RW
  | [], rows, row => (0, if row = [] then rows else rows ++ [canon row])
  | x :: r, rows, row => if x = [43] then (if row = [] ∨ r = [] then (20, []) else comp r (rows ++ [canon row]) []) else if splitE x = 0 then comp r rows (row ++ [(splitN x, splitV x)]) else (splitE x, [])
def compM (ws : List TX) : Int × List RW := if 32 < ws.length then (21, []) else comp ws [] []
end Go.Proofs.Ytpfkhcgeblihcaa.Qa

/-
  The document's Within, loop in loop.
-/
namespace Go.Proofs.Ytpfkhcgeblihcaa.Pb8
open Go.ChangeShapes Go.WideShapes Go.ChangeAt Go.RowKit
open Bytes8 Blk8 Own8 OwnE Fa Fb Fc Fo In8 Pr8 Pa8
set_option linter.unusedVariables false
set_option maxRecDepth 100000
set_option linter.unusedSimpArgs false

def subB (l m : List PR) : Bool := l.all fun p => decide (p ∈ m)
theorem subB_no {l m : List PR} {i : Nat} (hi : i < l.length) (h : l.getD i nil2 ∉ m) : subB l m = false := by
  cases hs : subB l m with
  | false => rfl
  | true =>
    have := List.all_eq_true.1 hs _ (getD_mem' hi)
    simp at this
    exact absurd this (by simpa using h)
theorem subB_yes {l m : List PR} (h : ∀ i, i < l.length → l.getD i nil2 ∈ m) : subB l m = true := by
  refine List.all_eq_true.2 fun p hp => ?_
  obtain ⟨i, hi, rfl⟩ := mem_getD hp
  simpa using h i hi
theorem mem_take_step {m : List PR} {k : Nat} (hk : k < m.length) (p : PR) : decide (p ∈ m.take (k + 1)) = (decide (p ∈ m.take k) || decide (p = m.getD k nil2)) := by
  rw [take_step hk]
  simp [List.mem_append]

end Go.Proofs.Ytpfkhcgeblihcaa.Pb8

/-
  Pairs each once: what unlike answers.
-/
namespace Go.Proofs.Ytpfkhcgeblihcaa.Pu8
open Go.ChangeShapes Go.WideShapes Go.ChangeAt Go.RowKit
open Bytes8 Blk8 Own8 OwnE Fa Fb Fc Fo In8 Pr8 Pa8
set_option linter.unusedVariables false
set_option maxRecDepth 100000
set_option linter.unusedSimpArgs false

/-- What unlike tells: those each once, where they are not too many. -/
def Unlike (l : List PR) (w : World) (e : Ending) (w' : World) : Prop :=
  if (ded l).length ≤ 16 then ∃ A c, e = .returned (.tuple #[.slice A (ded l).length c, .bool true]) ∧ OwnP w' w.heap.size A (ded l).length c (ded l) ∧ Below w.heap.size w w'
  else e = .returned (.tuple #[.slice none 0 0, .bool false]) ∧ Below w.heap.size w w'

end Go.Proofs.Ytpfkhcgeblihcaa.Pu8

/-
  Matches in memory; how one comes in.
-/
namespace Go.Proofs.Ytpfkhcgeblihcaa.Qb
open Go.ChangeShapes Go.WideShapes Go.ChangeAt Go.RowKit Go.Deep
open Bytes8 Blk8 Own8 OwnE Fa Fo Pr8 Pv8 Qa
open In8 (text_of)
set_option linter.unusedVariables false
set_option maxRecDepth 100000
set_option linter.unusedSimpArgs false

abbrev nilA : AL := ([], [])
def OkT (v : TX) : Prop := AllB v ∧ v.length ≤ maxLen
def OkA (a : AL) : Prop := OkT a.1 ∧ (∀ v ∈ a.2, OkT v) ∧ a.2.length ≤ maxLen
def OkR (r : RW) : Prop := (∀ a ∈ r, OkA a) ∧ r.length ≤ maxLen
def OkM (M : List RW) : Prop := (∀ r ∈ M, OkR r) ∧ M.length ≤ maxLen
theorem getD_in {α : Type} {l : List α} {i : Nat} {d : α} (hi : i < l.length) : l.getD i d ∈ l := by
  rw [List.getD_eq_getElem?_getD, List.getElem?_eq_getElem hi]; exact List.getElem_mem hi

def Als (w : World) (a : Option Addr) (l : RW) : Prop :=
  ∀ i, i < l.length → ∃ b off A c, a = some ⟨b, off, none⟩ ∧ b < w.heap.size ∧ w.cell? ⟨b, off + i * 2, none⟩ = some (.string (T (l.getD i nilA).1)) ∧ w.cell? ⟨b, off + i * 2 + 1, none⟩ = some (.slice A (l.getD i nilA).2.length c) ∧ Txts w A (l.getD i nilA).2
theorem Als.below {w w' : World} {a : Option Addr} {l : RW} (h : Als w a l) (hb : Below w.heap.size w w') : Als w' a l := fun i hi => by
  obtain ⟨b, off, A, c, e, h1, h2, h3, h4⟩ := h i hi
  exact ⟨b, off, A, c, e, Nat.lt_of_lt_of_le h1 hb.size, (hb.cell (p := ⟨b, off + i * 2, none⟩) h1).trans h2, (hb.cell (p := ⟨b, off + i * 2 + 1, none⟩) h1).trans h3, h4.below hb⟩
def Mts (w : World) (a : Option Addr) (M : List RW) : Prop :=
  ∀ i, i < M.length → ∃ b off A c, a = some ⟨b, off, none⟩ ∧ b < w.heap.size ∧ w.cell? ⟨b, off + i, none⟩ = some (.slice A (M.getD i []).length c) ∧ Als w A (M.getD i [])
theorem Mts.below {w w' : World} {a : Option Addr} {M : List RW} (h : Mts w a M) (hb : Below w.heap.size w w') : Mts w' a M := fun i hi => by
  obtain ⟨b, off, A, c, e, h1, h2, h3⟩ := h i hi
  exact ⟨b, off, A, c, e, Nat.lt_of_lt_of_le h1 hb.size, (hb.cell (p := ⟨b, off + i, none⟩) h1).trans h2, h3.below hb⟩
theorem Txts.nil (w : World) (a : Option Addr) : Txts w a [] := fun i hi => absurd hi (by simp)
theorem Als.nil (w : World) (a : Option Addr) : Als w a [] := fun i hi => absurd hi (by simp)
theorem Mts.nil (w : World) (a : Option Addr) : Mts w a [] := fun i hi => absurd hi (by simp)

/-! ## what comes in -/
section
variable {H : Type} {enc : TypeId × Value → H} {P : Program} {w : World} {base : Nat} {held : Bool}
theorem spot_none {a : Addr} {v : Value} (h : w.cell? (a.add 0) = some v) : ∃ b off, a = ⟨b, off, none⟩ := by
  obtain ⟨b, off, spot⟩ := a
  have : spot = none := by simpa [Addr.add] using World.cell?_spot h
  exact ⟨b, off, by rw [this]⟩
theorem txts_cell {t e : TypeId} {fuel : Nat} {v : Value} {x : DataW H × List MemPlace} (ht : P.underlying t = some (.slice e)) (he : P.underlying e = some .string) (ce : P.cellsOf e = 1)
    (h : DataW.trod enc P w base (fun _ => true) held fuel t [v] = some x) : ∃ A c vs, v = .slice A vs.length c ∧ Txts w A vs ∧ (∀ u ∈ vs, OkT u) ∧ vs.length ≤ c ∧ c ≤ maxLen := by
  rcases open_slice1 ht ce h with ⟨hcs, _⟩ | ⟨a, len, cap, m, n, V, D, Pl, hcs, _, hl, hm, hmm, _, hx⟩
  · simp at hcs
    exact ⟨none, 0, [], hcs, Txts.nil _ _, (fun _ h => by cases h), Nat.le_refl _, by decide⟩
  · simp at hcs hmm
    subst hmm
    have each : ∀ i, i < len → ∃ q : TX, V i = .string (T q) ∧ OkT q := fun i hi => by
      obtain ⟨_, t0⟩ := hx i (by omega)
      obtain ⟨s0, e0, _, z0⟩ := DataW.trod_string he t0
      injection e0 with e0
      obtain ⟨q, rfl, hq⟩ := text_of (s := s0)
      rw [T_size] at z0
      exact ⟨q, e0, hq, z0⟩
    obtain ⟨q, hq⟩ := choose_lt each
    refine ⟨some a, m, (List.range len).map q, by simpa using hcs, fun i hi => ?_, fun u hu => ?_, by simpa using hl, hm⟩
    · have hi' : i < len := by simpa using hi
      obtain ⟨h1, _⟩ := hx i (by omega)
      obtain ⟨b, off, rfl⟩ := spot_none (hx 0 (by omega)).1
      have hlt := bounds_of_cell h1
      rw [add_none] at h1 hlt
      refine ⟨b, off, rfl, hlt, ?_⟩
      rw [h1, (hq i hi').1]
      simp [hi']
    · obtain ⟨i, hi, rfl⟩ := List.mem_map.1 hu
      exact (hq i (List.mem_range.1 hi)).2
theorem als_cell {t e q : TypeId} {f0 f1 : Field} {fuel : Nat} {v : Value} {x : DataW H × List MemPlace} (ht : P.underlying t = some (.slice e)) (he : P.underlying e = some (.struct #[f0, f1])) (ce : P.cellsOf e = 2) (o0 : f0.offset = 0) (o1 : f1.offset = 1) (c0 : P.cellsOf f0.type = 1) (c1 : P.cellsOf f1.type = 1)
    (h0 : P.underlying f0.type = some .string) (h1 : P.underlying f1.type = some (.slice q)) (hq : P.underlying q = some .string) (cq : P.cellsOf q = 1)
    (h : DataW.trod enc P w base (fun _ => true) held fuel t [v] = some x) : ∃ A c l, v = .slice A l.length c ∧ Als w A l ∧ (∀ a ∈ l, OkA a) ∧ l.length ≤ c ∧ c ≤ maxLen := by
  rcases open_slice_pairs ht he ce o0 o1 c0 c1 h with ⟨hcs, _⟩ | ⟨a, len, cap, m, n, V0, V1, D0, D1, P0, P1, hcs, _, hl, hm, hmm, _, hel⟩
  · simp at hcs
    exact ⟨none, 0, [], hcs, Als.nil _ _, (fun _ h => by cases h), Nat.le_refl _, by decide⟩
  · simp at hcs hmm
    subst hmm
    have each : ∀ i, i < len → ∃ p : AL × Option Addr × Nat, V0 i = .string (T p.1.1) ∧ V1 i = .slice p.2.1 p.1.2.length p.2.2 ∧ Txts w p.2.1 p.1.2 ∧ OkA p.1 := fun i hi => by
      obtain ⟨_, _, t0, t1⟩ := hel i (by omega)
      obtain ⟨s0, e0, _, z0⟩ := DataW.trod_string h0 t0
      injection e0 with e0
      obtain ⟨nm, rfl, hn⟩ := text_of (s := s0)
      rw [T_size] at z0
      obtain ⟨A, c, vs, e1, k1, k2, k3, k4⟩ := txts_cell h1 hq cq t1
      exact ⟨((nm, vs), A, c), e0, e1, k1, ⟨hn, z0⟩, k2, by show vs.length ≤ _; omega⟩
    obtain ⟨p, hp⟩ := choose_lt each
    refine ⟨some a, m, (List.range len).map fun i => (p i).1, by simpa using hcs, fun i hi => ?_, fun u hu => ?_, by simpa using hl, hm⟩
    · have hi' : i < len := by simpa using hi
      obtain ⟨k1, k2, _⟩ := hel i (by omega)
      obtain ⟨b, off, rfl⟩ := spot_none (by simpa using (hel 0 (by omega)).1)
      have hlt := bounds_of_cell k1
      rw [add_none] at k1 k2 hlt
      obtain ⟨g1, g2, g3, _⟩ := hp i hi'
      refine ⟨b, off, (p i).2.1, (p i).2.2, rfl, hlt, ?_, ?_, ?_⟩
      · rw [k1, g1]; simp [hi']
      · rw [Nat.add_assoc, k2, g2]; simp [hi']
      · simpa [hi'] using g3
    · obtain ⟨i, hi, rfl⟩ := List.mem_map.1 hu
      exact (hp i (List.mem_range.1 hi)).2.2.2
theorem mts_cell {s t e q : TypeId} {f0 f1 : Field} {fuel : Nat} {v : Value} {x : DataW H × List MemPlace} (hs : P.underlying s = some (.slice t)) (ct : P.cellsOf t = 1) (ht : P.underlying t = some (.slice e)) (he : P.underlying e = some (.struct #[f0, f1])) (ce : P.cellsOf e = 2) (o0 : f0.offset = 0) (o1 : f1.offset = 1) (c0 : P.cellsOf f0.type = 1) (c1 : P.cellsOf f1.type = 1)
    (h0 : P.underlying f0.type = some .string) (h1 : P.underlying f1.type = some (.slice q)) (hq : P.underlying q = some .string) (cq : P.cellsOf q = 1)
    (h : DataW.trod enc P w base (fun _ => true) held fuel s [v] = some x) : ∃ A c M, v = .slice A M.length c ∧ Mts w A M ∧ OkM M ∧ M.length ≤ c ∧ c ≤ maxLen := by
  rcases open_slice1 hs ct h with ⟨hcs, _⟩ | ⟨a, len, cap, m, n, V, D, Pl, hcs, _, hl, hm, hmm, _, hx⟩
  · simp at hcs
    exact ⟨none, 0, [], hcs, Mts.nil _ _, ⟨(fun _ h => by cases h), Nat.zero_le _⟩, Nat.le_refl _, by decide⟩
  · simp at hcs hmm
    subst hmm
    have each : ∀ i, i < len → ∃ p : RW × Option Addr × Nat, V i = .slice p.2.1 p.1.length p.2.2 ∧ Als w p.2.1 p.1 ∧ OkR p.1 := fun i hi => by
      obtain ⟨_, t0⟩ := hx i (by omega)
      obtain ⟨A, c, l, e1, k1, k2, k3, k4⟩ := als_cell ht he ce o0 o1 c0 c1 h0 h1 hq cq t0
      exact ⟨(l, A, c), e1, k1, k2, by show l.length ≤ _; omega⟩
    obtain ⟨p, hp⟩ := choose_lt each
    refine ⟨some a, m, (List.range len).map fun i => (p i).1, by simpa using hcs, fun i hi => ?_, ⟨fun u hu => ?_, by simp; omega⟩, by simpa using hl, hm⟩
    · have hi' : i < len := by simpa using hi
      obtain ⟨k1, _⟩ := hx i (by omega)
      obtain ⟨b, off, rfl⟩ := spot_none (hx 0 (by omega)).1
      have hlt := bounds_of_cell k1
      rw [add_none] at k1 hlt
      obtain ⟨g1, g2, _⟩ := hp i hi'
      refine ⟨b, off, (p i).2.1, (p i).2.2, rfl, hlt, ?_, ?_⟩
      · rw [k1, g1]; simp [hi']
      · simpa [hi'] using g2
    · obtain ⟨i, hi, rfl⟩ := List.mem_map.1 hu
      exact (hp i (List.mem_range.1 hi)).2.2
/-- A match by value. -/
theorem match_of_trod {b0 : Nat} {r : Reach} {z s t e q : TypeId} {g f0 f1 : Field} {v : Value} {d : DataW H} {p : List MemPlace} (hz : P.underlying z = some (.struct #[g])) (cz : P.cellsOf z = 1) (og : g.offset = 0) (cg : P.cellsOf g.type = 1) (hs : P.underlying g.type = some (.slice t)) (ct : P.cellsOf t = 1) (ht : P.underlying t = some (.slice e)) (he : P.underlying e = some (.struct #[f0, f1])) (ce : P.cellsOf e = 2) (o0 : f0.offset = 0) (o1 : f1.offset = 1) (c0 : P.cellsOf f0.type = 1) (c1 : P.cellsOf f1.type = 1)
    (h0 : P.underlying f0.type = some .string) (h1 : P.underlying f1.type = some (.slice q)) (hq : P.underlying q = some .string) (cq : P.cellsOf q = 1)
    (hv : Value.okWide P w r b0 z v) (h : DataW.Trod enc P w base (fun _ => true) held z v d p) : ∃ A c M, v = .agg #[.slice A M.length c] ∧ Mts w A M ∧ OkM M ∧ M.length ≤ c ∧ c ≤ maxLen := by
  obtain ⟨cs, rfl, hsz⟩ := okWide_struct hz hv
  rw [cz] at hsz
  obtain ⟨cs⟩ := cs
  simp at hsz
  obtain ⟨fuel, hf⟩ := h
  obtain ⟨y0, n, _, _, t0⟩ := trod_struct1 hz hf
  match cs, hsz with
  | [u], _ =>
    simp [Value.cells, og, cg] at t0
    obtain ⟨A, c, M, rfl, h⟩ := mts_cell hs ct ht he ce o0 o1 c0 c1 h0 h1 hq cq t0
    exact ⟨A, c, M, rfl, h⟩
/-- A slice of texts. -/
theorem txts_of_trod {t e : TypeId} {a : Option Addr} {len cap : Nat} {d : DataW H} {p : List MemPlace} (ht : P.underlying t = some (.slice e)) (he : P.underlying e = some .string) (ce : P.cellsOf e = 1)
    (h : DataW.Trod enc P w base (fun _ => true) held t (.slice a len cap) d p) : ∃ vs : List TX, vs.length = len ∧ Txts w a vs ∧ (∀ u ∈ vs, OkT u) ∧ len ≤ cap ∧ cap ≤ maxLen := by
  obtain ⟨fuel, hf⟩ := h
  obtain ⟨A, c, vs, e1, h1, h2, h3, h4⟩ := txts_cell ht he ce hf
  injection e1 with e1 e2 e3
  subst e1 e2 e3
  exact ⟨vs, rfl, h1, h2, h3, h4⟩
end
end Go.Proofs.Ytpfkhcgeblihcaa.Qb

/-
  Matches that came in, and how long their rows may be: what the form's own reach gives.
-/
namespace Go.Proofs.Ytpfkhcgeblihcaa.Qbs
open Go.ChangeShapes Go.WideShapes Go.ChangeAt Go.RowKit Go.Deep
open Bytes8 Blk8 Own8 OwnE Fa Fo Pr8 Pv8 Qa Qb
open In8 (text_of)
set_option linter.unusedVariables false
set_option maxRecDepth 100000
set_option linter.unusedSimpArgs false

section
variable {H : Type} {enc : TypeId × Value → H} {P : Program} {w : World} {base : Nat} {held : Bool}
/-- No weight of it is beyond the reach. -/
def Lite (P : Program) (t : TypeId) (d : DataW H) : Prop := ∀ n ∈ DataW.weights P t d, n ≤ reachBytes
theorem all_mem {e : TypeId} : ∀ {l : List (DataW H)} {d : DataW H}, d ∈ l → ∀ n ∈ d.weights P e, n ∈ DataW.weightsAll P e l
  | x :: r, d, hd, n, hn => by
    rw [DataW.weightsAll, List.mem_append]
    rcases List.mem_cons.1 hd with rfl | hd
    · exact .inl hn
    · exact .inr (all_mem hd n hn)
theorem lite_slice {t e : TypeId} {els sp : List (DataW H)} (ht : P.underlying t = some (.slice e)) (he : 1 ≤ P.bytesOf e) (h : Lite P t (.slice els sp)) : els.length ≤ reachBytes ∧ ∀ d ∈ els, Lite P e d := by
  unfold Lite at h
  simp only [DataW.weights, ht, List.mem_cons, List.mem_append] at h
  refine ⟨?_, fun d hd n hn => h n (.inr (.inl (all_mem hd n hn)))⟩
  have := h _ (.inl rfl)
  have h2 : els.length + sp.length ≤ (els.length + sp.length) * P.bytesOf e := Nat.le_mul_of_pos_right _ he
  omega
theorem lite_pair {e : TypeId} {f0 f1 : Field} {a b : DataW H} (he : P.underlying e = some (.struct #[f0, f1])) (h : Lite P e (.agg [a, b])) : Lite P f1.type b := fun n hn => by
  unfold Lite at h
  simp only [DataW.weights, he] at h
  exact h n (by simp [DataW.weightsEach, hn])
theorem lite_one {e : TypeId} {f0 : Field} {a : DataW H} (he : P.underlying e = some (.struct #[f0])) (h : Lite P e (.agg [a])) : Lite P f0.type a := fun n hn => by
  unfold Lite at h
  simp only [DataW.weights, he] at h
  exact h n (by simp [DataW.weightsEach, hn])
theorem texts_len {t e : TypeId} {fuel n c : Nat} {A : Option Addr} {x : DataW H × List MemPlace} (ht : P.underlying t = some (.slice e)) (ce : P.cellsOf e = 1) (be : 1 ≤ P.bytesOf e) (hw : Lite P t x.1)
    (h : DataW.trod enc P w base (fun _ => true) held fuel t [.slice A n c] = some x) : n ≤ reachBytes := by
  rcases open_slice1 ht ce h with ⟨hcs, _⟩ | ⟨a, len, cap, m, n', V, D, Pl, hcs, _, hl, hm, hmm, rfl, hx⟩
  · injection hcs with hcs; injection hcs with _ e _; omega
  · injection hcs with hcs; injection hcs with _ e _
    have := (lite_slice ht be hw).1
    simp at this
    omega
/-- No list of it is beyond the reach. -/
def Fits (M : List RW) : Prop := M.length ≤ reachBytes ∧ ∀ r ∈ M, r.length ≤ reachBytes ∧ ∀ a ∈ r, a.2.length ≤ reachBytes
theorem als_fits {t e q : TypeId} {f0 f1 : Field} {fuel : Nat} {v : Value} {x : DataW H × List MemPlace} (ht : P.underlying t = some (.slice e)) (he : P.underlying e = some (.struct #[f0, f1])) (ce : P.cellsOf e = 2) (o0 : f0.offset = 0) (o1 : f1.offset = 1) (c0 : P.cellsOf f0.type = 1) (c1 : P.cellsOf f1.type = 1)
    (h0 : P.underlying f0.type = some .string) (h1 : P.underlying f1.type = some (.slice q)) (hq : P.underlying q = some .string) (cq : P.cellsOf q = 1) (be : 1 ≤ P.bytesOf e) (bq : 1 ≤ P.bytesOf q) (hw : Lite P t x.1)
    (h : DataW.trod enc P w base (fun _ => true) held fuel t [v] = some x) : ∃ A c l, v = .slice A l.length c ∧ Als w A l ∧ (∀ a ∈ l, OkA a) ∧ l.length ≤ c ∧ c ≤ maxLen ∧ l.length ≤ reachBytes ∧ ∀ a ∈ l, a.2.length ≤ reachBytes := by
  rcases open_slice_pairs ht he ce o0 o1 c0 c1 h with ⟨hcs, _⟩ | ⟨a, len, cap, m, n, V0, V1, D0, D1, P0, P1, hcs, _, hl, hm, hmm, rfl, hel⟩
  · simp at hcs
    exact ⟨none, 0, [], hcs, Als.nil _ _, (fun _ h => by cases h), Nat.le_refl _, by decide, Nat.zero_le _, (fun _ h => by cases h)⟩
  · simp at hcs hmm
    subst hmm
    obtain ⟨hw1, hw2⟩ := lite_slice ht be hw
    have each : ∀ i, i < len → ∃ p : AL × Option Addr × Nat, V0 i = .string (T p.1.1) ∧ V1 i = .slice p.2.1 p.1.2.length p.2.2 ∧ Txts w p.2.1 p.1.2 ∧ OkA p.1 ∧ p.1.2.length ≤ reachBytes := fun i hi => by
      obtain ⟨_, _, t0, t1⟩ := hel i (by omega)
      obtain ⟨s0, e0, _, z0⟩ := DataW.trod_string h0 t0
      injection e0 with e0
      obtain ⟨nm, rfl, hn⟩ := text_of (s := s0)
      rw [T_size] at z0
      obtain ⟨A, c, vs, e1, k1, k2, k3, k4⟩ := txts_cell h1 hq cq t1
      have hlen := texts_len h1 cq bq (lite_pair he (hw2 (.agg [D0 i, D1 i]) (List.mem_map.2 ⟨i, List.mem_range.2 hi, rfl⟩))) (by rw [e1] at t1; exact t1)
      exact ⟨((nm, vs), A, c), e0, e1, k1, ⟨⟨hn, z0⟩, k2, by show vs.length ≤ _; omega⟩, hlen⟩
    obtain ⟨p, hp⟩ := choose_lt each
    refine ⟨some a, m, (List.range len).map fun i => (p i).1, by simpa using hcs, fun i hi => ?_, fun u hu => ?_, by simpa using hl, hm, by simpa using hw1, fun u hu => ?_⟩
    · have hi' : i < len := by simpa using hi
      obtain ⟨k1, k2, _⟩ := hel i (by omega)
      obtain ⟨b, off, rfl⟩ := spot_none (by simpa using (hel 0 (by omega)).1)
      have hlt := bounds_of_cell k1
      rw [add_none] at k1 k2 hlt
      obtain ⟨g1, g2, g3, _⟩ := hp i hi'
      refine ⟨b, off, (p i).2.1, (p i).2.2, rfl, hlt, ?_, ?_, ?_⟩
      · rw [k1, g1]; simp [hi']
      · rw [Nat.add_assoc, k2, g2]; simp [hi']
      · simpa [hi'] using g3
    · obtain ⟨i, hi, rfl⟩ := List.mem_map.1 hu
      exact (hp i (List.mem_range.1 hi)).2.2.2.1
    · obtain ⟨i, hi, rfl⟩ := List.mem_map.1 hu
      exact (hp i (List.mem_range.1 hi)).2.2.2.2
theorem mts_fits {s t e q : TypeId} {f0 f1 : Field} {fuel : Nat} {v : Value} {x : DataW H × List MemPlace} (hs : P.underlying s = some (.slice t)) (ct : P.cellsOf t = 1) (ht : P.underlying t = some (.slice e)) (he : P.underlying e = some (.struct #[f0, f1])) (ce : P.cellsOf e = 2) (o0 : f0.offset = 0) (o1 : f1.offset = 1) (c0 : P.cellsOf f0.type = 1) (c1 : P.cellsOf f1.type = 1)
    (h0 : P.underlying f0.type = some .string) (h1 : P.underlying f1.type = some (.slice q)) (hq : P.underlying q = some .string) (cq : P.cellsOf q = 1) (bt : 1 ≤ P.bytesOf t) (be : 1 ≤ P.bytesOf e) (bq : 1 ≤ P.bytesOf q) (hw : Lite P s x.1)
    (h : DataW.trod enc P w base (fun _ => true) held fuel s [v] = some x) : ∃ A c M, v = .slice A M.length c ∧ Mts w A M ∧ OkM M ∧ M.length ≤ c ∧ c ≤ maxLen ∧ Fits M := by
  rcases open_slice1 hs ct h with ⟨hcs, _⟩ | ⟨a, len, cap, m, n, V, D, Pl, hcs, _, hl, hm, hmm, rfl, hx⟩
  · simp at hcs
    exact ⟨none, 0, [], hcs, Mts.nil _ _, ⟨(fun _ h => by cases h), Nat.zero_le _⟩, Nat.le_refl _, by decide, Nat.zero_le _, (fun _ h => by cases h)⟩
  · simp at hcs hmm
    subst hmm
    obtain ⟨hw1, hw2⟩ := lite_slice hs bt hw
    have each : ∀ i, i < len → ∃ p : RW × Option Addr × Nat, V i = .slice p.2.1 p.1.length p.2.2 ∧ Als w p.2.1 p.1 ∧ OkR p.1 ∧ p.1.length ≤ reachBytes ∧ ∀ a ∈ p.1, a.2.length ≤ reachBytes := fun i hi => by
      obtain ⟨_, t0⟩ := hx i (by omega)
      obtain ⟨A, c, l, e1, k1, k2, k3, k4, k5, k6⟩ := als_fits ht he ce o0 o1 c0 c1 h0 h1 hq cq be bq (hw2 (D i) (List.mem_map.2 ⟨i, List.mem_range.2 hi, rfl⟩)) t0
      exact ⟨(l, A, c), e1, k1, ⟨k2, by show l.length ≤ _; omega⟩, k5, k6⟩
    obtain ⟨p, hp⟩ := choose_lt each
    refine ⟨some a, m, (List.range len).map fun i => (p i).1, by simpa using hcs, fun i hi => ?_, ⟨fun u hu => ?_, by simp; omega⟩, by simpa using hl, hm, by simpa using hw1, fun u hu => ?_⟩
    · have hi' : i < len := by simpa using hi
      obtain ⟨k1, _⟩ := hx i (by omega)
      obtain ⟨b, off, rfl⟩ := spot_none (hx 0 (by omega)).1
      have hlt := bounds_of_cell k1
      rw [add_none] at k1 hlt
      obtain ⟨g1, g2, _⟩ := hp i hi'
      refine ⟨b, off, (p i).2.1, (p i).2.2, rfl, hlt, ?_, ?_⟩
      · rw [k1, g1]; simp [hi']
      · simpa [hi'] using g2
    · obtain ⟨i, hi, rfl⟩ := List.mem_map.1 hu
      exact (hp i (List.mem_range.1 hi)).2.2.1
    · obtain ⟨i, hi, rfl⟩ := List.mem_map.1 hu
      exact (hp i (List.mem_range.1 hi)).2.2.2
/-- A match by value, in a call whose arguments are within the reach. -/
theorem match_fits {b0 : Nat} {r : Reach} {z t e q : TypeId} {g f0 f1 : Field} {v : Value} {d : DataW H} {p : List MemPlace} {ts : List TypeId} {ds : List (DataW H)} {j : Nat} (hall : (DataW.weightsEach P ts ds).all (· ≤ reachBytes) = true) (hj : ts[j]? = some z) (hd : ds[j]? = some d)
    (bt : 1 ≤ P.bytesOf t) (be : 1 ≤ P.bytesOf e) (bq : 1 ≤ P.bytesOf q) (hz : P.underlying z = some (.struct #[g])) (cz : P.cellsOf z = 1) (og : g.offset = 0) (cg : P.cellsOf g.type = 1) (hs : P.underlying g.type = some (.slice t)) (ct : P.cellsOf t = 1) (ht : P.underlying t = some (.slice e)) (he : P.underlying e = some (.struct #[f0, f1])) (ce : P.cellsOf e = 2) (o0 : f0.offset = 0) (o1 : f1.offset = 1) (c0 : P.cellsOf f0.type = 1) (c1 : P.cellsOf f1.type = 1)
    (h0 : P.underlying f0.type = some .string) (h1 : P.underlying f1.type = some (.slice q)) (hq : P.underlying q = some .string) (cq : P.cellsOf q = 1)
    (hv : Value.okWide P w r b0 z v) (h : DataW.Trod enc P w base (fun _ => true) held z v d p) : ∃ A c M, v = .agg #[.slice A M.length c] ∧ Mts w A M ∧ OkM M ∧ M.length ≤ c ∧ c ≤ maxLen ∧ Fits M := by
  have hL : Lite P z d := fun n hn => by simpa using List.all_eq_true.1 hall n (DataW.weights_mem_each hj hd n hn)
  obtain ⟨cs, rfl, hsz⟩ := okWide_struct hz hv
  rw [cz] at hsz
  obtain ⟨cs⟩ := cs
  simp at hsz
  obtain ⟨fuel, hf⟩ := h
  obtain ⟨y0, n, hx, _, t0⟩ := trod_struct1 hz hf
  injection hx with hx1 hx2
  subst hx1
  match cs, hsz with
  | [u], _ =>
    simp [Value.cells, og, cg] at t0
    obtain ⟨A, c, M, rfl, h⟩ := mts_fits hs ct ht he ce o0 o1 c0 c1 h0 h1 hq cq bt be bq (lite_one hz hL) t0
    exact ⟨A, c, M, rfl, h⟩
end
end Go.Proofs.Ytpfkhcgeblihcaa.Qbs

/-
  Two rows of texts, whether they are one: the document's way, and the library's.
-/
namespace Go.Proofs.Ytpfkhcgeblihcaa.Qc
open Go.ChangeShapes Go.WideShapes Go.ChangeAt Go.RowKit
open Bytes8 Blk8 Own8 OwnE Fa Fo Pr8 Pv8 Qa Qb
set_option linter.unusedVariables false
set_option maxRecDepth 100000
set_option linter.unusedSimpArgs false

theorem ext_getD {α : Type} (d : α) {l m : List α} (h : l.length = m.length) (k : ∀ i, i < l.length → l.getD i d = m.getD i d) : l = m := by
  refine List.ext_getElem h fun i h1 h2 => ?_
  have := k i h1
  rwa [List.getD_eq_getElem?_getD, List.getD_eq_getElem?_getD, List.getElem?_eq_getElem h1, List.getElem?_eq_getElem h2] at this
theorem getD_ne {α : Type} (d : α) {l m : List α} {i : Nat} (h : l.getD i d ≠ m.getD i d) : l ≠ m := fun e => h (by rw [e])
theorem T_eq {l m : TX} (hl : AllB l) (hm : AllB m) : ((T l).toList == (T m).toList) = decide (l = m) := T_beq hl hm
theorem all_at {vs : List TX} (h : ∀ v ∈ vs, AllB v) (i : Nat) : AllB (vs.getD i []) := by
  by_cases hi : i < vs.length
  · exact h _ (getD_in hi)
  · rw [List.getD_eq_getElem?_getD, List.getElem?_eq_none (by omega)]; intro x hx; cases hx

set_option maxHeartbeats 2000000 in
theorem stexts_any (a b : Option Addr) (vs us : List TX) (c d : Nat) (w : World) (hP : Txts w a vs) (hQ : Txts w b us) (hA : ∀ v ∈ vs, AllB v) (hB : ∀ u ∈ us, AllB u) (h1 : vs.length ≤ maxLen) (h2 : us.length ≤ maxLen) :
    Calls Try.prog 11 #[.slice a vs.length c, .slice b us.length d] w fun e w' => e = .returned (.bool (decide (vs = us))) ∧ Below w.heap.size w w' := by
  unfold maxLen at h1 h2
  have hmx : Try.prog.follows .mixedOrders = true := by kernel_rfl
  by_cases hl : vs.length = us.length
  · have HP := Lib.hid hP
    have HQ := Lib.hid hQ
    have HT := Lib.hid fun k => T_eq (all_at hA k) (all_at hB k)
    have HE := Lib.hid (ext_getD [] hl)
    have HN := Lib.hid fun i => getD_ne (l := vs) (m := us) (i := i) ([] : TX)
    obtain ⟨n, hn⟩ : ∃ n, us.length = n := ⟨_, rfl⟩
    have hnb : n ≤ 9223372036854775807 := by omega
    have HL := Lib.hid (hl.trans hn)
    have HM := Lib.hid hn
    rw [hl, hn]
    clear hP hQ hl hA hB h1 h2 hn
    go_enter Try.func11, Try.ntmps11
    go_wp2
    go_loopw [5] (fun i wr => ∃ j : Nat, j ≤ n ∧ i = .int .i64 (j : Int) ∧ Hid (∀ k, k < j → vs.getD k [] = us.getD k []) ∧ Hid (Below w.heap.size w wr)) (fun i _ => n - (intOf i).toNat)
    case atStart => exact ⟨0, by omega, rfl, Lib.hid (fun k hk => absurd hk (by omega)), Lib.hid (Below.refl _ _)⟩
    case round =>
      obtain ⟨j, hj, rfl, hall, hB⟩ := hrel
      rcases Nat.lt_or_ge j n with hlt | hge
      · obtain ⟨b1, off1, rfl, hbl1, hc0⟩ := (HP.out.below hB.out) j (by have := HL.out; omega)
        obtain ⟨b2, off2, rfl, hbl2, hd0⟩ := (HQ.out.below hB.out) j (by have := HM.out; omega)
        have hin : (j : Int) < (n : Int) := by omega
        have ht := HT.out j
        by_cases he : vs.getD j [] = us.getD j []
        · have hall2 := Lib.hid (fun k (hk : k < j + 1) => (by
            rcases Nat.lt_or_ge k j with h | h
            · exact hall.out k h
            · obtain rfl : k = j := by omega
              exact he : vs.getD k [] = us.getD k []))
          rw [he] at hc0
          clear he hall ht
          generalize T (us.getD j []) = E1 at *
          go_wp2_with fail
          go_quiet (fail)
          go_wp2
          go_round
          case rel => exact ⟨j + 1, by omega, by go_num, hall2, Lib.hid (below_drewN hB.out _)⟩
          case measure => simp [intOf]; omega
        · rw [decide_eq_false he] at ht
          have HR := Lib.hid (HN.out j he)
          clear he hall
          generalize T (us.getD j []) = E1 at *
          generalize T (vs.getD j []) = E2 at *
          go_wp2_with fail
          go_quiet (fail)
          go_wp2
          go_ret
          exact ⟨by rw [decide_eq_false HR.out]; rfl, below_drewN hB.out _⟩
      · obtain rfl : j = n := by omega
        have HR := Lib.hid (HE.out fun i hi => hall.out i (by have := HL.out; omega))
        clear hall
        go_wp2
        go_ret
        exact ⟨by rw [decide_eq_true HR.out]; rfl, hB.out⟩
  · have HR := Lib.hid (show vs ≠ us from fun e => hl (by rw [e]))
    have hl2 : ¬ (vs.length : Int) = (us.length : Int) := by omega
    have hd : ((vs.length : Int) == (us.length : Int)) = false := by simp; omega
    clear hP hQ hA hB
    generalize vs.length = n at *
    generalize us.length = m at *
    go_enter Try.func11, Try.ntmps11
    go_wp2
    go_ret
    exact ⟨by rw [decide_eq_false HR.out]; rfl, Below.refl _ _⟩

set_option maxHeartbeats 2000000 in
theorem ltexts_any (a b : Option Addr) (vs us : List TX) (c d : Nat) (w : World) (hP : Txts w a vs) (hQ : Txts w b us) (hA : ∀ v ∈ vs, AllB v) (hB : ∀ u ∈ us, AllB u) (h1 : vs.length ≤ maxLen) (h2 : us.length ≤ maxLen) :
    Calls Try.prog 52 #[.slice a vs.length c, .slice b us.length d] w fun e w' => e = .returned (.bool (decide (vs = us))) ∧ Below w.heap.size w w' := by
  unfold maxLen at h1 h2
  have hmx : Try.prog.follows .mixedOrders = true := by kernel_rfl
  by_cases hl : vs.length = us.length
  · have HP := Lib.hid hP
    have HQ := Lib.hid hQ
    have HT := Lib.hid fun k => T_eq (all_at hA k) (all_at hB k)
    have HE := Lib.hid (ext_getD [] hl)
    have HN := Lib.hid fun i => getD_ne (l := vs) (m := us) (i := i) ([] : TX)
    obtain ⟨n, hn⟩ : ∃ n, us.length = n := ⟨_, rfl⟩
    have hnb : n ≤ 9223372036854775807 := by omega
    have HL := Lib.hid (hl.trans hn)
    have HM := Lib.hid hn
    rw [hl, hn]
    clear hP hQ hl hA hB h1 h2 hn
    go_enter Try.func52, Try.ntmps52
    go_wp2
    go_loopw [13] (fun i wr => ∃ j : Nat, j ≤ n ∧ i = .int .i64 (j : Int) ∧ Hid (∀ k, k < j → vs.getD k [] = us.getD k []) ∧ Hid (Below w.heap.size w wr)) (fun i _ => n - (intOf i).toNat)
    case atStart => exact ⟨0, by omega, rfl, Lib.hid (fun k hk => absurd hk (by omega)), Lib.hid (Below.refl _ _)⟩
    case round =>
      obtain ⟨j, hj, rfl, hall, hB⟩ := hrel
      rcases Nat.lt_or_ge j n with hlt | hge
      · obtain ⟨b1, off1, rfl, hbl1, hc0⟩ := (HP.out.below hB.out) j (by have := HL.out; omega)
        obtain ⟨b2, off2, rfl, hbl2, hd0⟩ := (HQ.out.below hB.out) j (by have := HM.out; omega)
        have hin : (j : Int) < (n : Int) := by omega
        have ht := HT.out j
        by_cases he : vs.getD j [] = us.getD j []
        · have hall2 := Lib.hid (fun k (hk : k < j + 1) => (by
            rcases Nat.lt_or_ge k j with h | h
            · exact hall.out k h
            · obtain rfl : k = j := by omega
              exact he : vs.getD k [] = us.getD k []))
          rw [he] at hc0
          clear he hall ht
          generalize T (us.getD j []) = E1 at *
          go_wp2_with fail
          go_quiet (fail)
          go_wp2
          go_round
          case rel => exact ⟨j + 1, by omega, by go_num, hall2, Lib.hid (below_drewN hB.out _)⟩
          case measure => simp [intOf]; omega
        · rw [decide_eq_false he] at ht
          have HR := Lib.hid (HN.out j he)
          clear he hall
          generalize T (us.getD j []) = E1 at *
          generalize T (vs.getD j []) = E2 at *
          go_wp2_with fail
          go_quiet (fail)
          go_wp2
          go_ret
          exact ⟨by rw [decide_eq_false HR.out]; rfl, below_drewN hB.out _⟩
      · obtain rfl : j = n := by omega
        have HR := Lib.hid (HE.out fun i hi => hall.out i (by have := HL.out; omega))
        clear hall
        go_wp2
        go_ret
        exact ⟨by rw [decide_eq_true HR.out]; rfl, hB.out⟩
  · have HR := Lib.hid (show vs ≠ us from fun e => hl (by rw [e]))
    have hd : ((vs.length : Int) == (us.length : Int)) = false := by simp; omega
    clear hP hQ hA hB
    generalize vs.length = n at *
    generalize us.length = m at *
    go_enter Try.func52, Try.ntmps52
    go_wp2
    go_ret
    exact ⟨by rw [decide_eq_false HR.out]; rfl, Below.refl _ _⟩
end Go.Proofs.Ytpfkhcgeblihcaa.Qc

/-
  Rising rows of pairs, plain; pairs out of a maker of numbers.
-/
namespace Go.Proofs.Ytpfkhcgeblihcaa.Pq8
open Go.ChangeShapes Go.WideShapes Go.ChangeAt Go.RowKit
open Bytes8 Blk8 Own8 OwnE Fa Fb Fc Fo In8 Rows2 Seq8 SeqP Pr8 Ps8 Pl8
set_option linter.unusedVariables false
set_option maxRecDepth 100000
set_option linter.unusedSimpArgs false

def Rises (l : List PR) : Prop := l.Pairwise fun x y => ltP x y = true
theorem ltL_ntrans (a b c : List Int) (h : ltL a b = false) (k : ltL b c = false) : ltL a c = false := by
  cases h1 : ltL a c with
  | false => rfl
  | true =>
    cases h2 : ltL b a with
    | true => rw [ltL_trans _ _ _ h2 h1] at k; cases k
    | false => rw [ltL_total _ _ h h2] at h1; rw [h1] at k; cases k
theorem sortP_le (l : List PR) : (sortP l).Pairwise fun x y => (!ltP y x) = true := by
  unfold sortP
  refine List.pairwise_mergeSort ?_ ?_ l
  · intro a b c h k
    simp only [Bool.not_eq_true'] at h k ⊢
    exact ltL_ntrans _ _ _ k h
  · intro a b
    cases h : ltP b a with
    | false => rfl
    | true => rw [show ltP a b = false from ltL_asymm _ _ h]; rfl
theorem sortP_rises {l : List PR} (hR : ∀ p ∈ l, okR p) (hn : l.Nodup) : Rises (sortP l) := by
  have h1 := sortP_le l
  have h2 : (sortP l).Nodup := (sortP_perm l).nodup_iff.2 hn
  refine (h1.and h2).imp_of_mem fun {x y} hx hy h => ?_
  cases k : ltP x y with
  | true => rfl
  | false => exact absurd (ltP_total (hR x ((sortP_mem l x).1 hx)) (hR y ((sortP_mem l y).1 hy)) k (by simpa using h.1)) h.2
theorem rises_eq : ∀ (l m : List PR), Rises l → Rises m → (∀ p, p ∈ l ↔ p ∈ m) → l = m
  | [], [], _, _, _ => rfl
  | [], b :: m, _, _, h => absurd ((h b).2 (by simp)) (by simp)
  | a :: l, [], _, _, h => absurd ((h a).1 (by simp)) (by simp)
  | a :: l, b :: m, hl, hm, h => by
    obtain ⟨l1, l2⟩ := List.pairwise_cons.1 hl
    obtain ⟨m1, m2⟩ := List.pairwise_cons.1 hm
    have hab : a = b := by
      rcases List.mem_cons.1 ((h a).1 (by simp)) with e | ha
      · exact e
      · rcases List.mem_cons.1 ((h b).2 (by simp)) with e | hb
        · exact e.symm
        · have this : ltP b a = false := ltL_asymm _ _ (l1 b hb)
          rw [m1 a ha] at this; cases this
    subst hab
    have hi : ∀ q, ltP a q = true → q ≠ a := fun q hq e => by
      rw [e, show ltP a a = false from ltL_irrefl _] at hq; cases hq
    rw [rises_eq l m l2 m2 fun p => ⟨fun hp => by
      rcases List.mem_cons.1 ((h p).1 (by simp [hp])) with e | hp'
      · exact absurd e (hi p (l1 p hp))
      · exact hp', fun hp => by
      rcases List.mem_cons.1 ((h p).2 (by simp [hp])) with e | hp'
      · exact absurd e (hi p (m1 p hp))
      · exact hp'⟩]
theorem list_fine {l : List PR} (hR : ∀ p ∈ l, okR p) (h0 : 0 < l.length) (h16 : (ded l).length ≤ 16) : listE l = 0 ∧ listL l = sortP (ded l) := by
  have he : listE l = 0 := by
    unfold listE
    rw [if_neg (fun e => by rw [e] at h0; cases h0), if_pos (codeL_zero l fun p hp => (hR p hp).2.2), if_pos h16]
  exact ⟨he, if_pos he⟩
theorem list_rises {l : List PR} (hR : ∀ p ∈ l, okR p) : Rises (sortP (ded l)) := sortP_rises (fun p hp => hR p ((ded_mem l p).1 hp)) (ded_nodup l)
theorem list_mem (l : List PR) (p : PR) : p ∈ sortP (ded l) ↔ p ∈ l := (sortP_mem _ p).trans (ded_mem l p)
theorem list_same {l m : List PR} (hl : ∀ p ∈ l, okR p) (hm : ∀ p ∈ m, okR p) (h : ∀ p, p ∈ l ↔ p ∈ m) : sortP (ded l) = sortP (ded m) :=
  rises_eq _ _ (list_rises hl) (list_rises hm) fun p => (list_mem l p).trans ((h p).trans (list_mem m p).symm)
theorem ded_len (l : List PR) : (ded l).length ≤ l.length := by
  have : ∀ (l acc : List PR), (l.foldl addU acc).length ≤ acc.length + l.length := by
    intro l
    induction l with
    | nil => intro acc; simp
    | cons p l ih =>
      intro acc
      rw [List.foldl_cons]
      have h1 := ih (addU acc p)
      have h2 : (addU acc p).length ≤ acc.length + 1 := by unfold addU; split <;> simp
      simp only [List.length_cons]; omega
  have h2 := this l []
  unfold ded
  simpa using h2
theorem nodup_len : ∀ (l m : List PR), l.Nodup → (∀ p ∈ l, p ∈ m) → l.length ≤ m.length
  | [], m, _, _ => Nat.zero_le _
  | a :: l, m, hn, h => by
    have ha := h a (by simp)
    obtain ⟨h1, h2⟩ := List.nodup_cons.1 hn
    have h3 := nodup_len l (m.erase a) h2 fun p hp => (List.mem_erase_of_ne (fun e : p = a => h1 (e ▸ hp))).2 (h p (by simp [hp]))
    rw [List.length_erase_of_mem ha] at h3
    have := List.length_pos_of_mem ha
    simp only [List.length_cons]; omega
/-- Of the same members: as many, each once. -/
theorem ded_len_same {l m : List PR} (h : ∀ p, p ∈ l → p ∈ m) : (ded l).length ≤ (ded m).length :=
  nodup_len _ _ (ded_nodup l) fun p hp => (ded_mem m p).2 (h p ((ded_mem l p).1 hp))

theorem okR_okP {p : PR} (h : okR p) : okP p := by
  obtain ⟨h1, h2⟩ := flaw_len h.2.2
  exact ⟨h.1, h.2.1, Nat.le_trans h1 (by decide), Nat.le_trans h2 (by decide)⟩
theorem OwnP.keptB {w w' : World} {base gq : Nat} {A : Option Addr} {n c : Nat} {l : List PR} (h : OwnP w base A n c l) (hk : KeptB w.heap.size gq w w') (hg : gq < base) : OwnP w' base A n c l := by
  refine ⟨h.1, h.2.1, Nat.le_trans h.2.2.1 hk.size, h.2.2.2.1, ?_⟩
  rcases h.2.2.2.2 with h1 | ⟨g, cap, cur, h1, h2, h3, h4⟩
  · exact .inl h1
  · refine .inr ⟨g, cap, cur, h1, h2, ?_, h4⟩
    have hlt : g < w.heap.size := by
      rcases Nat.lt_or_ge g w.heap.size with h | h
      · exact h
      · rw [Array.getElem?_eq_none h] at h3; cases h3
    rw [hk.block g hlt (by omega)]; exact h3

end Go.Proofs.Ytpfkhcgeblihcaa.Pq8
