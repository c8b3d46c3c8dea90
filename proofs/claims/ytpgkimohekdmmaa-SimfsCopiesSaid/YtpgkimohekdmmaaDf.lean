/-
  The program's directory: one file turned; a crash of all of them, plain.
-/
import Derived.Test.YtpgkimohekdmmaaDc
namespace Go.Proofs.Ytpgkimohekdmmaa.Df
open Go.ChangeShapes Go.WideShapes Go.ChangeAt Go.RowKit
open Bytes8 Blk8 Own8 OwnA OwnM OwnE Fa Fo Ta Ua Kf Dm Dp Da Db Dc Sfb Go.Maps
set_option linter.unusedVariables false
set_option linter.unusedSimpArgs false
set_option maxRecDepth 100000

def upd (fl : Nat → Fl) (i : Nat) (x : Fl) (j : Nat) : Fl := if j = i then x else fl j
theorem Core.fileTurn {w w' : World} {own : Nat → Nat} {g room made : Nat} {row : RowD} {fl : Nat → Fl} {fz : Int} {off : Bool} {Mf Mn : Nat} {Df Dn : DU} {A : Option Addr} {n c : Nat} {us : List Und} {S : Nat → Bool} {gs : Nat → Nat} {i : Nat} {x : Fl}
    (h : Core w own g room made row fl fz off Mf Mn Df Dn A n c us S gs) (hi : S i = true) (hf : FileP w' (Ext (fun k => own k = i + 2) w w') (gs i) x.now x.safe) (hk : KeptF (fun k => own k = i + 2) w w') :
    ∃ own', Core w' own' g room made row (upd fl i x) fz off Mf Mn Df Dn A n c us S gs ∧ KeptF (Mine own) w w' ∧ ∀ k, k < w.heap.size → own' k = own k := by
  have hi1 := (h.file i hi).1
  have hs := hk.size
  have o0 : ∀ k, w.heap.size ≤ k → own k = 0 := fun k hk => by
    rcases Nat.eq_zero_or_pos (own k) with e | e
    · exact e
    · have := h.foot k (by omega); omega
  have ho : ∀ k, own k ≠ 0 → (if w.heap.size ≤ k ∧ k < w'.heap.size then i + 2 else own k) = own k := fun k h0 => if_neg (fun e => h0 (o0 k e.1))
  have hne : ∀ k, own k < 3 → ¬ own k = i + 2 := fun k h1 h2 => by omega
  have hfoot : ∀ k, (if w.heap.size ≤ k ∧ k < w'.heap.size then i + 2 else own k) ≠ 0 → k < w'.heap.size := fun k h0 => by
    split at h0
    · omega
    · have := h.foot k h0; omega
  refine ⟨fun k => if w.heap.size ≤ k ∧ k < w'.heap.size then i + 2 else own k, ?_, hk.mono (fun k e => .inr (by omega)), fun k hk => if_neg (by omega)⟩
  exact {
    blk := Kf.Blk.keptF h.blk hk (hne g (by rw [h.tg]; decide))
    mf := map_keptF h.mf hk (hne Mf (by rw [h.tMf]; decide))
    vf := h.vf
    mn := map_keptF h.mn hk (hne Mn (by rw [h.tMn]; decide))
    vn := h.vn
    pend := OwnE.keptF h.pend hk (fun k e => hne k (by rw [(h.tA k e).1]; decide))
    each := fun u hu => ⟨OwnE.keptF (h.each u hu).1 hk (fun k e => hne k (by rw [(h.each u hu).2.1 k e]; decide)), fun k e => by
      have h2 := (h.each u hu).2.1 k e
      exact (ho k (by omega)).trans h2, (h.each u hu).2.2⟩
    file := fun j hj => by
      by_cases e : j = i
      · subst e
        refine ⟨hi1, ?_⟩
        unfold upd
        rw [if_pos rfl]
        exact hf.more (fun k hk => by
          rcases hk with hk | hk
          · have e1 : own k = j + 2 := hk
            exact (ho k (by omega)).trans e1
          · exact if_pos hk) (fun k hk => hfoot k (by have e1 : (if w.heap.size ≤ k ∧ k < w'.heap.size then j + 2 else own k) = j + 2 := hk; omega))
      · unfold upd
        rw [if_neg e]
        refine ⟨(h.file j hj).1, ((h.file j hj).2.keptF hk (fun k e1 e2 => by
          have e1 : own k = j + 2 := e1
          omega)).more (fun k e2 => by
          have e1 : own k = j + 2 := e2
          exact (ho k (by omega)).trans e1) (fun k e2 => hfoot k (by have e1 : (if w.heap.size ≤ k ∧ k < w'.heap.size then i + 2 else own k) = j + 2 := e2; omega))⟩
    tg := (ho g (by rw [h.tg]; decide)).trans h.tg
    tMf := (ho Mf (by rw [h.tMf]; decide)).trans h.tMf
    tMn := (ho Mn (by rw [h.tMn]; decide)).trans h.tMn
    tA := fun k e => ⟨(ho k (by rw [(h.tA k e).1]; decide)).trans (h.tA k e).1, (h.tA k e).2⟩
    ne := h.ne
    foot := hfoot
    fz64 := h.fz64
    szf := h.szf
    mmax := h.mmax
    pmax := h.pmax
    rmax := h.rmax }

/-! ## plain: the files crashed, in a row of numbers -/
theorem crash_congr {now safe : List Int} {kp kp' : Nat → Bool} (h : ∀ i, i < (dirty now safe).length → kp i = kp' i) : crash now safe kp = crash now safe kp' := by
  unfold crash
  refine lay_congr fun k hk => ?_
  unfold chosen stays
  cases hd : dirt now safe k with
  | false => rfl
  | true => rw [h _ (dirtyTo_at hk hd).1]
/-- One file crashed, when so many of the kept ones were asked for. -/
def cstep (fl : Nat → Fl) (L : Nat) (K : Nat → Bool) (q : Nat × (Nat → Fl)) (i : Nat) : Nat × (Nat → Fl) :=
  let y := crash (fl i).now (fl i).safe fun j => decide (q.1 + j < L) && K (q.1 + j)
  (q.1 + (dirty (fl i).now (fl i).safe).length, upd q.2 i ⟨y, y⟩)
def crashL (fl : Nat → Fl) (L : Nat) (K : Nat → Bool) (ids : List Nat) : Nat × (Nat → Fl) := ids.foldl (cstep fl L K) (0, fl)
theorem crashL_snoc (fl : Nat → Fl) (L : Nat) (K : Nat → Bool) (ids : List Nat) (i : Nat) : crashL fl L K (ids ++ [i]) = cstep fl L K (crashL fl L K ids) i := by simp [crashL]
theorem crashTo_eq (r : RowD) (fl : Nat → Fl) (L : Nat) (K : Nat → Bool) (N : Nat) : crashTo r fl L K N = crashL fl L K (((List.range N).map (· + 1)).filter fun i => (r.map (·.2)).contains i) := by
  induction N with
  | zero => rfl
  | succ N ih =>
    rw [List.range_succ, List.map_append, List.filter_append]
    unfold crashTo
    simp only
    by_cases hc : (r.map (·.2)).contains (N + 1) = true
    · rw [if_pos hc, List.map_singleton, List.filter_cons_of_pos (by exact hc), List.filter_nil, crashL_snoc, ← ih]
      rfl
    · rw [if_neg hc, List.map_singleton, List.filter_cons_of_neg (by exact hc), List.filter_nil, List.append_nil, ← ih]
theorem crashL_other (fl : Nat → Fl) (L : Nat) (K : Nat → Bool) (ids : List Nat) (j : Nat) (h : j ∉ ids) : (crashL fl L K ids).2 j = fl j := by
  unfold crashL
  suffices ∀ q : Nat × (Nat → Fl), (ids.foldl (cstep fl L K) q).2 j = q.2 j by rw [this]
  induction ids with
  | nil => intro q; rfl
  | cons i ids ih =>
    intro q
    rw [List.foldl_cons, ih (fun h2 => h (List.mem_cons_of_mem _ h2))]
    show upd q.2 i _ j = _
    unfold upd
    rw [if_neg (fun e => h (by rw [e]; exact List.mem_cons_self ..))]
/-- What the program asks of the kept ones is the same. -/
theorem kept_part {L q : Nat} {K : Nat → Bool} {now safe : List Int} {m : Nat} (hm : m = min (dirty now safe).length (L - min q L)) :
    crash now safe (kept m fun i => K (min q L + i)) = crash now safe fun j => decide (q + j < L) && K (q + j) := crash_congr fun i hi => by
  unfold kept
  rcases Nat.lt_or_ge q L with h | h
  · have e : min q L = q := Nat.min_eq_left (by omega)
    rw [e] at hm ⊢
    by_cases h2 : q + i < L
    · rw [decide_eq_true h2, decide_eq_true (by omega)]
    · rw [decide_eq_false h2, decide_eq_false (by omega)]
  · have e : min q L = L := Nat.min_eq_right h
    rw [e] at hm ⊢
    rw [decide_eq_false (by omega), decide_eq_false (by omega)]
    simp
end Go.Proofs.Ytpgkimohekdmmaa.Df
