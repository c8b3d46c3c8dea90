/-
  Words for rows of pairs of texts: what can be read from an address on; what a call gathers; plain: each once.
-/
import Derived.Test.YtmimfojlcihhaaaIn
import Derived.Test.YtmimfojlcihhaaaOwnE
import Derived.Test.YtmimfojlcihhaaaFo
namespace Go.Proofs.Ytmimfojlcihhaaa.Pr8
open Go.ChangeShapes Go.WideShapes Go.ChangeAt Go.RowKit
open Bytes8 Blk8 Own8 OwnE Fa Fb Fc Fo In8
set_option linter.unusedVariables false
set_option linter.unusedSimpArgs false

abbrev PR := List Int × List Int
abbrev nil2 : PR := ([], [])
def okP (p : PR) : Prop := AllB p.1 ∧ AllB p.2 ∧ p.1.length ≤ maxLen ∧ p.2.length ≤ maxLen
def AllP (l : List PR) : Prop := ∀ p ∈ l, okP p
theorem AllP.at_ {l : List PR} (h : AllP l) (i : Nat) : okP (l.getD i nil2) := by
  by_cases hi : i < l.length
  · rw [List.getD_eq_getElem?_getD, List.getElem?_eq_getElem hi]; exact h _ (List.getElem_mem hi)
  · rw [List.getD_eq_getElem?_getD, List.getElem?_eq_none (by omega)]
    exact ⟨(fun x hx => by cases hx), (fun x hx => by cases hx), Nat.zero_le _, Nat.zero_le _⟩
theorem getD_mem' {l : List PR} {i : Nat} (hi : i < l.length) : l.getD i nil2 ∈ l := by
  rw [List.getD_eq_getElem?_getD, List.getElem?_eq_getElem hi]; exact List.getElem_mem hi
theorem mem_getD {l : List PR} {p : PR} (h : p ∈ l) : ∃ i, i < l.length ∧ l.getD i nil2 = p := by
  obtain ⟨i, hi, rfl⟩ := List.mem_iff_getElem.1 h
  exact ⟨i, hi, by rw [List.getD_eq_getElem?_getD, List.getElem?_eq_getElem hi]; rfl⟩
def cellsP : List PR → List Value
  | [] => []
  | p :: r => .string (T p.1) :: .string (T p.2) :: cellsP r
theorem cellsP_app : ∀ l m, cellsP (l ++ m) = cellsP l ++ cellsP m
  | [], _ => rfl
  | p :: l, m => by simp [cellsP, cellsP_app l m]
theorem cellsP_len : ∀ l, (cellsP l).length = l.length * 2
  | [] => rfl
  | p :: l => by simp [cellsP, cellsP_len l]; omega
theorem cellsP_at : ∀ (l : List PR) (i : Nat), i < l.length → (cellsP l)[i * 2]? = some (.string (T (l.getD i nil2).1)) ∧ (cellsP l)[i * 2 + 1]? = some (.string (T (l.getD i nil2).2))
  | p :: l, 0, _ => ⟨rfl, rfl⟩
  | p :: l, i + 1, h => by
    have := cellsP_at l i (by simpa using h)
    rw [show (i + 1) * 2 = i * 2 + 1 + 1 by omega]
    simpa [cellsP] using this
theorem cellsP_one : ∀ (l : List PR), ∀ u ∈ cellsP l, u.oneCell' = true
  | p :: l, u, h => by
    simp [cellsP] at h
    rcases h with rfl | rfl | h
    · rfl
    · rfl
    · exact cellsP_one l u h

def Prs (w : World) (a : Option Addr) (l : List PR) : Prop :=
  AllP l ∧ ∀ i, i < l.length → ∃ b off, a = some ⟨b, off, none⟩ ∧ b < w.heap.size ∧ w.cell? ⟨b, off + i * 2, none⟩ = some (.string (T (l.getD i nil2).1)) ∧ w.cell? ⟨b, off + i * 2 + 1, none⟩ = some (.string (T (l.getD i nil2).2))
theorem Prs.nil (w : World) (a : Option Addr) : Prs w a [] := ⟨(fun _ h => by cases h), fun i hi => absurd hi (by simp)⟩
theorem Prs.keptB {w w' : World} {a : Option Addr} {l : List PR} (h : Prs w a l) (hs : w.heap.size ≤ w'.heap.size) (hk : ∀ b off, a = some ⟨b, off, none⟩ → b < w.heap.size → w'.heap[b]? = w.heap[b]?) : Prs w' a l := by
  refine ⟨h.1, fun i hi => ?_⟩
  obtain ⟨b, off, e, h1, h2, h3⟩ := h.2 i hi
  have hb := hk b off e h1
  exact ⟨b, off, e, Nat.lt_of_lt_of_le h1 hs, (World.cell?_of_block (a := ⟨b, off + i * 2, none⟩) hb).trans h2, (World.cell?_of_block (a := ⟨b, off + i * 2 + 1, none⟩) hb).trans h3⟩
theorem Prs.below {w w' : World} {a : Option Addr} {l : List PR} (h : Prs w a l) (hb : Below w.heap.size w w') : Prs w' a l := h.keptB hb.size fun b _ _ h1 => hb.block b h1
theorem Prs.drewN {w : World} {a : Option Addr} {l : List PR} (h : Prs w a l) (n : Nat) : Prs (w.drewN n) a l := h
theorem Prs.of_in {w : World} {a : Option Addr} {len : Nat} {N V : Nat → List Int} (h : InPairs w a len N V) : Prs w a ((List.range len).map fun i => (N i, V i)) := by
  refine ⟨fun p hp => ?_, fun i hi => ?_⟩
  · obtain ⟨i, hi, rfl⟩ := List.mem_map.1 hp
    obtain ⟨_, _, _, _, _, _, h4⟩ := h i (List.mem_range.1 hi)
    exact h4
  · have hi' : i < len := by simpa using hi
    obtain ⟨b, off, e, h1, h2, h3, _⟩ := h i hi'
    refine ⟨b, off, e, h1, ?_, ?_⟩
    · simpa [hi'] using h2
    · simpa [hi'] using h3
theorem Prs.eq_nil {w : World} {l : List PR} (h : Prs w none l) : l = [] := by
  rcases l with _ | ⟨p, r⟩
  · rfl
  · obtain ⟨b, off, e, _⟩ := h.2 0 (by simp)
    cases e

/-- Pairs that a call gathers. -/
def OwnP (w : World) (base : Nat) (A : Option Addr) (n c : Nat) (l : List PR) : Prop := AllP l ∧ l.length = n ∧ OwnE 24 2 w base A n c (cellsP l)
theorem OwnP.nil (w : World) (base : Nat) (h : base ≤ w.heap.size) : OwnP w base none 0 0 [] := ⟨(fun _ h => by cases h), rfl, OwnE.nil w base h⟩
theorem OwnP.prs {w : World} {base : Nat} {A : Option Addr} {n c : Nat} {l : List PR} (h : OwnP w base A n c l) : Prs w A l := by
  refine ⟨h.1, fun i hi => ?_⟩
  obtain ⟨h0, h1⟩ := cellsP_at l i hi
  have hl := cellsP_len l
  obtain ⟨g, e, hb, hlt, hc⟩ := h.2.2.cell (i := i * 2) (by omega)
  obtain ⟨g', e', _, _, hc'⟩ := h.2.2.cell (i := i * 2 + 1) (by omega)
  rw [e] at e'; simp at e'; subst e'
  exact ⟨g, 0, e, hlt, by rw [Nat.zero_add, hc, h0], by rw [Nat.zero_add, hc', h1]⟩
theorem OwnP.kept {w w' : World} {base B : Nat} {A : Option Addr} {n c : Nat} {l : List PR} (h : OwnP w base A n c l) (hb : Below B w w') (hB : w.heap.size ≤ B) : OwnP w' base A n c l := ⟨h.1, h.2.1, h.2.2.kept hb hB⟩
theorem OwnP.alloc {w : World} {base : Nat} {A : Option Addr} {n c : Nat} {l : List PR} (h : OwnP w base A n c l) (o : Obj) : OwnP (w.alloc o) base A n c l := ⟨h.1, h.2.1, h.2.2.alloc o⟩
theorem pairElt : Elt 24 36 2 32 (.agg #[.string { data := #[] }, .string { data := #[] }]) := ⟨Try.underlying36, by kernel_rfl, rfl, by decide⟩
theorem textElt : Elt 9 41 1 16 (.string { data := #[] }) := ⟨Try.underlying41, by kernel_rfl, rfl, by decide⟩

/-! ## plain: each once -/
def addU (acc : List PR) (p : PR) : List PR := if p ∈ acc then acc else acc ++ [p]
def ded (l : List PR) : List PR := l.foldl addU []
theorem take_step {l : List PR} {k : Nat} (hk : k < l.length) : l.take (k + 1) = l.take k ++ [l.getD k nil2] := by
  rw [List.take_add_one, List.getElem?_eq_getElem hk]
  simp [List.getElem?_eq_getElem hk]
theorem ded_step {l : List PR} {k : Nat} (hk : k < l.length) : ded (l.take (k + 1)) = addU (ded (l.take k)) (l.getD k nil2) := by
  rw [take_step hk]; unfold ded; rw [List.foldl_append]; rfl
theorem addU_mem (acc : List PR) (p q : PR) : q ∈ addU acc p ↔ q ∈ acc ∨ q = p := by
  unfold addU; split
  · constructor
    · exact Or.inl
    · rintro (h | rfl) <;> assumption
  · simp
theorem foldl_mem (l : List PR) : ∀ acc q, q ∈ l.foldl addU acc ↔ q ∈ acc ∨ q ∈ l := by
  induction l with
  | nil => simp
  | cons p l ih => intro acc q; rw [List.foldl_cons, ih, addU_mem]; simp [or_assoc]
theorem ded_mem (l : List PR) (q : PR) : q ∈ ded l ↔ q ∈ l := by unfold ded; rw [foldl_mem]; simp
theorem addU_nodup {acc : List PR} (h : acc.Nodup) (p : PR) : (addU acc p).Nodup := by
  unfold addU; split
  · exact h
  · rename_i hp
    rw [List.nodup_append]
    exact ⟨h, by simp, fun a ha b hb => by simp at hb; subst hb; rintro rfl; exact hp ha⟩
theorem foldl_nodup (l : List PR) : ∀ acc : List PR, acc.Nodup → (l.foldl addU acc).Nodup := by
  induction l with
  | nil => exact fun _ h => h
  | cons p l ih => exact fun acc h => ih _ (addU_nodup h p)
theorem ded_nodup (l : List PR) : (ded l).Nodup := foldl_nodup l [] (by simp)
theorem addU_len (acc : List PR) (p : PR) : acc.length ≤ (addU acc p).length := by unfold addU; split <;> simp
theorem foldl_len (l : List PR) : ∀ acc : List PR, acc.length ≤ (l.foldl addU acc).length := by
  induction l with
  | nil => exact fun _ => Nat.le_refl _
  | cons p l ih => exact fun acc => Nat.le_trans (addU_len acc p) (ih _)
theorem ded_le (l : List PR) (k : Nat) : (ded (l.take k)).length ≤ (ded l).length := by
  unfold ded
  conv => rhs; rw [← List.take_append_drop k l, List.foldl_append]
  exact foldl_len _ _
theorem ded_all {l : List PR} (h : AllP l) : AllP (ded l) := fun p hp => h p ((ded_mem l p).1 hp)
theorem AllP.take {l : List PR} (h : AllP l) (k : Nat) : AllP (l.take k) := fun p hp => h p (List.mem_of_mem_take hp)
end Go.Proofs.Ytmimfojlcihhaaa.Pr8
