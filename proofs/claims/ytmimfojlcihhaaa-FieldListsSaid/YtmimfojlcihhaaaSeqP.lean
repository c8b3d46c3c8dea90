/-
  A pair out of a maker of numbers.
-/
import Derived.Test.YtmimfojlcihhaaaSeq
namespace Go.Proofs.Ytmimfojlcihhaaa.SeqP
open Go.ChangeShapes Go.WideShapes Go.ChangeAt Go.RowKit
open Bytes8 Blk8 Fa Fb Fc Fe Numb Rows2 Seq8
set_option linter.unusedVariables false
set_option linter.unusedSimpArgs false

theorem names_at (w : World) (g : Nat) (hg : w.heap.size = g) : Calls Try.prog 39 #[] w fun e w' => e = .returned (.slice (some ⟨g, 0, none⟩) 6 6) ∧ Blk w' g (texts nameLs) 9 ∧ Below w.heap.size w w' ∧ w'.heap.size = g + 1 := by
  subst hg; exact names_any w
theorem values_at (w : World) (g : Nat) (hg : w.heap.size = g) : Calls Try.prog 41 #[] w fun e w' => e = .returned (.slice (some ⟨g, 0, none⟩) 10 10) ∧ Blk w' g (texts valueLs) 9 ∧ Below w.heap.size w w' ∧ w'.heap.size = g + 1 := by
  subst hg; exact values_any w
theorem text_at {w : World} {g : Nat} {ls : List (List Int)} {T0 : TypeId} (h : Blk w g (texts ls) T0) (i : Nat) (hi : i < ls.length) : w.cell? ⟨g, i, none⟩ = some (.string (T (ls.getD i []))) := by
  refine h.cell ?_
  unfold texts
  rw [List.getElem?_map, List.getElem?_eq_getElem hi]
  simp [List.getElem?_eq_getElem hi]
theorem text_is {w : World} {g : Nat} {ls : List (List Int)} {T0 : TypeId} (h : Blk w g (texts ls) T0) (i : Nat) (hi : i < ls.length) {nm : List Int} (hn : nm = ls.getD i []) : w.cell? ⟨g, i, none⟩ = some (.string (T nm)) := hn ▸ text_at h i hi
theorem getD_mem {ls : List (List Int)} {i : Nat} (hi : i < ls.length) : ls.getD i [] ∈ ls := by
  rw [List.getD_eq_getElem?_getD, List.getElem?_eq_getElem hi]
  exact List.getElem_mem hi

/-- A pair that may be, and the maker further on. -/
def Paired (gq : Nat) (a : Option Addr) (len cap : Nat) (f : Nat → Int) (w : World) (e : Ending) (w' : World) : Prop :=
  ∃ n v k', e = .returned (pv n v) ∧ (AllB n ∧ AllB v ∧ flawI n v = 0) ∧ SeqIn w' gq a len cap f k' ∧ KeptB w.heap.size gq w w'

set_option maxHeartbeats 2000000 in
set_option maxRecDepth 100000 in
theorem pair_any (gq : Nat) (a : Option Addr) (len cap : Nat) (f : Nat → Int) (k : Nat) (w : World) (h : SeqIn w gq a len cap f k) :
    Calls Try.prog 28 #[.pointer (some ⟨gq, 0, none⟩)] w (Paired gq a len cap f w) := by
  have hgq := h.1.lt
  have B0 := Lib.hid ((Below.refl w.heap.size w).alloc (Nat.le_refl _) (.cells #[.string { data := #[] }, .string { data := #[] }] 24))
  have S0 := Lib.hid (h.below B0.out)
  have R0 := Lib.hid (Blk.new w [.string { data := #[] }, .string { data := #[] }] 24)
  have HI := Lib.hid h.2.1
  have HNe := Lib.hid h.2.2.1
  clear h
  unfold Paired
  have hm : Try.prog.follows .mixedOrders = true := by kernel_rfl
  go_enter Try.func28, Try.ntmps28
  go_wp2_with fail
  go_region_with (first
    | (go_at_call 39; (with_reducible refine (names_at _ (w.heap.size + 1) (by simp)).mono ?_); rintro e w1 ⟨rfl, hN, hb1, hs1⟩; have N1 := Lib.hid hN; have S1 := Lib.hid (SeqIn.below (w := (w.alloc (.cells #[.string { data := #[] }, .string { data := #[] }] 24)).drew) S0.out hb1); have R1 := Lib.hid (Blk.below (w := (w.alloc (.cells #[.string { data := #[] }, .string { data := #[] }] 24)).drew) R0.out hb1 R0.out.lt); have B1 := Lib.hid (B0.out.drew.trans (hb1.mono B0.out.size)); clear hN hb1)
    | (go_at_call 40; (with_reducible refine (seqN_any gq a len cap f k 6 w1 (by decide) (by decide) S1.out).mono ?_); rintro e w2 ⟨i, k2, rfl, hi, hS2, hK2⟩; have S2 := Lib.hid hS2; have N2 := Lib.hid (Blk.keptB N1.out hK2 N1.out.lt (by omega)); have R2 := Lib.hid (Blk.keptB R1.out hK2 R1.out.lt (by omega)); have K2 := Lib.hid ((KeptB.of_below (g := gq) B1.out).trans (hK2.mono B1.out.size)); obtain ⟨nm, hnm⟩ : ∃ nm, nm = nameLs.getD i [] := ⟨_, rfl⟩; have HNm := Lib.hid hnm; clear hnm; have hi6 : i < nameLs.length := (by simp; omega); have HI6 := Lib.hid hi6; clear hi6; have x2 := text_is N2.out i HI6.out HNm.out; clear hS2 hK2)
    | (go_at_call 41; (with_reducible refine (values_at _ w2.heap.size rfl).mono ?_); rintro e w3 ⟨rfl, hV, hb3, hs3⟩; have V3 := Lib.hid hV; have S3 := Lib.hid (SeqIn.below S2.out hb3); have R3 := Lib.hid (R2.out.below hb3 R2.out.lt); have N3 := Lib.hid (N2.out.below hb3 N2.out.lt); have K3 := Lib.hid (K2.out.trans (KeptB.of_below (hb3.mono K2.out.size))); have x3 := text_is N3.out i HI6.out HNm.out; clear hV hb3)
    | (go_at_call 40; (with_reducible refine (seqN_any gq a len cap f k2 10 w3 (by decide) (by decide) S3.out).mono ?_); rintro e w4 ⟨j, k4, rfl, hj, hS4, hK4⟩; have S4 := Lib.hid hS4; have N4 := Lib.hid (Blk.keptB N3.out hK4 N3.out.lt (by omega)); have R4 := Lib.hid (Blk.keptB R3.out hK4 R3.out.lt (by omega)); have V4 := Lib.hid (Blk.keptB V3.out hK4 V3.out.lt (by have := K2.out.size; omega)); have K4 := Lib.hid (K3.out.trans (hK4.mono K3.out.size)); have x4 := text_is N4.out i HI6.out HNm.out; obtain ⟨vl, hvl⟩ : ∃ vl, vl = valueLs.getD j [] := ⟨_, rfl⟩; have HVl := Lib.hid hvl; clear hvl; have hj10 : j < valueLs.length := (by simp; omega); have HJ10 := Lib.hid hj10; clear hj10; have y4 := text_is V4.out j HJ10.out HVl.out; have f0 := R4.out.frozen 0; have f1 := R4.out.frozen 1; have c0 := R4.out.cell (i := 0) rfl; have c1 := R4.out.cell (i := 1) rfl; clear hS4 hK4))
  all_goals
    go_wp2
    obtain ⟨n1, n2⟩ := names_ok nm (by rw [HNm.out]; exact getD_mem HI6.out)
    obtain ⟨v1, v2⟩ := values_ok vl (by rw [HVl.out]; exact getD_mem HJ10.out)
    have HK := (K4.out.setCell (p := ⟨w.heap.size, 0, none⟩) (Or.inl (Nat.le_refl _)) (.string (T nm))).setCell (p := ⟨w.heap.size, 1, none⟩) (Or.inl (Nat.le_refl _)) (.string (T vl))
    refine bodyPost_ret (v := pv nm vl) (by simp [results, Try.results28, go_sem, c0, c1]) rfl ⟨nm, vl, k4, rfl, ⟨n1, v1, flaw_ok n2 v2⟩, ⟨?_, ints_keptB HI.out HK HNe.out, S4.out.2.2⟩, HK⟩
    exact (S4.out.1.far (p := ⟨w.heap.size, 0, none⟩) (show gq ≠ w.heap.size by omega) _).far (p := ⟨w.heap.size, 1, none⟩) (show gq ≠ w.heap.size by omega) _
end Go.Proofs.Ytmimfojlcihhaaa.SeqP
