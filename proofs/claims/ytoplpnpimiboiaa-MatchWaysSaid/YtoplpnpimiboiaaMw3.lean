/-
  Texts beneath the proof, one behind the other.
-/
import Derived.Laws.Externs
import Derived.Lib.SlBytesConst
import Derived.Lib.Bytealg
import Derived.Shelf.SlSortCmp.QuietGrown
import Derived.Lib.SmallJoins
import Derived.Deep.SlicePairs
import Derived.Test.YtoplpnpimiboiaaMw2
import Derived.Test.YtoplpnpimiboiaaMw1

/-
  The order of pairs: plain; what Less and compare answer.
-/
namespace Go.Proofs.Ytoplpnpimiboiaa.Fo
open Go.ChangeShapes Go.WideShapes Go.ChangeAt Go.RowKit
open Bytes8 Blk8 Fa Fb Fc
set_option linter.unusedVariables false
set_option maxRecDepth 100000
set_option linter.unusedSimpArgs false

def lessP (n v m u : List Int) : Bool := ltL (pay n v) (pay m u)
theorem rpayload_grew (n v : List Int) (h : n.length + v.length ≤ 900000) (w : World) :
    Calls Try.prog 22 #[pv n v] w fun e w' => e = .returned (.string (T (pay n v))) ∧ Grew w w' :=
  (rpayload_any n v h w).mono (by rintro e w' ⟨rfl, rfl⟩; exact ⟨rfl, Grew.boxed _ _⟩)

end Go.Proofs.Ytoplpnpimiboiaa.Fo

/-
  A maker of numbers behind a pointer: what N answers; a pair out of it.
-/
namespace Go.Proofs.Ytoplpnpimiboiaa.Seq8
open Go.ChangeShapes Go.WideShapes Go.ChangeAt Go.RowKit
open Bytes8 Blk8 Fa Fb Fc Numb Rows2
set_option linter.unusedVariables false
set_option maxRecDepth 100000
set_option linter.unusedSimpArgs false

/-- The maker at the block gq: its numbers, and how many are told. -/
def SeqIn (w : World) (gq : Nat) (a : Option Addr) (len cap : Nat) (f : Nat → Int) (k : Nat) : Prop :=
  Blk w gq [.slice a len cap, .int .i64 (k : Int)] 41 ∧ InInts .i64 w a len f ∧ (0 < len → ∀ b off, a = some ⟨b, off, none⟩ → b ≠ gq) ∧ k ≤ len ∧ len ≤ 9223372036854775807
theorem SeqIn.below {w w' : World} {gq : Nat} {a : Option Addr} {len cap : Nat} {f : Nat → Int} {k : Nat} (h : SeqIn w gq a len cap f k) (hb : Below w.heap.size w w') : SeqIn w' gq a len cap f k :=
  ⟨h.1.below hb h.1.lt, h.2.1.below hb, h.2.2⟩

theorem ints_keptB {kk : IntKind} {w w' : World} {gq : Nat} {a : Option Addr} {len : Nat} {f : Nat → Int} (h : InInts kk w a len f) (hk : KeptB w.heap.size gq w w') (hne : 0 < len → ∀ b off, a = some ⟨b, off, none⟩ → b ≠ gq) : InInts kk w' a len f := fun i hi => by
  obtain ⟨b, off, e, h1, h2, h3⟩ := h i hi
  exact ⟨b, off, e, Nat.lt_of_lt_of_le h1 hk.size, (World.cell?_of_block (hk.block b h1 (hne (by omega) b off e))).trans h2, h3⟩

set_option maxRecDepth 100000 in
theorem seqN_any (gq : Nat) (a : Option Addr) (len cap : Nat) (f : Nat → Int) (k : Nat) (b : Int) (w : World) (hb : 1 ≤ b) (hb2 : b ≤ 1000000) (h : SeqIn w gq a len cap f k) :
    Calls Try.prog 39 #[.pointer (some ⟨gq, 0, none⟩), .int .i64 b] w fun e w' => ∃ (r k' : Nat), e = .returned (.int .i64 (r : Int)) ∧ (r : Int) < b ∧ SeqIn w' gq a len cap f k' ∧ KeptB w.heap.size gq w w' := by
  obtain ⟨hB, hI, hne, hk, hl⟩ := h
  have HB := Lib.hid hB
  have c0 := HB.out.cell (i := 0) rfl
  have c1 := HB.out.cell (i := 1) rfl
  have f1 := HB.out.frozen 1
  by_cases hlt : k < len
  · obtain ⟨bb, off, rfl, hbl, hc, hwf⟩ := hI k hlt
    have hbq := hne (by omega) bb off rfl
    obtain ⟨r, hr, hrb⟩ := below_nat (f k) b hb
    have HNum := Lib.hid fun w => number_nat (f k) b r w hb (by omega) hr.out
    have hkk : ¬ (len : Int) ≤ (k : Int) := by omega
    have hset : ∀ v, (w.setCell ⟨gq, 1, none⟩ v).cell? ⟨bb, off + k, none⟩ = some (.int .i64 (f k)) := fun v => by
      rw [← hc]; exact World.cell?_of_block (Below.heap_setCell _ _ _ _ hbq)
    have HI := Lib.hid hI
    have HNe := Lib.hid hne
    have hm : Try.prog.follows .mixedOrders = true := by kernel_rfl
    clear hI hne hB hr hwf
    generalize f k = x at *
    go_enter Try.func39, Try.ntmps39
    go_wp2_with fail
    go_quiet (fail)
    obtain ⟨nq_1, hnq⟩ : ∃ x, x = nq := ⟨_, rfl⟩
    rw [← hnq]
    clear hnq nq
    go_wp2_with fail
    go_quiet ((go_at_call 56; exact quiet_kept (HNum.out _)))
    have HK := Lib.hid ((((KeptB.refl w.heap.size gq w).drewN nq_1).setCell (Or.inr rfl) (.int .i64 ((k : Int) + 1)) (p := ⟨gq, 1, none⟩)).drewN nq)
    go_wp2
    go_ret
    refine ⟨r, k + 1, rfl, hrb, ⟨?_, ints_keptB HI.out HK.out HNe.out, HNe.out, by omega, hl⟩, HK.out⟩
    exact ((HB.out.drewN _).set_ 1 _).drewN _
  · have hkk : (len : Int) ≤ (k : Int) := by omega
    have HI := Lib.hid hI
    have HNe := Lib.hid hne
    clear hI hne hB
    go_enter Try.func39, Try.ntmps39
    go_wp2_with fail
    go_quiet (fail)
    go_wp2
    go_ret
    refine ⟨0, k, rfl, by omega, ⟨HB.out.drewN _, HI.out, HNe.out, hk, hl⟩, (KeptB.refl _ _ _).drewN _⟩

/-! ## the few names and values -/
abbrev nameLs : List (List Int) := [[65], [66], [77, 69, 83, 83, 65, 71, 69], [95, 80, 73, 68], [88, 95, 49], [80, 82, 73, 79, 82, 73, 84, 89]]
abbrev valueLs : List (List Int) := [[], [48], [49], [50, 50], [97, 61, 98], [111, 110, 101, 10, 116, 119, 111], [0, 255], [116, 97, 98, 9, 104, 101, 114, 101], [108, 111, 110, 103, 32, 108, 111, 110, 103, 32, 108, 111, 110, 103, 32, 108, 111, 110, 103, 32, 108, 111, 110, 103, 32, 108, 111, 110, 103, 32, 108, 111, 110, 103], [126, 127, 128]]
def texts (ls : List (List Int)) : List Value := ls.map fun l => .string (T l)
theorem names_ok : ∀ n ∈ nameLs, AllB n ∧ nmB n = true := by
  intro n hn
  have h : nameLs.all (fun n => n.all (fun x => decide (0 ≤ x) && decide (x < 256)) && nmB n) = true := by decide +kernel
  have := List.all_eq_true.1 h n hn
  simp only [Bool.and_eq_true] at this
  exact ⟨Ff.small_all this.1, this.2⟩
theorem values_ok : ∀ v ∈ valueLs, AllB v ∧ v.length ≤ 256 := by
  intro n hn
  have h : valueLs.all (fun n => n.all (fun x => decide (0 ≤ x) && decide (x < 256)) && decide (n.length ≤ 256)) = true := by decide +kernel
  have := List.all_eq_true.1 h n hn
  simp only [Bool.and_eq_true, decide_eq_true_eq] at this
  exact ⟨Ff.small_all this.1, this.2⟩
theorem flaw_ok {n v : List Int} (hn : nmB n = true) (hv : v.length ≤ 256) : flawI n v = 0 := by
  unfold flawI; rw [if_pos hn, if_neg (by omega)]

theorem names_any (w : World) : Calls Try.prog 40 #[] w fun e w' => e = .returned (.slice (some ⟨w.heap.size, 0, none⟩) 6 6) ∧ Blk w' w.heap.size (texts nameLs) 9 ∧ Below w.heap.size w w' ∧ w'.heap.size = w.heap.size + 1 := by
  have h : texts nameLs = [.string { data := #[65] }, .string { data := #[66] }, .string { data := #[77, 69, 83, 83, 65, 71, 69] }, .string { data := #[95, 80, 73, 68] }, .string { data := #[88, 95, 49] }, .string { data := #[80, 82, 73, 79, 82, 73, 84, 89] }] := rfl
  rw [h]
  go_enter Try.func40, Try.ntmps40
  go_wp2
  go_ret
  exact ⟨rfl, Blk.new w _ _, (Below.refl _ _).alloc (Nat.le_refl _) _, by simp⟩
set_option maxRecDepth 10000 in
theorem values_any (w : World) : Calls Try.prog 41 #[] w fun e w' => e = .returned (.slice (some ⟨w.heap.size, 0, none⟩) 10 10) ∧ Blk w' w.heap.size (texts valueLs) 9 ∧ Below w.heap.size w w' ∧ w'.heap.size = w.heap.size + 1 := by
  have h : texts valueLs = [.string { data := #[] }, .string { data := #[48] }, .string { data := #[49] }, .string { data := #[50, 50] }, .string { data := #[97, 61, 98] }, .string { data := #[111, 110, 101, 10, 116, 119, 111] }, .string { data := #[0, 255] }, .string { data := #[116, 97, 98, 9, 104, 101, 114, 101] }, .string { data := #[108, 111, 110, 103, 32, 108, 111, 110, 103, 32, 108, 111, 110, 103, 32, 108, 111, 110, 103, 32, 108, 111, 110, 103, 32, 108, 111, 110, 103, 32, 108, 111, 110, 103] }, .string { data := #[126, 127, 128] }] := rfl
  rw [h]
  go_enter Try.func41, Try.ntmps41
  go_wp2
  go_ret
  exact ⟨rfl, Blk.new w _ _, (Below.refl _ _).alloc (Nat.le_refl _) _, by simp⟩
end Go.Proofs.Ytoplpnpimiboiaa.Seq8

/-
  A pair out of a maker of numbers.
-/
namespace Go.Proofs.Ytoplpnpimiboiaa.SeqP
open Go.ChangeShapes Go.WideShapes Go.ChangeAt Go.RowKit
open Bytes8 Blk8 Fa Fb Fc Numb Rows2 Seq8
set_option linter.unusedVariables false
set_option maxRecDepth 100000
set_option linter.unusedSimpArgs false

theorem names_at (w : World) (g : Nat) (hg : w.heap.size = g) : Calls Try.prog 40 #[] w fun e w' => e = .returned (.slice (some ⟨g, 0, none⟩) 6 6) ∧ Blk w' g (texts nameLs) 9 ∧ Below w.heap.size w w' ∧ w'.heap.size = g + 1 := by
  subst hg; exact names_any w
theorem values_at (w : World) (g : Nat) (hg : w.heap.size = g) : Calls Try.prog 41 #[] w fun e w' => e = .returned (.slice (some ⟨g, 0, none⟩) 10 10) ∧ Blk w' g (texts valueLs) 9 ∧ Below w.heap.size w w' ∧ w'.heap.size = g + 1 := by
  subst hg; exact values_any w
theorem text_at {w : World} {g : Nat} {ls : List (List Int)} {T0 : TypeId} (h : Blk w g (texts ls) T0) (i : Nat) (hi : i < ls.length) : w.cell? ⟨g, i, none⟩ = some (.string (T (ls.getD i []))) := by
  refine h.cell ?_
  unfold texts
  rw [List.getElem?_map, List.getElem?_eq_getElem hi]
  simp [List.getElem?_eq_getElem hi]
theorem text_is {w : World} {g : Nat} {ls : List (List Int)} {T0 : TypeId} (h : Blk w g (texts ls) T0) (i : Nat) (hi : i < ls.length) {nm : List Int} (hn : nm = ls.getD i []) : w.cell? ⟨g, i, none⟩ = some (.string (T nm)) := hn ▸ text_at h i hi
theorem getD_mem {ls : List (List Int)} {i : Nat} (hi : i < ls.length) : ls.getD i [] ∈ ls := by
  rw [List.getD_eq_getElem?_getD, List.getElem?_eq_getElem hi]
  exact List.getElem_mem hi

/-- A pair that may be, and the maker further on. -/
def Paired (gq : Nat) (a : Option Addr) (len cap : Nat) (f : Nat → Int) (w : World) (e : Ending) (w' : World) : Prop :=
  ∃ n v k', e = .returned (pv n v) ∧ (AllB n ∧ AllB v ∧ flawI n v = 0) ∧ SeqIn w' gq a len cap f k' ∧ KeptB w.heap.size gq w w'

set_option maxHeartbeats 2000000 in
set_option maxRecDepth 100000 in
theorem pair_any (gq : Nat) (a : Option Addr) (len cap : Nat) (f : Nat → Int) (k : Nat) (w : World) (h : SeqIn w gq a len cap f k) :
    Calls Try.prog 23 #[.pointer (some ⟨gq, 0, none⟩)] w (Paired gq a len cap f w) := by
  have hgq := h.1.lt
  have B0 := Lib.hid ((Below.refl w.heap.size w).alloc (Nat.le_refl _) (.cells #[.string { data := #[] }, .string { data := #[] }] 45))
  have S0 := Lib.hid (h.below B0.out)
  have R0 := Lib.hid (Blk.new w [.string { data := #[] }, .string { data := #[] }] 45)
  have HI := Lib.hid h.2.1
  have HNe := Lib.hid h.2.2.1
  clear h
  unfold Paired
  have hm : Try.prog.follows .mixedOrders = true := by kernel_rfl
  go_enter Try.func23, Try.ntmps23
  go_wp2_with fail
  go_region_with (first
    | (go_at_call 40; (with_reducible refine (names_at _ (w.heap.size + 1) (by simp)).mono ?_); rintro e w1 ⟨rfl, hN, hb1, hs1⟩; have N1 := Lib.hid hN; have S1 := Lib.hid (SeqIn.below (w := (w.alloc (.cells #[.string { data := #[] }, .string { data := #[] }] 45)).drew) S0.out hb1); have R1 := Lib.hid (Blk.below (w := (w.alloc (.cells #[.string { data := #[] }, .string { data := #[] }] 45)).drew) R0.out hb1 R0.out.lt); have B1 := Lib.hid (B0.out.drew.trans (hb1.mono B0.out.size)); clear hN hb1)
    | (go_at_call 39; (with_reducible refine (seqN_any gq a len cap f k 6 w1 (by decide) (by decide) S1.out).mono ?_); rintro e w2 ⟨i, k2, rfl, hi, hS2, hK2⟩; have S2 := Lib.hid hS2; have N2 := Lib.hid (Blk.keptB N1.out hK2 N1.out.lt (by omega)); have R2 := Lib.hid (Blk.keptB R1.out hK2 R1.out.lt (by omega)); have K2 := Lib.hid ((KeptB.of_below (g := gq) B1.out).trans (hK2.mono B1.out.size)); obtain ⟨nm, hnm⟩ : ∃ nm, nm = nameLs.getD i [] := ⟨_, rfl⟩; have HNm := Lib.hid hnm; clear hnm; have hi6 : i < nameLs.length := (by simp; omega); have HI6 := Lib.hid hi6; clear hi6; have x2 := text_is N2.out i HI6.out HNm.out; clear hS2 hK2)
    | (go_at_call 41; (with_reducible refine (values_at _ w2.heap.size rfl).mono ?_); rintro e w3 ⟨rfl, hV, hb3, hs3⟩; have V3 := Lib.hid hV; have S3 := Lib.hid (SeqIn.below S2.out hb3); have R3 := Lib.hid (R2.out.below hb3 R2.out.lt); have N3 := Lib.hid (N2.out.below hb3 N2.out.lt); have K3 := Lib.hid (K2.out.trans (KeptB.of_below (hb3.mono K2.out.size))); have x3 := text_is N3.out i HI6.out HNm.out; clear hV hb3)
    | (go_at_call 39; (with_reducible refine (seqN_any gq a len cap f k2 10 w3 (by decide) (by decide) S3.out).mono ?_); rintro e w4 ⟨j, k4, rfl, hj, hS4, hK4⟩; have S4 := Lib.hid hS4; have N4 := Lib.hid (Blk.keptB N3.out hK4 N3.out.lt (by omega)); have R4 := Lib.hid (Blk.keptB R3.out hK4 R3.out.lt (by omega)); have V4 := Lib.hid (Blk.keptB V3.out hK4 V3.out.lt (by have := K2.out.size; omega)); have K4 := Lib.hid (K3.out.trans (hK4.mono K3.out.size)); have x4 := text_is N4.out i HI6.out HNm.out; obtain ⟨vl, hvl⟩ : ∃ vl, vl = valueLs.getD j [] := ⟨_, rfl⟩; have HVl := Lib.hid hvl; clear hvl; have hj10 : j < valueLs.length := (by simp; omega); have HJ10 := Lib.hid hj10; clear hj10; have y4 := text_is V4.out j HJ10.out HVl.out; have f0 := R4.out.frozen 0; have f1 := R4.out.frozen 1; have c0 := R4.out.cell (i := 0) rfl; have c1 := R4.out.cell (i := 1) rfl; clear hS4 hK4))
  all_goals
    go_wp2
    obtain ⟨n1, n2⟩ := names_ok nm (by rw [HNm.out]; exact getD_mem HI6.out)
    obtain ⟨v1, v2⟩ := values_ok vl (by rw [HVl.out]; exact getD_mem HJ10.out)
    have HK := (K4.out.setCell (p := ⟨w.heap.size, 0, none⟩) (Or.inl (Nat.le_refl _)) (.string (T nm))).setCell (p := ⟨w.heap.size, 1, none⟩) (Or.inl (Nat.le_refl _)) (.string (T vl))
    refine bodyPost_ret (v := pv nm vl) (by simp [results, Try.results23, go_sem, c0, c1]) rfl ⟨nm, vl, k4, rfl, ⟨n1, v1, flaw_ok n2 v2⟩, ⟨?_, ints_keptB HI.out HK HNe.out, S4.out.2.2⟩, HK⟩
    exact (S4.out.1.far (p := ⟨w.heap.size, 0, none⟩) (show gq ≠ w.heap.size by omega) _).far (p := ⟨w.heap.size, 1, none⟩) (show gq ≠ w.heap.size by omega) _
end Go.Proofs.Ytoplpnpimiboiaa.SeqP

/-
  A pair out of numbers: of the few names and values.
-/
namespace Go.Proofs.Ytoplpnpimiboiaa.Qt
open Go.ChangeShapes Go.WideShapes Go.ChangeAt Go.RowKit
open Bytes8 Blk8 Fa Fb Fc Numb Rows2 Seq8
set_option linter.unusedVariables false
set_option maxRecDepth 100000
set_option linter.unusedSimpArgs false
open SeqP (names_at values_at text_at text_is getD_mem)
/-- A pair of the few, and the maker further on. -/
def PairedN (gq : Nat) (a : Option Addr) (len cap : Nat) (f : Nat → Int) (w : World) (e : Ending) (w' : World) : Prop :=
  ∃ n v k', e = .returned (pv n v) ∧ (AllB n ∧ AllB v ∧ flawI n v = 0) ∧ (n ∈ nameLs ∧ v ∈ valueLs) ∧ SeqIn w' gq a len cap f k' ∧ KeptB w.heap.size gq w w'
theorem values_few : ∀ v ∈ valueLs, v.length ≤ 255 := by
  intro n hn
  have h : valueLs.all (fun n => decide (n.length ≤ 255)) = true := by decide +kernel
  have := List.all_eq_true.1 h n hn
  simpa using this
set_option maxHeartbeats 2000000 in
set_option maxRecDepth 100000 in
theorem pairN_any (gq : Nat) (a : Option Addr) (len cap : Nat) (f : Nat → Int) (k : Nat) (w : World) (h : SeqIn w gq a len cap f k) :
    Calls Try.prog 23 #[.pointer (some ⟨gq, 0, none⟩)] w (PairedN gq a len cap f w) := by
  have hgq := h.1.lt
  have B0 := Lib.hid ((Below.refl w.heap.size w).alloc (Nat.le_refl _) (.cells #[.string { data := #[] }, .string { data := #[] }] 45))
  have S0 := Lib.hid (h.below B0.out)
  have R0 := Lib.hid (Blk.new w [.string { data := #[] }, .string { data := #[] }] 45)
  have HI := Lib.hid h.2.1
  have HNe := Lib.hid h.2.2.1
  clear h
  unfold PairedN
  have hm : Try.prog.follows .mixedOrders = true := by kernel_rfl
  go_enter Try.func23, Try.ntmps23
  go_wp2_with fail
  go_region_with (first
    | (go_at_call 40; (with_reducible refine (names_at _ (w.heap.size + 1) (by simp)).mono ?_); rintro e w1 ⟨rfl, hN, hb1, hs1⟩; have N1 := Lib.hid hN; have S1 := Lib.hid (SeqIn.below (w := (w.alloc (.cells #[.string { data := #[] }, .string { data := #[] }] 45)).drew) S0.out hb1); have R1 := Lib.hid (Blk.below (w := (w.alloc (.cells #[.string { data := #[] }, .string { data := #[] }] 45)).drew) R0.out hb1 R0.out.lt); have B1 := Lib.hid (B0.out.drew.trans (hb1.mono B0.out.size)); clear hN hb1)
    | (go_at_call 39; (with_reducible refine (seqN_any gq a len cap f k 6 w1 (by decide) (by decide) S1.out).mono ?_); rintro e w2 ⟨i, k2, rfl, hi, hS2, hK2⟩; have S2 := Lib.hid hS2; have N2 := Lib.hid (Blk.keptB N1.out hK2 N1.out.lt (by omega)); have R2 := Lib.hid (Blk.keptB R1.out hK2 R1.out.lt (by omega)); have K2 := Lib.hid ((KeptB.of_below (g := gq) B1.out).trans (hK2.mono B1.out.size)); obtain ⟨nm, hnm⟩ : ∃ nm, nm = nameLs.getD i [] := ⟨_, rfl⟩; have HNm := Lib.hid hnm; clear hnm; have hi6 : i < nameLs.length := (by simp; omega); have HI6 := Lib.hid hi6; clear hi6; have x2 := text_is N2.out i HI6.out HNm.out; clear hS2 hK2)
    | (go_at_call 41; (with_reducible refine (values_at _ w2.heap.size rfl).mono ?_); rintro e w3 ⟨rfl, hV, hb3, hs3⟩; have V3 := Lib.hid hV; have S3 := Lib.hid (SeqIn.below S2.out hb3); have R3 := Lib.hid (R2.out.below hb3 R2.out.lt); have N3 := Lib.hid (N2.out.below hb3 N2.out.lt); have K3 := Lib.hid (K2.out.trans (KeptB.of_below (hb3.mono K2.out.size))); have x3 := text_is N3.out i HI6.out HNm.out; clear hV hb3)
    | (go_at_call 39; (with_reducible refine (seqN_any gq a len cap f k2 10 w3 (by decide) (by decide) S3.out).mono ?_); rintro e w4 ⟨j, k4, rfl, hj, hS4, hK4⟩; have S4 := Lib.hid hS4; have N4 := Lib.hid (Blk.keptB N3.out hK4 N3.out.lt (by omega)); have R4 := Lib.hid (Blk.keptB R3.out hK4 R3.out.lt (by omega)); have V4 := Lib.hid (Blk.keptB V3.out hK4 V3.out.lt (by have := K2.out.size; omega)); have K4 := Lib.hid (K3.out.trans (hK4.mono K3.out.size)); have x4 := text_is N4.out i HI6.out HNm.out; obtain ⟨vl, hvl⟩ : ∃ vl, vl = valueLs.getD j [] := ⟨_, rfl⟩; have HVl := Lib.hid hvl; clear hvl; have hj10 : j < valueLs.length := (by simp; omega); have HJ10 := Lib.hid hj10; clear hj10; have y4 := text_is V4.out j HJ10.out HVl.out; have f0 := R4.out.frozen 0; have f1 := R4.out.frozen 1; have c0 := R4.out.cell (i := 0) rfl; have c1 := R4.out.cell (i := 1) rfl; clear hS4 hK4))
  all_goals
    go_wp2
    obtain ⟨n1, n2⟩ := names_ok nm (by rw [HNm.out]; exact getD_mem HI6.out)
    obtain ⟨v1, v2⟩ := values_ok vl (by rw [HVl.out]; exact getD_mem HJ10.out)
    have HK := (K4.out.setCell (p := ⟨w.heap.size, 0, none⟩) (Or.inl (Nat.le_refl _)) (.string (T nm))).setCell (p := ⟨w.heap.size, 1, none⟩) (Or.inl (Nat.le_refl _)) (.string (T vl))
    refine bodyPost_ret (v := pv nm vl) (by simp [results, Try.results23, go_sem, c0, c1]) rfl ⟨nm, vl, k4, rfl, ⟨n1, v1, flaw_ok n2 v2⟩, ⟨by rw [HNm.out]; exact getD_mem HI6.out, by rw [HVl.out]; exact getD_mem HJ10.out⟩, ⟨?_, ints_keptB HI.out HK HNe.out, S4.out.2.2⟩, HK⟩
    exact (S4.out.1.far (p := ⟨w.heap.size, 0, none⟩) (show gq ≠ w.heap.size by omega) _).far (p := ⟨w.heap.size, 1, none⟩) (show gq ≠ w.heap.size by omega) _
end Go.Proofs.Ytoplpnpimiboiaa.Qt

/-
  What Split, and the document's own, answer; two rows of bytes held against each other; the chapter's examples.
-/
namespace Go.Proofs.Ytoplpnpimiboiaa.Fsp
open Go.ChangeShapes Go.WideShapes Go.ChangeAt Go.RowKit
open Bytes8 Blk8 Fa Fb Fc OwnE
set_option linter.unusedVariables false
set_option maxRecDepth 100000
set_option linter.unusedSimpArgs false

theorem get_T (l : List Int) (hA : AllB l) (i : Nat) (hi : i < l.length) : ((T l)[i]! == (61 : UInt8)) = decide (l.getD i 0 = 61) := by
  have hsz : i < (T l).size := by rw [T_size]; exact hi
  have hlen : i < (T l).toList.length := by rw [T_toList, List.length_map]; exact hi
  have e0 : (T l)[i]! = (T l)[i]'hsz := getElem!_pos (T l) i hsz
  have e1 : ((T l)[i]'hsz) = (T l).toList[i]'hlen := by
    have : (T l).toList = (T l).data.toList := ByteArray.toList_eq _
    simp only [this]
    rfl
  have e2 : (T l).toList[i]'hlen = (l[i]).toNat.toUInt8 := by simp only [T_toList, List.getElem_map]
  have hv := hA l[i] (List.getElem_mem hi)
  have e3 : l.getD i 0 = l[i] := by simp [List.getElem?_eq_getElem hi]
  rw [e0, e1, e2, e3]
  by_cases h : l[i] = 61
  · simp [h]
  · have : (l[i]).toNat.toUInt8 ≠ (61 : UInt8) := fun e => h (by
      have := congrArg UInt8.toNat e
      simp at this
      omega)
    simp [h, this]

def idxI (l : List Int) : Int := if cutI l < l.length then (cutI l : Int) else -1
theorem first_cut (l : List Int) (hA : AllB l) : firstIdx (T l) 61 = idxI l := by
  unfold firstIdx idxI
  rw [T_size]
  by_cases h : cutI l < l.length
  · rw [if_pos h]
    have : (List.range l.length).find? (fun i => (T l)[i]! == (61 : UInt8)) = some (cutI l) := by
      rw [List.find?_range_eq_some]
      refine ⟨?_, List.mem_range.2 h, fun j hj => ?_⟩
      · show ((T l)[cutI l]! == (61 : UInt8)) = true
        rw [get_T l hA _ h, cutI_at h]; rfl
      · show (!((T l)[j]! == (61 : UInt8))) = true
        rw [get_T l hA _ (by omega), decide_eq_false (cutI_before hj)]; rfl
    rw [this]
  · rw [if_neg h]
    have : (List.range l.length).find? (fun i => (T l)[i]! == (61 : UInt8)) = none := by
      rw [List.find?_range_eq_none]
      intro j hj
      show (!((T l)[j]! == (61 : UInt8))) = true
      rw [get_T l hA _ hj, decide_eq_false (cutI_before (by have := cutI_le l; omega))]; rfl
    rw [this]

theorem indexByte_any (l : List Int) (hA : AllB l) (w : World) :
    Calls Try.prog 83 #[.string (T l), .int .u8 61] w fun e w' => e = .returned (.int .i64 (idxI l)) ∧ w = w' := by
  have hr : ∀ w, (Extern.BytealgIndexByte.indexByte #[.string (T l), .int .u8 61]).run Try.prog w = .ok (.int .i64 (idxI l)) w := fun w => by
    rw [run_indexByte_string]
    show Result.ok (Value.int .i64 (firstIdx (T l) 61)) w = _
    rw [first_cut l hA]
  generalize T l = S at *
  generalize idxI l = I at *
  go_enter Try.func83, Try.ntmps83
  go_wp2
  rw [run_callFunc_extern Try.func88 (by kernel_rfl) (by kernel_rfl) (by kernel_rfl) (e := Extern.BytealgIndexByte.indexByte) (by kernel_rfl), hr]
  simp only [Result.andThen]
  rw [Oper.upon_value]
  go_wp2
  go_ret
  exact ⟨rfl, rfl⟩

theorem index_any (l : List Int) (hA : AllB l) (hmax : l.length ≤ 1000000) (w : World) :
    Calls Try.prog 77 #[.string (T l), .string { data := #[61] }] w fun e w' => e = .returned (.int .i64 (idxI l)) ∧ w = w' := by
  have HB := Lib.hid fun w => indexByte_any l hA w
  have hq : ([61] == (T l).toList) = decide ([61] = l) := by
    have h1 := T_beq (l := [61]) (m := l) (fun x hx => by simp at hx; subst hx; decide) hA
    rw [← h1, show (T [61]).toList = [61] by rw [T_toList]; rfl]
  have hi0 : ∀ w, (Instr.index 9 (.string { data := #[61] }) (.int .i64 0)).run Try.prog w = .ok (.int .u8 61) w := fun w => by
    have := index_at [61] (fun x hx => by simp at hx; subst hx; decide) 0 (by decide) w
    rw [T_one]; exact this
  by_cases h : [61] = l
  · have hI : idxI l = 0 := by subst h; decide
    rw [hI]
    rw [decide_eq_true h] at hq
    clear HB hi0 hI h
    generalize T l = S at *
    go_enter Try.func77, Try.ntmps77
    go_wp2
    go_ret
    exact ⟨rfl, rfl⟩
  · rw [decide_eq_false h] at hq
    clear h
    generalize T l = S at *
    generalize idxI l = I at *
    go_enter Try.func77, Try.ntmps77
    go_wp2_with (go_at_call 83; (with_reducible refine (HB.out _).mono ?_); rintro e w' ⟨rfl, rfl⟩)
    go_ret
    exact ⟨rfl, rfl⟩

theorem slice_lo (l : List Int) (k : Nat) (hk : k ≤ l.length) (w : World) : (Instr.slice 9 (.string (T l)) none (some (.int .i64 (k : Int))) none).run Try.prog w = .ok (.string (T (l.take k))) w := by
  have hz := T_size l
  have e := T_cut l 0 k
  rw [List.drop_zero, Nat.sub_zero] at e
  rw [run_slice_string_to_if w 9 (T l) .i64 (k : Int) Try.underlying9, if_pos (by omega), Int.toNat_natCast, e]
theorem slice_hi (l : List Int) (k : Nat) (hk : k ≤ l.length) (w : World) : (Instr.slice 9 (.string (T l)) (some (.int .i64 (k : Int))) none none).run Try.prog w = .ok (.string (T (l.drop k))) w := by
  have hz := T_size l
  have e := T_cut l k l.length
  rw [List.take_of_length_le (by simp)] at e
  rw [run_slice_string_from_if w 9 (T l) .i64 (k : Int) Try.underlying9, if_pos (by omega), Int.toNat_natCast, hz, e]

/-- What Cut tells. -/
def cutA1 (l : List Int) : List Int := if cutI l < l.length then l.take (cutI l) else l
def cutA2 (l : List Int) : List Int := if cutI l < l.length then l.drop (cutI l + 1) else []
theorem lcut_any (l : List Int) (hA : AllB l) (hmax : l.length ≤ 1000000) (w : World) :
    Calls Try.prog 60 #[.string (T l), .string { data := #[61] }] w fun e w' => e = .returned (.tuple #[.string (T (cutA1 l)), .string (T (cutA2 l)), .bool (decide (cutI l < l.length))]) ∧ Grew w w' := by
  have HI := Lib.hid fun w => index_any l hA hmax w
  have hsz := T_size l
  by_cases h : cutI l < l.length
  · have h1 : cutA1 l = l.take (cutI l) := if_pos h
    have h2 : cutA2 l = l.drop (cutI l + 1) := if_pos h
    have h3 : idxI l = (cutI l : Int) := if_pos h
    have s1 := slice_lo l (cutI l) (by omega)
    have s2 : ∀ w, (Instr.slice 9 (.string (T l)) (some (.int .i64 ((cutI l : Int) + 1))) none none).run Try.prog w = .ok (.string (T (l.drop (cutI l + 1)))) w := slice_hi l (cutI l + 1) (by omega)
    rw [h1, h2, decide_eq_true h]
    rw [h3] at HI
    have hk : cutI l ≤ 1000000 := by omega
    clear h1 h2 h3 hA
    generalize l.length = len at *
    generalize T (l.take (cutI l)) = S1 at *
    generalize T (l.drop (cutI l + 1)) = S2 at *
    generalize T l = S at *
    generalize cutI l = k at *
    go_enter Try.func60, Try.ntmps60
    go_wp2_with (go_at_call 77; (with_reducible refine (HI.out _).mono ?_); rintro e w' ⟨rfl, rfl⟩)
    go_quiet (fail)
    go_wp2
    go_ret3
    exact ⟨rfl, (Grew.refl w).drewN _⟩
  · have h1 : cutA1 l = l := if_neg h
    have h2 : cutA2 l = [] := if_neg h
    have h3 : idxI l = -1 := if_neg h
    rw [h1, h2, decide_eq_false h, ← T_nil]
    rw [h3] at HI
    clear h1 h2 h3 hA
    generalize T l = S at *
    go_enter Try.func60, Try.ntmps60
    go_wp2_with (go_at_call 77; (with_reducible refine (HI.out _).mono ?_); rintro e w' ⟨rfl, rfl⟩)
    go_ret3
    exact ⟨rfl, Grew.refl w⟩
theorem cut_any (l : List Int) (hA : AllB l) (hmax : l.length ≤ 1000000) (w : World) :
    Calls Try.prog 47 #[.string (T l), .string { data := #[61] }] w fun e w' => e = .returned (.tuple #[.string (T (cutA1 l)), .string (T (cutA2 l)), .bool (decide (cutI l < l.length))]) ∧ Grew w w' := by
  have HC := Lib.hid fun w => lcut_any l hA hmax w
  generalize T (cutA1 l) = S1 at *
  generalize T (cutA2 l) = S2 at *
  generalize decide (cutI l < l.length) = b at *
  generalize T l = S at *
  go_enter Try.func47, Try.ntmps47
  go_wp2_with (go_at_call 60; (with_reducible refine (HC.out _).mono ?_); rintro e w' ⟨rfl, hG⟩)
  go_ret3
  exact ⟨rfl, hG⟩

def Splitted (l : List Int) (w : World) (e : Ending) (w' : World) : Prop := e = .returned (.tuple #[pv (splitN l) (splitV l), .int .i64 (splitE l)]) ∧ Below w.heap.size w w'

set_option maxRecDepth 100000 in
set_option maxRecDepth 100000 in
theorem split_any (a : Option Addr) (l : List Int) (len cap : Nat) (w : World) (hb : Bytes w a l) (hL : l.length = len) (hmax : len ≤ 1000000) :
    Calls Try.prog 26 #[.slice a len cap] w (Splitted l w) := by
  subst hL
  have hA := hb.1
  have HC := Lib.hid fun w => cut_any l hA hmax w
  have hcv : (convert 56 9 (.slice a l.length cap)).run Try.prog (w.alloc (.cells #[.string { data := #[] }, .string { data := #[] }] 45)) = .ok (.string (T l)) (w.alloc (.cells #[.string { data := #[] }, .string { data := #[] }] 45)) :=
    (hb.below ((Below.refl w.heap.size w).alloc (Nat.le_refl _) _) (Nat.le_refl _)).string cap _ rfl
  unfold Splitted
  have hE : splitE l = if cutI l < l.length then (if nmB (l.take (cutI l)) = true then (if 256 < l.length - cutI l - 1 then 21 else 0) else 20) else 20 := rfl
  have b0 : Below w.heap.size w (w.alloc (.cells #[.string { data := #[] }, .string { data := #[] }] 45)) := (Below.refl w.heap.size w).alloc (Nat.le_refl _) _
  by_cases h : cutI l < l.length
  · have h1 : cutA1 l = l.take (cutI l) := if_pos h
    have h2 : cutA2 l = l.drop (cutI l + 1) := if_pos h
    rw [h1, h2, decide_eq_true h] at HC
    rw [if_pos h] at hE
    have HN := Lib.hid fun w => name_any (l.take (cutI l)) (hA.take _) w
    have hvs : (T (l.drop (cutI l + 1))).size = l.length - cutI l - 1 := by rw [T_size, List.length_drop]; omega
    cases hnm : nmB (l.take (cutI l)) with
    | false =>
      rw [hnm] at HN hE
      have hF : splitE l = 20 := hE
      obtain ⟨e1, e2⟩ := split_not (l := l) (by rw [hF]; decide)
      dsimp only [pv]
      rw [hF, e1, e2, ← T_nil]
      clear hE hF e1 e2 hnm h1 h2 hb hA hvs
      generalize l.length = len at *
      generalize T (l.take (cutI l)) = S1 at *
      generalize T (l.drop (cutI l + 1)) = S2 at *
      generalize T l = S at *
      clear h
      go_enter Try.func26, Try.ntmps26
      go_wp2_with (first | (go_at_call 47; (with_reducible refine (HC.out _).mono ?_); rintro e w2 ⟨rfl, hG⟩; have HG := Lib.hid (b0.trans (hG.below.mono b0.size)); have R := Lib.hid ((Blk.new w [.string { data := #[] }, .string { data := #[] }] 45).below hG.below (by simp)); have c0 := R.out.cell (i := 0) rfl; have c1 := R.out.cell (i := 1) rfl; have f0 := R.out.frozen 0; have f1 := R.out.frozen 1; clear hG) | (go_at_call 48; (with_reducible refine (HN.out _).mono ?_); rintro e w' ⟨rfl, rfl⟩))
      refine bodyPost_ret (v := .tuple #[.agg #[.string { data := #[] }, .string { data := #[] }], .int .i64 20]) (by simp [results_cell_tmp Try.results26, go_sem, c0, c1, f0, f1, Result.andThen]) rfl ⟨rfl, ?_⟩
      (repeat (first | (with_reducible exact HG.out) | refine Below.setCell ?_ (by simp) _ | refine Below.alloc ?_ (by simp) _ | refine below_drewN ?_ _))
    | true =>
      rw [hnm] at HN hE
      rw [if_pos rfl] at hE
      by_cases hv : 256 < l.length - cutI l - 1
      · have hF : splitE l = 21 := hE.trans (if_pos hv)
        obtain ⟨e1, e2⟩ := split_not (l := l) (by rw [hF]; decide)
        dsimp only [pv]
        rw [hF, e1, e2, ← T_nil]
        clear hE hF e1 e2 hnm h1 h2 hb hA
        generalize l.length - cutI l - 1 = lv at *
        generalize l.length = len at *
        generalize T (l.take (cutI l)) = S1 at *
        generalize T (l.drop (cutI l + 1)) = S2 at *
        generalize T l = S at *
        clear h
        go_enter Try.func26, Try.ntmps26
        go_wp2_with (first | (go_at_call 47; (with_reducible refine (HC.out _).mono ?_); rintro e w2 ⟨rfl, hG⟩; have HG := Lib.hid (b0.trans (hG.below.mono b0.size)); have R := Lib.hid ((Blk.new w [.string { data := #[] }, .string { data := #[] }] 45).below hG.below (by simp)); have c0 := R.out.cell (i := 0) rfl; have c1 := R.out.cell (i := 1) rfl; have f0 := R.out.frozen 0; have f1 := R.out.frozen 1; clear hG) | (go_at_call 48; (with_reducible refine (HN.out _).mono ?_); rintro e w' ⟨rfl, rfl⟩))
        refine bodyPost_ret (v := .tuple #[.agg #[.string { data := #[] }, .string { data := #[] }], .int .i64 21]) (by simp [results_cell_tmp Try.results26, go_sem, c0, c1, f0, f1, Result.andThen]) rfl ⟨rfl, ?_⟩
        (repeat (first | (with_reducible exact HG.out) | refine Below.setCell ?_ (by simp) _ | refine Below.alloc ?_ (by simp) _ | refine below_drewN ?_ _))
      · have hF : splitE l = 0 := hE.trans (if_neg hv)
        have e1 : splitN l = l.take (cutI l) := by unfold splitN; rw [if_pos hF]
        have e2 : splitV l = l.drop (cutI l + 1) := by unfold splitV; rw [if_pos hF]
        dsimp only [pv]
        rw [hF, e1, e2]
        clear hE hF e1 e2 hnm h1 h2 hb hA
        generalize l.length - cutI l - 1 = lv at *
        generalize l.length = len at *
        generalize T (l.take (cutI l)) = S1 at *
        generalize T (l.drop (cutI l + 1)) = S2 at *
        generalize T l = S at *
        clear h
        go_enter Try.func26, Try.ntmps26
        go_wp2_with (first | (go_at_call 47; (with_reducible refine (HC.out _).mono ?_); rintro e w2 ⟨rfl, hG⟩; have HG := Lib.hid (b0.trans (hG.below.mono b0.size)); have R := Lib.hid ((Blk.new w [.string { data := #[] }, .string { data := #[] }] 45).below hG.below (by simp)); have c0 := R.out.cell (i := 0) rfl; have c1 := R.out.cell (i := 1) rfl; have f0 := R.out.frozen 0; have f1 := R.out.frozen 1; clear hG) | (go_at_call 48; (with_reducible refine (HN.out _).mono ?_); rintro e w' ⟨rfl, rfl⟩))
        refine bodyPost_ret (v := .tuple #[.agg #[.string S1, .string S2], .int .i64 0]) (by simp [results_cell_tmp Try.results26, go_sem, c0, c1, f0, f1, Result.andThen]) rfl ⟨rfl, ?_⟩
        (repeat (first | (with_reducible exact HG.out) | refine Below.setCell ?_ (by simp) _ | refine Below.alloc ?_ (by simp) _ | refine below_drewN ?_ _))
  · have h1 : cutA1 l = l := if_neg h
    have h2 : cutA2 l = [] := if_neg h
    rw [h1, h2, decide_eq_false h, ← T_nil] at HC
    rw [if_neg h] at hE
    have hF : splitE l = 20 := hE
    obtain ⟨e1, e2⟩ := split_not (l := l) (by rw [hF]; decide)
    dsimp only [pv]
    rw [hF, e1, e2, ← T_nil]
    clear hE hF e1 e2 h1 h2 hb hA
    have HN := Lib.hid True.intro
    generalize l.length = len at *
    generalize T l = S at *
    clear h
    go_enter Try.func26, Try.ntmps26
    go_wp2_with (go_at_call 47; (with_reducible refine (HC.out _).mono ?_); rintro e w2 ⟨rfl, hG⟩; have HG := Lib.hid (b0.trans (hG.below.mono b0.size)); have R := Lib.hid ((Blk.new w [.string { data := #[] }, .string { data := #[] }] 45).below hG.below (by simp)); have c0 := R.out.cell (i := 0) rfl; have c1 := R.out.cell (i := 1) rfl; have f0 := R.out.frozen 0; have f1 := R.out.frozen 1; clear hG)
    refine bodyPost_ret (v := .tuple #[.agg #[.string { data := #[] }, .string { data := #[] }], .int .i64 20]) (by simp [results_cell_tmp Try.results26, go_sem, c0, c1, f0, f1, Result.andThen]) rfl ⟨rfl, ?_⟩
    (repeat (first | (with_reducible exact HG.out) | refine Below.setCell ?_ (by simp) _ | refine Below.alloc ?_ (by simp) _ | refine below_drewN ?_ _))
end Go.Proofs.Ytoplpnpimiboiaa.Fsp

/-
  What the document's own Split answers; two rows of bytes held against each other; the chapter's examples.
-/
namespace Go.Proofs.Ytoplpnpimiboiaa.Fe
open Go.ChangeShapes Go.WideShapes Go.ChangeAt Go.RowKit
open Bytes8 Blk8 Fa Fb Fc Fsp OwnE
set_option linter.unusedVariables false
set_option maxRecDepth 100000
set_option linter.unusedSimpArgs false

theorem cut_h (A : Option Addr) (len cap hi : Nat) (h2 : hi ≤ cap) (w : World) :
    (Instr.slice 56 (.slice A len cap) none (some (.int .i64 (hi : Int))) none).run Try.prog w = .ok (.slice (cutA A cap 0) hi cap) w := by
  have ht : Try.prog.underlying 56 = some (.slice (Try.prog.elem 56)) := by rw [elem8]; exact Try.underlying56
  rw [run_slice_h w 56 A len cap ht .i64 hi (by omega) (by omega), elem8, sizeof8]
  simp [Result.andThen, sliced, cutA]

abbrev blank (w : World) : World := w.alloc (.cells #[.string { data := #[] }, .string { data := #[] }] 45)

set_option maxRecDepth 100000 in
theorem rsplit_any (a : Option Addr) (l : List Int) (len cap : Nat) (w : World) (hb : Bytes w a l) (hL : l.length = len) (hmax : len ≤ 1000000) (hcap : len ≤ cap) (hcap2 : cap ≤ maxLen) :
    Calls Try.prog 27 #[.slice a len cap] w (Splitted l w) := by
  unfold maxLen at hcap2
  have hA := hb.1
  have b0 : Below w.heap.size w (blank w) := (Below.refl w.heap.size w).alloc (Nat.le_refl _) _
  have hb1 : Bytes (blank w) a l := hb.below b0 (Nat.le_refl _)
  have hb2 : Bytes (blank w).drew a l := hb1
  have R := Lib.hid (Blk.new w [.string { data := #[] }, .string { data := #[] }] 45)
  have HE : Hid (splitE l = if cutI l < l.length then (if nmB (l.take (cutI l)) = true then (if 256 < l.length - cutI l - 1 then 21 else 0) else 20) else 20) := Lib.hid rfl
  have HNo := Lib.hid (fun h => split_not (l := l) h)
  have HN1 : Hid (splitE l = 0 → splitN l = l.take (cutI l)) := Lib.hid fun h => by unfold splitN; rw [if_pos h]
  have HV1 : Hid (splitE l = 0 → splitV l = l.drop (cutI l + 1)) := Lib.hid fun h => by unfold splitV; rw [if_pos h]
  have HA := Lib.hid hA
  have HB := Lib.hid hb1
  have HL := Lib.hid hL
  unfold Splitted
  dsimp only [pv, blank] at *
  have HB0 := Lib.hid b0
  clear hb1 hb2 hL hA hb b0
  go_enter Try.func27, Try.ntmps27
  go_wp2
  go_loop [4] (fun i => ∃ k : Nat, k ≤ len ∧ i = .int .i64 (k : Int) ∧ Hid (∀ j, j < k → l.getD j 0 ≠ 61)) (fun i => len - (intOf i).toNat)
  case atStart => exact ⟨0, by omega, rfl, Lib.hid fun j hj => absurd hj (by omega)⟩
  case round =>
    obtain ⟨k, hk, rfl, hall⟩ := hrel
    rcases Nat.lt_or_ge k len with hlt | hge
    · obtain ⟨b, off, rfl, hblt, hc⟩ := HB.out.spot (by have := HL.out; omega)
      have hcell := hc k (by have := HL.out; omega)
      obtain ⟨c1, c2⟩ := HA.out.at_ k
      have hin : (k : Int) < (len : Int) := by omega
      by_cases h61 : l.getD k 0 = 61
      · have hcut : cutI l = k := cutI_is (by have := HL.out; omega) h61 hall.out
        rw [h61] at hcell
        clear c1 c2 h61 hall hc
        rw [hcut, HL.out, if_pos hlt] at HE
        rw [hcut] at HN1 HV1
        clear hcut
        have hs1 := cut_h (some ⟨b, off, none⟩) len cap k (by omega)
        have hs2 : ∀ w, (Instr.slice 56 (.slice (some ⟨b, off, none⟩) len cap) (some (.int .i64 ((k : Int) + 1))) none none).run Try.prog w = .ok (.slice (cutA (some ⟨b, off, none⟩) cap (k + 1)) (len - (k + 1)) (cap - (k + 1))) w := cut_l (some ⟨b, off, none⟩) len cap (k + 1) (by omega)
        have hv1 := ((OwnE.Bytes.cut HB.out cap 0 k (by rw [HL.out]; omega))).string cap k (by simp; have := HL.out; omega)
        have hv1' := ((OwnE.Bytes.cut HB.out.drew cap 0 k (by rw [HL.out]; omega))).string cap k (by simp; have := HL.out; omega)
        have hv2' := ((OwnE.Bytes.cut HB.out.drew cap (k + 1) (len - (k + 1)) (by rw [HL.out]; omega))).string (cap - (k + 1)) (len - (k + 1)) (by simp; have := HL.out; omega)
        rw [List.drop_zero] at hv1 hv1'
        rw [List.take_of_length_le (by simp; have := HL.out; omega)] at hv2'
        generalize cutA (some ⟨b, off, none⟩) cap 0 = A1 at *
        generalize cutA (some ⟨b, off, none⟩) cap (k + 1) = A2 at *
        have HN := Lib.hid fun w => rname_any (l.take k) (HA.out.take k) (by have := HL.out; simp; omega) w
        have f0 := R.out.frozen 0
        have f1 := R.out.frozen 1
        have g0 := R.out.cell (i := 0) rfl
        have g1 := R.out.cell (i := 1) rfl
        cases hnm : nmB (l.take k) with
        | false =>
          rw [hnm] at HN HE
          have hF : splitE l = 20 := HE.out
          obtain ⟨e1, e2⟩ := HNo.out (by rw [hF]; decide)
          have HR := Lib.hid (And.intro hF (And.intro e1 e2))
          clear HE hF e1 e2 hnm HNo HN1 HV1 hs2 hv2' hv1'
          change (convert _ _ _).run _ _ = .ok (.string (T (l.take k))) _ at hv1
          generalize T (l.take k) = S1 at *
          go_wp2_with (go_at_call 30; (with_reducible refine (HN.out _).mono ?_); rintro e w' ⟨rfl, rfl⟩)
          refine bodyPost_ret (v := .tuple #[.agg #[.string { data := #[] }, .string { data := #[] }], .int .i64 20]) (by simp [results_cell_tmp Try.results27, go_sem, Result.andThen]) rfl ⟨by rw [HR.out.1, HR.out.2.1, HR.out.2.2, ← T_nil], ?_⟩
          (repeat (first | (with_reducible exact HB0.out) | (with_reducible exact Below.refl _ _) | refine Below.setCell ?_ (by simp) _ | refine Below.alloc ?_ (by simp) _ | refine Below.drew ?_ | refine below_drewN ?_ _))
        | true =>
          rw [hnm] at HN HE
          rw [if_pos rfl] at HE
          change (convert _ _ _).run _ _ = .ok (.string (T (l.take k))) _ at hv1
          change (convert _ _ _).run _ _ = .ok (.string (T (l.take k))) _ at hv1'
          change (convert _ _ _).run _ _ = .ok (.string (T (l.drop (k + 1)))) _ at hv2'
          by_cases hv : 256 < len - k - 1
          · have hF : splitE l = 21 := HE.out.trans (if_pos hv)
            obtain ⟨e1, e2⟩ := HNo.out (by rw [hF]; decide)
            have HR := Lib.hid (And.intro hF (And.intro e1 e2))
            clear HE hF e1 e2 hnm HNo HN1 HV1 hs2 hv2' hv1'
            have hv2 : (256 : Int) < (len : Int) - (k : Int) - 1 := by omega
            generalize T (l.take k) = S1 at *
            go_wp2_with (go_at_call 30; (with_reducible refine (HN.out _).mono ?_); rintro e w' ⟨rfl, rfl⟩)
            refine bodyPost_ret (v := .tuple #[.agg #[.string { data := #[] }, .string { data := #[] }], .int .i64 21]) (by simp [results_cell_tmp Try.results27, go_sem, Result.andThen]) rfl ⟨by rw [HR.out.1, HR.out.2.1, HR.out.2.2, ← T_nil], ?_⟩
            (repeat (first | (with_reducible exact HB0.out) | (with_reducible exact Below.refl _ _) | refine Below.setCell ?_ (by simp) _ | refine Below.alloc ?_ (by simp) _ | refine Below.drew ?_ | refine below_drewN ?_ _))
          · have hF : splitE l = 0 := HE.out.trans (if_neg hv)
            have HR := Lib.hid (And.intro hF (And.intro (HN1.out hF) (HV1.out hF)))
            clear HE hF hnm HNo HN1 HV1
            have hv2 : ¬ (256 : Int) < (len : Int) - (k : Int) - 1 := by omega
            generalize hS1 : T (l.take k) = S1 at *
            generalize hS2 : T (l.drop (k + 1)) = S2 at *
            have HS1 := Lib.hid hS1
            have HS2 := Lib.hid hS2
            clear hS1 hS2
            go_wp2_with (go_at_call 30; (with_reducible refine (HN.out _).mono ?_); rintro e w' ⟨rfl, rfl⟩)
            go_region
            all_goals
              go_wp2
              refine bodyPost_ret (v := .tuple #[.agg #[.string S1, .string S2], .int .i64 0]) (by simp [results_cell_tmp Try.results27, go_sem, Result.andThen]) rfl ⟨by rw [HR.out.1, HR.out.2.1, HR.out.2.2, HS1.out, HS2.out], ?_⟩
              (repeat (first | (with_reducible exact HB0.out) | (with_reducible exact Below.refl _ _) | refine Below.setCell ?_ (by simp) _ | refine Below.alloc ?_ (by simp) _ | refine Below.drew ?_ | refine below_drewN ?_ _))
      · have h61b : (l.getD k 0 != 61) = true := by simpa using h61
        have hall2 := Lib.hid (fun j (hj : j < k + 1) => (by
          rcases Nat.lt_or_ge j k with h1 | h1
          · exact hall.out j h1
          · obtain rfl : j = k := by omega
            exact h61 : l.getD j 0 ≠ 61))
        clear hall hc h61
        generalize l.getD k 0 = c at *
        go_wp2
        go_round
        case rel => exact ⟨k + 1, by omega, by go_num, hall2⟩
        case measure => simp [intOf]; omega
    · obtain rfl : k = len := by omega
      have hcut : cutI l = l.length := cutI_none fun j hj => hall.out j (by have := HL.out; omega)
      rw [hcut, if_neg (Nat.lt_irrefl _)] at HE
      have hF : splitE l = 20 := HE.out
      obtain ⟨e1, e2⟩ := HNo.out (by rw [hF]; decide)
      have HR := Lib.hid (And.intro hF (And.intro e1 e2))
      clear HE hF e1 e2 hcut hall
      go_wp2
      refine bodyPost_ret (v := .tuple #[.agg #[.string { data := #[] }, .string { data := #[] }], .int .i64 20]) (by simp [results_cell_tmp Try.results27, go_sem, Result.andThen]) rfl ⟨by rw [HR.out.1, HR.out.2.1, HR.out.2.2, ← T_nil], ?_⟩
      (repeat (first | (with_reducible exact HB0.out) | (with_reducible exact Below.refl _ _) | refine Below.setCell ?_ (by simp) _ | refine Below.alloc ?_ (by simp) _ | refine Below.drew ?_ | refine below_drewN ?_ _))
end Go.Proofs.Ytoplpnpimiboiaa.Fe

/-
  The chapter's examples.
-/
namespace Go.Proofs.Ytoplpnpimiboiaa.Ff
open Go.ChangeShapes Go.WideShapes Go.ChangeAt Go.RowKit
open Bytes8 Blk8 Fa Fb Fc Fsp Fe
set_option linter.unusedVariables false
set_option maxRecDepth 100000
set_option linter.unusedSimpArgs false

abbrev cA : List Int := [65, 61, 98, 61, 99]
abbrev ca : List Int := [97, 61, 98]

end Go.Proofs.Ytoplpnpimiboiaa.Ff

/-
  The order of pairs: plain; what Less and compare answer.
-/
namespace Go.Proofs.Ytoplpnpimiboiaa.Fo
open Go.ChangeShapes Go.WideShapes Go.ChangeAt Go.RowKit
open Bytes8 Blk8 Fa Fb Fc
set_option linter.unusedVariables false
set_option maxRecDepth 100000
set_option linter.unusedSimpArgs false

theorem comp_nums : ∀ l m, AllB l → AllB m → decide (Lib.compareBytes (l.map fun n => n.toNat.toUInt8) (m.map fun n => n.toNat.toUInt8) < 0) = ltL l m
  | [], [], _, _ => rfl
  | [], _ :: _, _, _ => rfl
  | _ :: _, [], _, _ => rfl
  | x :: l, y :: m, hl, hm => by
    have ih := comp_nums l m (fun n hn => hl n (by simp [hn])) (fun n hn => hm n (by simp [hn]))
    have hx := hl x (by simp)
    have hy := hm y (by simp)
    simp only [List.map_cons, Lib.compareBytes, ltL, u8_lt hx hy, u8_lt hy hx]
    by_cases h1 : x < y
    · simp [h1]
    · by_cases h2 : y < x
      · simp [h1, h2]
      · simp only [if_neg h1, if_neg h2]; exact ih
/-- What compare answers. -/
def cmpI (n v m u : List Int) : Int := Lib.compareBytes (T (pay n v)).data.toList (T (pay m u)).data.toList
theorem cmpI_lt {n v m u : List Int} (hn : AllB n) (hv : AllB v) (hm : AllB m) (hu : AllB u) : decide (cmpI n v m u < 0) = lessP n v m u := by
  unfold cmpI lessP
  rw [← ByteArray.toList_eq, ← ByteArray.toList_eq, T_toList, T_toList]
  exact comp_nums _ _ (pay_all hn hv) (pay_all hm hu)
theorem blcompare_any (s t : ByteArray) (w : World) :
    Calls Try.prog 59 #[.string s, .string t] w fun e w' => e = .returned (.int .i64 (Lib.compareBytes s.data.toList t.data.toList)) ∧ w = w' := by
  go_enter Try.func59, Try.ntmps59
  go_wp2
  rw [run_callFunc_extern Try.func76 (by kernel_rfl) (by kernel_rfl) (by kernel_rfl) (e := Extern.BytealgCompare.compare) (by kernel_rfl), Lib.run_compareString]
  simp only [Result.andThen]
  rw [Oper.upon_value]
  go_wp2
  go_ret
  exact ⟨rfl, rfl⟩
theorem scompare_any (s t : ByteArray) (w : World) :
    Calls Try.prog 45 #[.string s, .string t] w fun e w' => e = .returned (.int .i64 (Lib.compareBytes s.data.toList t.data.toList)) ∧ w = w' := by
  have HC := Lib.hid fun w => blcompare_any s t w
  generalize Lib.compareBytes s.data.toList t.data.toList = c at *
  go_enter Try.func45, Try.ntmps45
  go_wp2_with (go_at_call 59; (with_reducible refine (HC.out _).mono ?_); rintro e w' ⟨rfl, rfl⟩)
  go_ret
  exact ⟨rfl, rfl⟩

theorem scompare_grew (s t : ByteArray) (w : World) :
    Calls Try.prog 45 #[.string s, .string t] w fun e w' => e = .returned (.int .i64 (Lib.compareBytes s.data.toList t.data.toList)) ∧ Grew w w' :=
  (scompare_any s t w).mono (by rintro e w' ⟨rfl, rfl⟩; exact ⟨rfl, Grew.refl _⟩)
theorem payload_grew (n v : List Int) (h : n.length + v.length ≤ 900000) (w : World) :
    Calls Try.prog 64 #[pv n v] w fun e w' => e = .returned (.string (T (pay n v))) ∧ Grew w w' :=
  (payload_any n v h w).mono (by rintro e w' ⟨rfl, rfl⟩; exact ⟨rfl, Grew.boxed _ _⟩)
end Go.Proofs.Ytoplpnpimiboiaa.Fo

/-
  A pair of texts that came in by value; a slice of pairs that came in.
-/
namespace Go.Proofs.Ytoplpnpimiboiaa.In8
open Go.ChangeShapes Go.WideShapes Go.ChangeAt Go.RowKit Go.Deep
open Bytes8 Blk8 Fa
set_option linter.unusedVariables false
set_option maxRecDepth 100000
set_option linter.unusedSimpArgs false

theorem text_of {s : ByteArray} : ∃ l, s = T l ∧ AllB l := ⟨num s, (T_num s).symm, num_all s⟩

theorem pair_of_trod {H : Type} {enc : TypeId × Value → H} {P : Program} {w : World} {base b0 : Nat} {held : Bool} {r : Reach} {spare : Nat → Bool} {t : TypeId} {f0 f1 : Field} {v : Value} {d : DataW H} {p : List MemPlace}
    (ht : P.underlying t = some (.struct #[f0, f1])) (hone : oneCellFields P #[f0, f1] = true) (hC : P.cellsOf t = 2) (h0 : P.underlying f0.type = some .string) (h1 : P.underlying f1.type = some .string)
    (hv : Value.okWide P w r b0 t v) (h : DataW.Trod enc P w base spare held t v d p) : ∃ n m, v = pv n m ∧ AllB n ∧ AllB m := by
  obtain ⟨v0, v1, y0, y1, k, rfl, _, _, t0, t1⟩ := Go.Joins.open_agg2 ht hone hC hv h
  obtain ⟨s0, e0, _⟩ := DataW.trod_string h0 t0
  obtain ⟨s1, e1, _⟩ := DataW.trod_string h1 t1
  injection e0 with e0
  injection e1 with e1
  subst e0; subst e1
  obtain ⟨n, rfl, hn⟩ := text_of (s := s0)
  obtain ⟨m, rfl, hm⟩ := text_of (s := s1)
  exact ⟨n, m, rfl, hn, hm⟩

/-- Pairs of texts that can be read from an address on. -/
def InPairs (w : World) (a : Option Addr) (len : Nat) (N V : Nat → List Int) : Prop :=
  ∀ i, i < len → ∃ b off, a = some ⟨b, off, none⟩ ∧ b < w.heap.size ∧ w.cell? ⟨b, off + i * 2, none⟩ = some (.string (T (N i))) ∧ w.cell? ⟨b, off + i * 2 + 1, none⟩ = some (.string (T (V i))) ∧ AllB (N i) ∧ AllB (V i) ∧ (N i).length ≤ maxLen ∧ (V i).length ≤ maxLen
theorem InPairs.below {w w' : World} {a : Option Addr} {len : Nat} {N V : Nat → List Int} (h : InPairs w a len N V) (hb : Below w.heap.size w w') : InPairs w' a len N V := fun i hi => by
  obtain ⟨b, off, e, h1, h2, h3, h4⟩ := h i hi
  exact ⟨b, off, e, Nat.lt_of_lt_of_le h1 hb.size, (hb.cell (p := ⟨b, off + i * 2, none⟩) h1).trans h2, (hb.cell (p := ⟨b, off + i * 2 + 1, none⟩) h1).trans h3, h4⟩

theorem pairs_of_trod {H : Type} {enc : TypeId × Value → H} {P : Program} {w : World} {base : Nat} {held : Bool} {t e : TypeId} {f0 f1 : Field} {a : Option Addr} {len cap : Nat} {d : DataW H} {p : List MemPlace}
    (ht : P.underlying t = some (.slice e)) (he : P.underlying e = some (.struct #[f0, f1])) (ce : P.cellsOf e = 2) (o0 : f0.offset = 0) (o1 : f1.offset = 1) (c0 : P.cellsOf f0.type = 1) (c1 : P.cellsOf f1.type = 1) (h0 : P.underlying f0.type = some .string) (h1 : P.underlying f1.type = some .string)
    (h : DataW.Trod enc P w base (fun _ => true) held t (.slice a len cap) d p) : ∃ N V, InPairs w a len N V ∧ len ≤ cap ∧ cap ≤ maxLen := by
  obtain ⟨fuel, hf⟩ := h
  rcases open_slice_pairs ht he ce o0 o1 c0 c1 hf with ⟨hcs, _⟩ | ⟨x, l, c, m, n, V0, V1, D0, D1, P0, P1, hcs, _, hl, hm, hmm, _, hel⟩
  · simp [Value.cells] at hcs
    obtain ⟨rfl, rfl, rfl⟩ := hcs
    exact ⟨fun _ => [], fun _ => [], fun i hi => absurd hi (by omega), Nat.le_refl _, by decide⟩
  · simp [Value.cells] at hcs
    obtain ⟨rfl, e1, e2⟩ := hcs
    subst e1 e2
    simp at hmm
    have each : ∀ i, i < cap → ∃ q : List Int × List Int, V0 i = .string (T q.1) ∧ V1 i = .string (T q.2) ∧ AllB q.1 ∧ AllB q.2 ∧ q.1.length ≤ maxLen ∧ q.2.length ≤ maxLen := by
      intro i hi
      obtain ⟨_, _, t0, t1⟩ := hel i (by omega)
      obtain ⟨s0, e0, _, z0⟩ := DataW.trod_string h0 t0
      obtain ⟨s1, e1, _, z1⟩ := DataW.trod_string h1 t1
      injection e0 with e0
      injection e1 with e1
      obtain ⟨n, rfl, hn⟩ := text_of (s := s0)
      obtain ⟨m, rfl, hm⟩ := text_of (s := s1)
      rw [T_size] at z0 z1
      exact ⟨(n, m), e0, e1, hn, hm, z0, z1⟩
    obtain ⟨q, hq⟩ := choose_lt each
    refine ⟨fun i => (q i).1, fun i => (q i).2, fun i hi => ?_, hl, hm⟩
    obtain ⟨hc0, hc1, _, _⟩ := hel i (by omega)
    obtain ⟨g0, g1, ha⟩ := hq i (by omega)
    obtain ⟨b, off, spot⟩ := x
    have hspot : spot = none := by
      obtain ⟨z0, _⟩ := hel 0 (by omega)
      simpa [Addr.add] using World.cell?_spot z0
    subst hspot
    have hlt := bounds_of_cell hc0
    rw [add_none] at hc0 hc1 hlt
    exact ⟨b, off, rfl, hlt, by rw [hc0, g0], by rw [Nat.add_assoc, hc1, g1], ha⟩
end Go.Proofs.Ytoplpnpimiboiaa.In8
