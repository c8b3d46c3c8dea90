/-
  A maker of numbers behind a pointer: what N answers; a pair out of it.
-/
import Derived.Test.YtmimfojlcihhaaaFo
import Derived.Test.YtmimfojlcihhaaaNumb
import Derived.Test.YtmimfojlcihhaaaRows2
namespace Go.Proofs.Ytmimfojlcihhaaa.Seq8
open Go.ChangeShapes Go.WideShapes Go.ChangeAt Go.RowKit
open Bytes8 Blk8 Fa Fb Fc Numb Rows2
set_option linter.unusedVariables false
set_option linter.unusedSimpArgs false

/-- Blocks below B, but g, are as they were. -/
structure KeptB (B g : Nat) (w w' : World) : Prop where
  os : w'.os = w.os
  tape : w'.tape = w.tape
  output : w'.output = w.output
  size : w.heap.size ≤ w'.heap.size
  block : ∀ k, k < B → k ≠ g → w'.heap[k]? = w.heap[k]?
theorem KeptB.of_below {B g : Nat} {w w' : World} (h : Below B w w') : KeptB B g w w' := ⟨h.os, h.tape, h.output, h.size, fun k hk _ => h.block k hk⟩
theorem KeptB.refl (B g : Nat) (w : World) : KeptB B g w w := KeptB.of_below (Below.refl B w)
theorem KeptB.trans {B g : Nat} {a b c : World} (h : KeptB B g a b) (k : KeptB B g b c) : KeptB B g a c :=
  ⟨k.os.trans h.os, k.tape.trans h.tape, k.output.trans h.output, Nat.le_trans h.size k.size, fun i hi hg => (k.block i hi hg).trans (h.block i hi hg)⟩
theorem KeptB.mono {B B' g : Nat} {w w' : World} (h : KeptB B g w w') (hB : B' ≤ B) : KeptB B' g w w' := ⟨h.os, h.tape, h.output, h.size, fun k hk hg => h.block k (Nat.lt_of_lt_of_le hk hB) hg⟩
theorem KeptB.below {B g : Nat} {w w' : World} (h : KeptB B g w w') (hg : B ≤ g) : Below B w w' := ⟨h.os, h.tape, h.output, h.size, fun k hk => h.block k hk (by omega)⟩
theorem KeptB.drewN {B g : Nat} {a w : World} (h : KeptB B g a w) (n : Nat) : KeptB B g a (w.drewN n) := ⟨h.os, h.tape, h.output, h.size, h.block⟩
theorem KeptB.drew {B g : Nat} {a w : World} (h : KeptB B g a w) : KeptB B g a w.drew := ⟨h.os, h.tape, h.output, h.size, h.block⟩
theorem KeptB.alloc {B g : Nat} {a w : World} (h : KeptB B g a w) (hB : B ≤ w.heap.size) (o : Obj) : KeptB B g a (w.alloc o) := h.trans (KeptB.of_below ((Below.refl B w).alloc hB o))
theorem KeptB.setCell {B g : Nat} {a w : World} (h : KeptB B g a w) {p : Addr} (hp : B ≤ p.block ∨ p.block = g) (u : Value) : KeptB B g a (w.setCell p u) :=
  h.trans ⟨rfl, rfl, rfl, by simp [World.setCell], fun k hk hg => Below.heap_setCell _ _ _ _ (by rcases hp with h | h <;> omega)⟩
theorem Blk.keptB {w w' : World} {B g k : Nat} {vs : List Value} {T : TypeId} (h : Blk w k vs T) (hk : KeptB B g w w') (h1 : k < B) (h2 : k ≠ g) : Blk w' k vs T := (hk.block k h1 h2).trans h

/-- The maker at the block gq: its numbers, and how many are told. -/
def SeqIn (w : World) (gq : Nat) (a : Option Addr) (len cap : Nat) (f : Nat → Int) (k : Nat) : Prop :=
  Blk w gq [.slice a len cap, .int .i64 (k : Int)] 48 ∧ InInts .i64 w a len f ∧ (0 < len → ∀ b off, a = some ⟨b, off, none⟩ → b ≠ gq) ∧ k ≤ len ∧ len ≤ 9223372036854775807
theorem SeqIn.below {w w' : World} {gq : Nat} {a : Option Addr} {len cap : Nat} {f : Nat → Int} {k : Nat} (h : SeqIn w gq a len cap f k) (hb : Below w.heap.size w w') : SeqIn w' gq a len cap f k :=
  ⟨h.1.below hb h.1.lt, h.2.1.below hb, h.2.2⟩

theorem ints_keptB {kk : IntKind} {w w' : World} {gq : Nat} {a : Option Addr} {len : Nat} {f : Nat → Int} (h : InInts kk w a len f) (hk : KeptB w.heap.size gq w w') (hne : 0 < len → ∀ b off, a = some ⟨b, off, none⟩ → b ≠ gq) : InInts kk w' a len f := fun i hi => by
  obtain ⟨b, off, e, h1, h2, h3⟩ := h i hi
  exact ⟨b, off, e, Nat.lt_of_lt_of_le h1 hk.size, (World.cell?_of_block (hk.block b h1 (hne (by omega) b off e))).trans h2, h3⟩

set_option maxRecDepth 100000 in
theorem seqN_any (gq : Nat) (a : Option Addr) (len cap : Nat) (f : Nat → Int) (k : Nat) (b : Int) (w : World) (hb : 1 ≤ b) (hb2 : b ≤ 1000000) (h : SeqIn w gq a len cap f k) :
    Calls Try.prog 40 #[.pointer (some ⟨gq, 0, none⟩), .int .i64 b] w fun e w' => ∃ (r k' : Nat), e = .returned (.int .i64 (r : Int)) ∧ (r : Int) < b ∧ SeqIn w' gq a len cap f k' ∧ KeptB w.heap.size gq w w' := by
  obtain ⟨hB, hI, hne, hk, hl⟩ := h
  have HB := Lib.hid hB
  have c0 := HB.out.cell (i := 0) rfl
  have c1 := HB.out.cell (i := 1) rfl
  have f1 := HB.out.frozen 1
  by_cases hlt : k < len
  · obtain ⟨bb, off, rfl, hbl, hc, hwf⟩ := hI k hlt
    have hbq := hne (by omega) bb off rfl
    obtain ⟨r, hr, hrb⟩ := below_nat (f k) b hb
    have HNum := Lib.hid fun w => number_nat (f k) b r w hb (by omega) hr.out
    have hkk : ¬ (len : Int) ≤ (k : Int) := by omega
    have hset : ∀ v, (w.setCell ⟨gq, 1, none⟩ v).cell? ⟨bb, off + k, none⟩ = some (.int .i64 (f k)) := fun v => by
      rw [← hc]; exact World.cell?_of_block (Below.heap_setCell _ _ _ _ hbq)
    have HI := Lib.hid hI
    have HNe := Lib.hid hne
    have hm : Try.prog.follows .mixedOrders = true := by kernel_rfl
    clear hI hne hB hr hwf
    generalize f k = x at *
    go_enter Try.func40, Try.ntmps40
    go_wp2_with fail
    go_quiet (fail)
    obtain ⟨nq_1, hnq⟩ : ∃ x, x = nq := ⟨_, rfl⟩
    rw [← hnq]
    clear hnq nq
    go_wp2_with fail
    go_quiet ((go_at_call 47; exact quiet_kept (HNum.out _)))
    have HK := Lib.hid ((((KeptB.refl w.heap.size gq w).drewN nq_1).setCell (Or.inr rfl) (.int .i64 ((k : Int) + 1)) (p := ⟨gq, 1, none⟩)).drewN nq)
    go_wp2
    go_ret
    refine ⟨r, k + 1, rfl, hrb, ⟨?_, ints_keptB HI.out HK.out HNe.out, HNe.out, by omega, hl⟩, HK.out⟩
    exact ((HB.out.drewN _).set_ 1 _).drewN _
  · have hkk : (len : Int) ≤ (k : Int) := by omega
    have HI := Lib.hid hI
    have HNe := Lib.hid hne
    clear hI hne hB
    go_enter Try.func40, Try.ntmps40
    go_wp2_with fail
    go_quiet (fail)
    go_wp2
    go_ret
    refine ⟨0, k, rfl, by omega, ⟨HB.out.drewN _, HI.out, HNe.out, hk, hl⟩, (KeptB.refl _ _ _).drewN _⟩

/-! ## the few names and values -/
abbrev nameLs : List (List Int) := [[65], [66], [77, 69, 83, 83, 65, 71, 69], [95, 80, 73, 68], [88, 95, 49], [80, 82, 73, 79, 82, 73, 84, 89]]
abbrev valueLs : List (List Int) := [[], [48], [49], [50, 50], [97, 61, 98], [111, 110, 101, 10, 116, 119, 111], [0, 255], [116, 97, 98, 9, 104, 101, 114, 101], [108, 111, 110, 103, 32, 108, 111, 110, 103, 32, 108, 111, 110, 103, 32, 108, 111, 110, 103, 32, 108, 111, 110, 103, 32, 108, 111, 110, 103, 32, 108, 111, 110, 103], [126, 127, 128]]
def texts (ls : List (List Int)) : List Value := ls.map fun l => .string (T l)
theorem names_ok : ∀ n ∈ nameLs, AllB n ∧ nmB n = true := by
  intro n hn
  have h : nameLs.all (fun n => n.all (fun x => decide (0 ≤ x) && decide (x < 256)) && nmB n) = true := by decide +kernel
  have := List.all_eq_true.1 h n hn
  simp only [Bool.and_eq_true] at this
  exact ⟨Ff.small_all this.1, this.2⟩
theorem values_ok : ∀ v ∈ valueLs, AllB v ∧ v.length ≤ 256 := by
  intro n hn
  have h : valueLs.all (fun n => n.all (fun x => decide (0 ≤ x) && decide (x < 256)) && decide (n.length ≤ 256)) = true := by decide +kernel
  have := List.all_eq_true.1 h n hn
  simp only [Bool.and_eq_true, decide_eq_true_eq] at this
  exact ⟨Ff.small_all this.1, this.2⟩
theorem flaw_ok {n v : List Int} (hn : nmB n = true) (hv : v.length ≤ 256) : flawI n v = 0 := by
  unfold flawI; rw [if_pos hn, if_neg (by omega)]

theorem names_any (w : World) : Calls Try.prog 39 #[] w fun e w' => e = .returned (.slice (some ⟨w.heap.size, 0, none⟩) 6 6) ∧ Blk w' w.heap.size (texts nameLs) 9 ∧ Below w.heap.size w w' ∧ w'.heap.size = w.heap.size + 1 := by
  have h : texts nameLs = [.string { data := #[65] }, .string { data := #[66] }, .string { data := #[77, 69, 83, 83, 65, 71, 69] }, .string { data := #[95, 80, 73, 68] }, .string { data := #[88, 95, 49] }, .string { data := #[80, 82, 73, 79, 82, 73, 84, 89] }] := rfl
  rw [h]
  go_enter Try.func39, Try.ntmps39
  go_wp2
  go_ret
  exact ⟨rfl, Blk.new w _ _, (Below.refl _ _).alloc (Nat.le_refl _) _, by simp⟩
set_option maxRecDepth 10000 in
theorem values_any (w : World) : Calls Try.prog 41 #[] w fun e w' => e = .returned (.slice (some ⟨w.heap.size, 0, none⟩) 10 10) ∧ Blk w' w.heap.size (texts valueLs) 9 ∧ Below w.heap.size w w' ∧ w'.heap.size = w.heap.size + 1 := by
  have h : texts valueLs = [.string { data := #[] }, .string { data := #[48] }, .string { data := #[49] }, .string { data := #[50, 50] }, .string { data := #[97, 61, 98] }, .string { data := #[111, 110, 101, 10, 116, 119, 111] }, .string { data := #[0, 255] }, .string { data := #[116, 97, 98, 9, 104, 101, 114, 101] }, .string { data := #[108, 111, 110, 103, 32, 108, 111, 110, 103, 32, 108, 111, 110, 103, 32, 108, 111, 110, 103, 32, 108, 111, 110, 103, 32, 108, 111, 110, 103, 32, 108, 111, 110, 103] }, .string { data := #[126, 127, 128] }] := rfl
  rw [h]
  go_enter Try.func41, Try.ntmps41
  go_wp2
  go_ret
  exact ⟨rfl, Blk.new w _ _, (Below.refl _ _).alloc (Nat.le_refl _) _, by simp⟩
end Go.Proofs.Ytmimfojlcihhaaa.Seq8
