/-
  What the program reads: the items of an entry, whether they rise; a table's slots; an array's items.
-/
import Derived.Test.YteggjmnmlmhkfaaYe
import Derived.Deep.CutBlock
namespace Go.Proofs.Yteggjmnmlmhkfaa.Yf
open Go.ChangeShapes Go.WideShapes Go.ChangeAt Go.RowKit
open Bytes8 Blk8 Own8 OwnM OwnE OwnA LeA LeAl LeNum LeB LeP RefA RefB Ob Oc Od Oe Og Oi Rows2 Kf Yc Yp Yd Ye
set_option linter.unusedVariables false
set_option linter.unusedSimpArgs false
set_option maxRecDepth 100000

/-- Pairs of numbers in new memory. -/
def New2 (f h : Nat → Int) (m : Nat) (w : World) (A : Option Addr) (w' : World) : Prop := ∃ g, A = some ⟨g, 0, none⟩ ∧ w.heap.size ≤ g ∧ g < w'.heap.size ∧ In2 w' A m f h

set_option maxHeartbeats 4000000 in
theorem itemsOf_any (A : Option Addr) (l : List Int) (n cap m : Nat) (w : World) (hb : Bytes w A l) (hL : l.length = n) (hn : n ≤ 1000000) (hm : n / 16 = m) :
    Calls Try.prog 31 #[.slice A n cap] w fun e w' => ∃ A', e = .returned (.slice A' m m) ∧ New2 (taA l) (taB l) m w A' w' ∧ Below w.heap.size w w' := by
  have hq : IntKind.i64.wrap ((n : Int).tdiv 16) = (m : Int) := by rw [Int.tdiv_eq_ediv_of_nonneg (by omega), IntKind.wrap_i64]; omega
  have hq1 : (n : Int).tdiv 16 = (m : Int) := by rw [Int.tdiv_eq_ediv_of_nonneg (by omega)]; omega
  have hmk := make_two 27 56 Try.underlying27 itemInfo m (m : Int) rfl (by omega)
  have P0 := Lib.hid (Part2.new w m (taA l) (taB l) 56)
  have B0 := Lib.hid ((Below.refl w.heap.size w).alloc (Nat.le_refl _) (.cells (Array.replicate (m * 2) (Value.int .u64 0)) 56))
  have HN := Lib.hid fun (W : World) (i : Nat) (z : Int) (h : Below w.heap.size w W) (hi : i + 8 ≤ n) (hz : z = (i : Int)) => number_e A l n cap i z W (hb.below h (Nat.le_refl _)) hL hn hi hz
  have HA := Lib.hid hb.1
  clear hb hL
  unfold New2
  go_enter Try.func31, Try.ntmps31
  go_wp2
  go_loopw [11] (fun i wr => ∃ k : Nat, k ≤ m ∧ i = .int .i64 (k : Int) ∧ Hid (Part2 wr w.heap.size m k (taA l) (taB l) 56) ∧ Hid (Below w.heap.size w wr)) (fun i _ => m - (intOf i).toNat)
  case atStart => exact ⟨0, Nat.zero_le _, rfl, P0, B0⟩
  case round =>
    obtain ⟨k, hk, rfl, hp, hb⟩ := hrel
    by_cases hlt : k < m
    · obtain ⟨⟨v1, v2, c1, c2⟩, f1, f2⟩ := hp.out.cells hlt
      have HS := Lib.hid (hp.out.step hlt)
      have hp1 : taA l k = u8 l (16 * k) := rfl
      have hp2 : taB l k = u8 l (16 * k + 8) := rfl
      rw [hp1, hp2] at HS
      go_wp2_with (first
        | (go_at_call 30; (with_reducible refine (HN.out _ (16 * k) _ hb.out (by omega) (by omega)).mono ?_); rintro e w' ⟨rfl, rfl⟩)
        | (go_at_call 30; (with_reducible refine (HN.out _ (16 * k + 8) _ hb.out (by omega) (by omega)).mono ?_); rintro e w' ⟨rfl, rfl⟩))
      go_roundw
      case rel => exact ⟨k + 1, by omega, by go_num, HS, Lib.hid ((hb.out.setCell (Nat.le_refl _) _).setCell (Nat.le_refl _) _)⟩
      case measure => simp [intOf]; omega
    · obtain rfl : k = m := by omega
      go_wp2
      go_ret
      exact ⟨_, rfl, ⟨w.heap.size, rfl, Nat.le_refl _, hp.out.lt, hp.out.in2 (fun i => u8_bd HA.out _) (fun i => u8_bd HA.out _)⟩, hb.out⟩

set_option maxHeartbeats 2000000 in
theorem rise_any (A : Option Addr) (n cap : Nat) (f h : Nat → Int) (w : World) (hi : In2 w A n f h) (hn : n ≤ 1000000) :
    Calls Try.prog 32 #[.slice A n cap] w fun e w' => e = .returned (.bool (risB f n)) ∧ Below w.heap.size w w' := by
  have HI := Lib.hid hi
  obtain ⟨z, hz⟩ : ∃ z, z = risB f n := ⟨_, rfl⟩
  rw [← hz]
  have HZ := Lib.hid hz
  clear hi hz
  go_enter Try.func32, Try.ntmps32
  go_wp2
  go_loopw [3] (fun i wr => ∃ k : Nat, 1 ≤ k ∧ (k ≤ n ∨ k = 1) ∧ i = .int .i64 (k : Int) ∧ Hid (risB f k = true) ∧ Hid (Below w.heap.size w wr)) (fun i _ => n - (intOf i).toNat)
  case atStart => exact ⟨1, Nat.le_refl _, .inr rfl, rfl, Lib.hid rfl, Lib.hid (Below.refl _ _)⟩
  case round =>
    obtain ⟨k, hk1, hk, rfl, hr, hb⟩ := hrel
    by_cases hlt : k < n
    · obtain ⟨j, rfl⟩ : ∃ j, k = j + 1 := ⟨k - 1, by omega⟩
      obtain ⟨b, off, ea, hb1, c1, _, _, _⟩ := (HI.out.keep hb.out) (j + 1) hlt
      obtain ⟨b2, off2, eb, _, d1, _, _, _⟩ := (HI.out.keep hb.out) j (by omega)
      rw [ea] at eb
      simp at eb
      obtain ⟨rfl, rfl⟩ := eb
      subst ea
      have hs := risB_succ f (j + 1) (by omega)
      rw [hr.out, Bool.true_and] at hs
      have hm := fun h => risB_mono (f := f) (n := n) (m := j + 2) h (by omega)
      have c1' := (show wr.drew.cell? ⟨b, off + (j + 1) * 2, none⟩ = some (.int .u64 (f (j + 1))) from c1)
      have d1' := (show wr.drew.cell? ⟨b, off + j * 2, none⟩ = some (.int .u64 (f j)) from d1)
      have hw : IntKind.i64.wrap (((j + 1 : Nat) : Int) - 1) = (j : Int) := by rw [IntKind.wrap_i64]; omega
      have hw1 : ((j + 1 : Nat) : Int) - 1 = (j : Int) := by omega
      have hnn : (0 : Int) ≤ ((j + 1 : Nat) : Int) := by omega
      by_cases hle : f (j + 1) ≤ f j
      · have hf : risB f n = false := by
          cases hq : risB f n with
          | false => rfl
          | true => have := hm hq; rw [hs] at this; simp at this; omega
        have hzf : z = false := HZ.out.trans hf
        subst hzf
        clear hf hm hs hr
        go_wp2
        go_region
        all_goals
          go_wp2
          go_ret
          exact ⟨rfl, hb.out.drew⟩
      · have hs2 : risB f (j + 2) = true := by rw [hs]; simp; omega
        have HS2 := Lib.hid hs2
        clear hs2 hs hm
        go_wp2
        go_region
        all_goals
          go_wp2
          go_roundw
          case rel => exact ⟨j + 2, by omega, by omega, by go_num, HS2, Lib.hid hb.out.drew⟩
          case measure => simp [intOf]; omega
    · have : risB f n = true := by
        rcases hk with h | h
        · obtain rfl : k = n := by omega
          exact hr.out
        · subst h
          have : n = 0 ∨ n = 1 := by omega
          rcases this with rfl | rfl <;> rfl
      have hzf : z = true := HZ.out.trans this
      subst hzf
      clear this
      go_wp2
      go_ret
      exact ⟨rfl, hb.out⟩
end Go.Proofs.Yteggjmnmlmhkfaa.Yf
