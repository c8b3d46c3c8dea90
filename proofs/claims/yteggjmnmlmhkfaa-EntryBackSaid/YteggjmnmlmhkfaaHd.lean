/-
  What Lookup answers: the hash of the bytes that the slice has.
-/
import Derived.Test.YteggjmnmlmhkfaaHc
import Derived.Deep.RegionLaw
import Derived.Deep.RegionWith
import Derived.Deep.DeepMust
namespace Go.Proofs.Yteggjmnmlmhkfaa.Hd
open Go.ChangeShapes Go.WideShapes Go.ChangeAt Go.RowKit
open Bytes8 Blk8 LeNum LeA LeB Hm Ha Hb Hc
set_option linter.unusedVariables false
set_option maxRecDepth 100000

theorem look_nil_any (A : Option Addr) (cap : Nat) (w : World) :
    Calls Try.prog 40 #[.slice A 0 cap] w fun e w' => e = .returned (.int .u64 (lookS [])) ∧ Below w.heap.size w w' := by
  have h0 : (⟨3735928559, 3735928559, 3735928559⟩ : Trio).ok := by unfold Trio.ok; decide
  go_enter Try.func40, Try.ntmps40
  go_wp2_with (go_at_call 52; (with_reducible refine (answer_any _ _ _ _ h0).mono ?_); rintro e w1 ⟨rfl, hbel⟩)
  go_ret
  refine ⟨ret_int (by decide +kernel), ?_⟩
  have h1 := ((Below.refl w.heap.size w).alloc (Nat.le_refl _) (.cells #[.int .u32 3735928559, .int .u32 3735928559, .int .u32 3735928559] 106))
  exact h1.trans (hbel.mono h1.size)

def Rest (w0 : World) (g : Nat) (t : Trio) (w : World) : Prop := Blk w g [.int .u32 t.x, .int .u32 t.y, .int .u32 t.z] 106 ∧ Below w0.heap.size w0 w

theorem w4_drop (l : List Int) (k o : Nat) : w4 (l.drop k) o = w4 l (k + o) := by simp [w4, List.drop_drop]
theorem w4_take (l : List Int) (n o : Nat) (h : o + 4 ≤ n) : w4 (l.take n) o = w4 l o := by
  unfold w4
  rw [List.drop_take, List.take_take, Nat.min_eq_left (by omega)]
theorem plus3_drop (t : Trio) (l : List Int) (k : Nat) : plus3 t (l.drop k) 0 = plus3 t l k := by
  simp only [plus3, w4_drop, Nat.add_zero]
theorem plus3_take (t : Trio) (l : List Int) : plus3 t (l.take 12) 0 = plus3 t l 0 := by
  simp only [plus3, w4_take l 12 0 (by omega), w4_take l 12 (0 + 4) (by omega), w4_take l 12 (0 + 8) (by omega)]

theorem plus_block (t : Trio) (a : Option Addr) (l : List Int) (cap : Nat) (w : World) (hb : Bytes w a l) (hlen : 12 ≤ l.length) (ht : t.ok) :
    Calls Try.prog 53 #[.agg #[.int .u32 t.x, .int .u32 t.y, .int .u32 t.z], .slice a 12 cap] w fun e w' => e = .returned (.agg #[.int .u32 (plus3 t l 0).x, .int .u32 (plus3 t l 0).y, .int .u32 (plus3 t l 0).z]) ∧ Below w.heap.size w w' := by
  have hb' : Bytes w a (l.take 12) := by
    have h := hb.part 0 12 a (fun b off e _ _ => by rw [e]; rfl)
    rwa [List.drop_zero] at h
  have h := plus_any t.x t.y t.z a (l.take 12) 12 cap w hb' (by simp; omega) (by decide) ht
  rw [plus3_take] at h
  exact h
theorem mixed_block (t : Trio) (w : World) (ht : t.ok) :
    Calls Try.prog 54 #[.agg #[.int .u32 t.x, .int .u32 t.y, .int .u32 t.z]] w fun e w' => e = .returned (.agg #[.int .u32 (mix t).x, .int .u32 (mix t).y, .int .u32 (mix t).z]) ∧ Below w.heap.size w w' := mixed_any t.x t.y t.z w ht

theorem rest_step (w0 w : World) (t t' t2 : Trio) (he : t2 = t') (h : Blk w w0.heap.size [.int .u32 t.x, .int .u32 t.y, .int .u32 t.z] 106) (hb : Below w0.heap.size w0 w) :
    Rest w0 w0.heap.size t2 (((w.setCell ⟨w0.heap.size, 0, none⟩ (.int .u32 t'.x)).setCell ⟨w0.heap.size, 1, none⟩ (.int .u32 t'.y)).setCell ⟨w0.heap.size, 2, none⟩ (.int .u32 t'.z)) := by
  subst he
  exact ⟨((h.set_ 0 _).set_ 1 _).set_ 2 _, ((hb.setCell (Nat.le_refl _) _).setCell (Nat.le_refl _) _).setCell (Nat.le_refl _) _⟩
theorem trioAt_succ (l : List Int) (k : Nat) : trioAt l (k + 1) = mix (plus3 (trioAt l k) (l.drop (12 * k)) 0) := by
  rw [plus3_drop]; rfl

set_option maxHeartbeats 1000000 in
theorem look_any (A : Option Addr) (l : List Int) (len cap : Nat) (w : World) (hb : Bytes w A l) (hL : l.length = len) (hpos : 0 < len) (hmax : len ≤ 1000000) (hcap : len ≤ cap) (hcap2 : cap ≤ maxLen) :
    Calls Try.prog 40 #[.slice A len cap] w fun e w' => e = .returned (.int .u64 (lookS l)) ∧ Below w.heap.size w w' := by
  unfold maxLen at hcap2
  obtain ⟨b, off, rfl, hlt, hc⟩ := hb.spot (by omega)
  clear hlt hc
  have HB := Lib.hid hb
  have HL := Lib.hid hL
  clear hb hL
  have HS := Lib.hid (show lookInit l = ⟨3735928559 + (len : Int), 3735928559 + (len : Int), 3735928559 + (len : Int)⟩ by
    have e : add32 3735928559 (l.length : Int) = 3735928559 + (len : Int) := by have := HL.out; unfold add32; omega
    unfold lookInit; rw [e])
  have hne : ((len : Int) == 0) = false := by simp; omega
  go_enter Try.func40, Try.ntmps40
  go_wp2
  go_loopw [0] (fun s wr => ∃ k n c : Nat, Hid (len = 12 * k + n ∧ cap = 12 * k + c) ∧ 0 < n ∧ n ≤ len ∧ c ≤ cap ∧ n ≤ c ∧ s = .slice (some ⟨b, off + 12 * k, none⟩) n c ∧ Hid (Rest w w.heap.size (trioAt l k) wr)) (fun s _ => match s with | .slice _ n _ => n | _ => 0)
  case atStart => exact ⟨0, len, cap, Lib.hid ⟨by omega, by omega⟩, hpos, Nat.le_refl _, Nat.le_refl _, hcap, rfl, by show Hid (Rest _ _ (lookInit l) _); rw [HS.out]; exact ⟨Blk.new _ _ _, (Below.refl _ _).alloc (Nat.le_refl _) _⟩⟩
  case round =>
    obtain ⟨k, n, c, hn, hn0, hn1, hc1, hnc, rfl, hr⟩ := hrel
    have R1 := Lib.hid hr.out.1
    have R2 := Lib.hid hr.out.2
    have g0 := hr.out.1.cell (i := 0) rfl
    have g1 := hr.out.1.cell (i := 1) rfl
    have g2 := hr.out.1.cell (i := 2) rfl
    have hz := hr.out.2.size
    have hlt := hr.out.1.lt
    have HK := Lib.hid (HB.out.part (12 * k) n (some ⟨b, off + 12 * k, none⟩) (fun b' off' e _ _ => by simp at e; obtain ⟨rfl, rfl⟩ := e; rfl))
    rw [List.take_of_length_le (by have := HL.out; have := hn.out.1; simp; omega)] at HK
    have HKl := Lib.hid (show (l.drop (12 * k)).length = n by have := HL.out; have := hn.out.1; simp; omega)
    have HKd := Lib.hid (HK.out.below R2.out (Nat.le_refl _)).drew
    by_cases h12 : 12 < n
    · have H12 := Lib.hid (show 12 ≤ (l.drop (12 * k)).length by have := HKl.out; omega)
      have hd : decide ((12 : Int) < (n : Int)) = true := by simp; omega
      go_wp2
      go_region_with (first | (go_at_call 53; (with_reducible refine (plus_block (trioAt l k) _ (l.drop (12 * k)) _ _ HKd.out H12.out (trioAt_ok l k)).mono ?_); rintro e w2 ⟨rfl, hb2⟩) | (go_at_call 54; (with_reducible refine (mixed_block _ _ (plus3_ok _ _ _)).mono ?_); rintro e w3 ⟨rfl, hb3⟩; have hR3 := Lib.hid ((R1.out.drew.below hb2 hlt).below hb3 (Nat.lt_of_lt_of_le hlt hb2.size)); have e0 := hR3.out.cell (i := 0) rfl; have e1 := hR3.out.cell (i := 1) rfl; have e2 := hR3.out.cell (i := 2) rfl; have f0 := hR3.out.frozen 0; have f1 := hR3.out.frozen 1; have f2 := hR3.out.frozen 2))
      all_goals
        go_wp2
        go_roundw
        case rel =>
          have := hn.out.1
          have := hn.out.2
          refine ⟨k + 1, n - 12, c - 12, Lib.hid ⟨by omega, by omega⟩, by omega, by omega, by omega, by omega, by first | rfl | (congr 3; omega), ?_⟩
          exact rest_step w w3 (trioAt l k) _ _ (trioAt_succ l k) hR3.out ((R2.out.drew.trans (hb2.mono hz)).trans (hb3.mono (Nat.le_trans hz hb2.size)))
        case measure => simp; omega
    · have hd : decide ((12 : Int) < (n : Int)) = false := by simp; omega
      have HE := Lib.hid (show (l.length - 1) / 12 = k by rw [HL.out, hn.out.1]; omega)
      have hS := Lib.hid (show lookS l = ans (fin (plus3 (trioAt l k) (l.drop (12 * k)) 0)) by
        unfold lookS
        rw [if_neg (by intro h; have := HL.out; have := hn.out.1; rw [h] at *; simp at *; omega), HE.out, plus3_drop])
      go_wp2_with (first | (go_at_call 53; (with_reducible refine (plus_any (trioAt l k).x (trioAt l k).y (trioAt l k).z _ (l.drop (12 * k)) _ _ _ (HK.out.below R2.out (Nat.le_refl _)) HKl.out (by omega) (trioAt_ok l k)).mono ?_); rintro e w2 ⟨rfl, hb2⟩) | (go_at_call 55; (with_reducible refine (finished_any _ _ _ _ (plus3_ok _ _ _)).mono ?_); rintro e w3 ⟨rfl, hb3⟩) | (go_at_call 52; (with_reducible refine (answer_any _ _ _ _ (fin_ok _)).mono ?_); rintro e w4 ⟨rfl, hb4⟩))
      go_ret
      refine ⟨ret_int hS.out.symm, ?_⟩
      have h3 := R2.out.trans (hb2.mono hz)
      have h4 := h3.trans (hb3.mono h3.size)
      exact h4.trans (hb4.mono h4.size)
end Go.Proofs.Yteggjmnmlmhkfaa.Hd
