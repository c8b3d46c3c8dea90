/-
  What Sip, Of and the chapter's examples answer.
-/
import Derived.Test.YtmkpeidgimgdlaaSd
import Derived.Test.YtmkpeidgimgdlaaOwn
namespace Go.Proofs.Ytmkpeidgimgdlaa.Se
open Go.ChangeShapes Go.WideShapes Go.ChangeAt Go.RowKit
open Bytes8 Blk8 Own8 LeNum LeA LeB Hm Ha Hb Hc Hd He Hf Sa Sb Sm Sc Sd
set_option linter.unusedVariables false

theorem new_at (K : Nat → Int) (w : World) (n : Nat) (hn : w.heap.size + 1 = n) (hk : IdOk K) :
    Calls Try.prog 18 #[idV K] w fun e w' => e = .returned (.pointer (some ⟨n, 0, none⟩)) ∧ SumAt w' n (idL K) [] ∧ Below w.heap.size w w' := by
  subst hn; exact new_any K w hk

theorem bytes_spot {w : World} {A : Option Addr} {l : List Int} (h : Bytes w A l) {B : Nat} (hB : w.heap.size ≤ B) : 0 < l.length → ∀ b off, A = some ⟨b, off, none⟩ → b ≠ B := by
  intro hp b off e
  obtain ⟨b', off', e', hlt, _⟩ := h.spot hp
  rw [e] at e'; simp at e'; obtain ⟨rfl, rfl⟩ := e'; omega

theorem sum_below {w w' : World} {B g : Nat} {key l : List Int} (h : SumAt w g key l) (hb : Below B w w') (hg : g < B) : SumAt w' g key l := ⟨h.1, h.2.below hb hg⟩

set_option maxRecDepth 100000 in
set_option maxHeartbeats 1000000 in
theorem sip_any (K : Nat → Int) (A : Option Addr) (l : List Int) (len cap : Nat) (w : World) (hk : IdOk K) (hb : Bytes w A l) (hL : l.length = len) (hmax : len ≤ 800000) :
    Calls Try.prog 14 #[idV K, .slice A len cap] w fun e w' => e = .returned (.int .u64 (sipS (idL K) l)) ∧ Below w.heap.size w w' := by
  have HNew := Lib.hid (new_at K (w.alloc (idC 24 K)) (w.heap.size + 1 + 1) (by simp) hk)
  have HB := Lib.hid hb
  have HL := Lib.hid hL
  have HSp := Lib.hid (bytes_spot hb (B := w.heap.size + 1 + 1) (by omega))
  clear hb hL
  go_enter Try.func14, Try.ntmps14
  go_wp2_with (first | (go_at_call 18; (with_reducible refine HNew.out.mono ?_); rintro e w1 ⟨rfl, hs1, hb1⟩; have HS1 := Lib.hid hs1; clear hs1; have k1 := ((Below.refl w.heap.size w).alloc (Nat.le_refl _) (idC 24 K)).trans (hb1.mono (by simp)); have HAdd := Lib.hid (add_any K _ A [] l len cap w1 HS1.out (HB.out.below k1 (Nat.le_refl _)) HL.out (by omega) (by rw [← HL.out]; exact HSp.out))) | (go_at_call 19; (with_reducible refine HAdd.out.mono ?_); rintro e w2 ⟨rfl, hs2, hg2⟩; rw [List.nil_append] at hs2; have HV := Lib.hid (value_any K _ l w2 hs2); clear hs2) | (go_at_call 20; (with_reducible refine HV.out.mono ?_); rintro e w3 ⟨rfl, hb3⟩))
  go_ret
  have k2 := k1.grown hg2 k1.size (fun k h => by injection h with h; omega)
  exact ⟨rfl, k2.trans (hb3.mono k2.size)⟩

theorem look_all (A : Option Addr) (l : List Int) (len cap : Nat) (w : World) (hb : Bytes w A l) (hL : l.length = len) (hmax : len ≤ 800000) (hcap : len ≤ cap) (hcap2 : cap ≤ maxLen) :
    Calls Try.prog 12 #[.slice A len cap] w fun e w' => e = .returned (.int .u64 (lookS l)) ∧ Below w.heap.size w w' := by
  by_cases h0 : 0 < len
  · exact look_any A l len cap w hb hL h0 (by omega) hcap hcap2
  · obtain rfl : len = 0 := by omega
    obtain rfl : l = [] := List.eq_nil_of_length_eq_zero hL
    exact look_nil_any A cap w

theorem rlook_all (A : Option Addr) (l : List Int) (len cap : Nat) (w : World) (hb : Bytes w A l) (hL : l.length = len) (hmax : len ≤ 800000) :
    Calls Try.prog 13 #[.slice A len cap] w fun e w' => e = .returned (.int .u64 (lookS l)) ∧ w = w' := by
  by_cases h0 : 0 < len
  · exact rlook_any A l len cap w hb hL h0 (by omega)
  · obtain rfl : len = 0 := by omega
    obtain rfl : l = [] := List.eq_nil_of_length_eq_zero hL
    exact rlook_nil A cap w

/-! ## the examples -/
def cells (k : Nat) : List Value := (List.range 16).map fun i => Value.int .u8 (if i < k then (i : Int) else 0)
theorem cells_set (k : Nat) (hk : k < 16) : (cells k).set k (.int .u8 k) = cells (k + 1) := by
  unfold cells
  apply List.ext_getElem
  · simp
  · intro i h1 h2
    rw [List.getElem_set]
    by_cases e : k = i
    · subst e; simp
    · rw [if_neg e]
      simp only [List.getElem_map, List.getElem_range]
      by_cases h : i < k
      · rw [if_pos h, if_pos (by omega)]
      · rw [if_neg h, if_neg (by omega)]
def upTo (k : Nat) : List Int := (List.range k).map fun (i : Nat) => (i : Int)
theorem upTo_succ (k : Nat) : upTo (k + 1) = upTo k ++ [(k : Int)] := by simp [upTo, List.range_succ]
theorem upTo_len (k : Nat) : (upTo k).length = k := by simp [upTo]

def K16 (i : Nat) : Int := if i < 16 then (i : Int) else 0
theorem K16_ok : IdOk K16 := fun i => by unfold K16; split <;> omega
theorem sip_K16 : sipS (idL K16) (upTo 15) = 11613035633349379557 := by decide +kernel
end Go.Proofs.Ytmkpeidgimgdlaa.Se
