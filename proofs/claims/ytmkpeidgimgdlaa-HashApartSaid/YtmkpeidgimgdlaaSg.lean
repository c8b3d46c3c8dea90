/-
  What Of, and the document's own Of, answer; a boxed key kept.
-/
import Derived.Test.YtmkpeidgimgdlaaSf
import Derived.Test.YtmkpeidgimgdlaaNumb
namespace Go.Proofs.Ytmkpeidgimgdlaa.Sg
open Go.ChangeShapes Go.WideShapes Go.ChangeAt Go.RowKit
open Bytes8 Blk8 Own8 LeNum LeA LeB Hm Ha Hb Hc Hd He Hf Sa Sb Sm Sc Sd Se Sf
set_option linter.unusedVariables false

def ofS (t : Bool) (key l : List Int) : Int := if t then sipS key l else lookS l

theorem of_any (t : Bool) (K : Nat → Int) (A : Option Addr) (l : List Int) (len cap : Nat) (w : World) (hk : IdOk K) (hb : Bytes w A l) (hL : l.length = len) (hmax : len ≤ 800000) (hcap : len ≤ cap) (hcap2 : cap ≤ maxLen) :
    Calls Try.prog 16 #[.bool t, idV K, .slice A len cap] w fun e w' => e = .returned (.int .u64 (ofS t (idL K) l)) ∧ Below w.heap.size w w' := by
  have HB := Lib.hid hb
  cases t with
  | true =>
    have HC := Lib.hid (sip_any K A l len cap (w.alloc (idC 24 K)) hk (hb.below ((Below.refl _ _).alloc (Nat.le_refl _) _) (Nat.le_refl _)) hL hmax)
    clear hb
    go_enter Try.func16, Try.ntmps16
    go_wp2_with (go_at_call 14; (with_reducible refine HC.out.mono ?_); rintro e w1 ⟨rfl, hb1⟩)
    go_ret
    exact ⟨rfl, ((Below.refl w.heap.size w).alloc (Nat.le_refl _) _).trans (hb1.mono (by simp))⟩
  | false =>
    have HC := Lib.hid (look_all A l len cap (w.alloc (idC 24 K)) (hb.below ((Below.refl _ _).alloc (Nat.le_refl _) _) (Nat.le_refl _)) hL hmax hcap hcap2)
    clear hb hcap2
    go_enter Try.func16, Try.ntmps16
    go_wp2_with (go_at_call 12; (with_reducible refine HC.out.mono ?_); rintro e w1 ⟨rfl, hb1⟩)
    go_ret
    exact ⟨rfl, ((Below.refl w.heap.size w).alloc (Nat.le_refl _) _).trans (hb1.mono (by simp))⟩

theorem rof_any (t : Bool) (K : Nat → Int) (A : Option Addr) (l : List Int) (len cap : Nat) (w : World) (hk : IdOk K) (hb : Bytes w A l) (hL : l.length = len) (hmax : len ≤ 800000) :
    Calls Try.prog 17 #[.bool t, idV K, .slice A len cap] w fun e w' => e = .returned (.int .u64 (ofS t (idL K) l)) ∧ Below w.heap.size w w' := by
  have HB := Lib.hid hb
  cases t with
  | true =>
    have HC := Lib.hid (rsip_any K A l len cap (w.alloc (idC 24 K)) hk (hb.below ((Below.refl _ _).alloc (Nat.le_refl _) _) (Nat.le_refl _)) hL hmax)
    clear hb
    go_enter Try.func17, Try.ntmps17
    go_wp2_with (go_at_call 15; (with_reducible refine HC.out.mono ?_); rintro e w1 ⟨rfl, hb1⟩)
    go_ret
    exact ⟨rfl, ((Below.refl w.heap.size w).alloc (Nat.le_refl _) _).trans (hb1.mono (by simp))⟩
  | false =>
    have HC := Lib.hid (rlook_all A l len cap (w.alloc (idC 24 K)) (hb.below ((Below.refl _ _).alloc (Nat.le_refl _) _) (Nat.le_refl _)) hL hmax)
    clear hb
    go_enter Try.func17, Try.ntmps17
    go_wp2_with (go_at_call 13; (with_reducible refine HC.out.mono ?_); rintro e w' ⟨rfl, rfl⟩)
    go_ret
    exact ⟨rfl, (Below.refl w.heap.size w).alloc (Nat.le_refl _) _⟩

/-- A boxed key. -/
abbrev KeyAt (w : World) (g : Nat) (K : Nat → Int) : Prop := Blk w g ((idL K).map (Value.int .u8)) 24
theorem key_boxed (w : World) (K : Nat → Int) : KeyAt (w.alloc (idC 24 K)) w.heap.size K := Blk.new w _ _
end Go.Proofs.Ytmkpeidgimgdlaa.Sg
