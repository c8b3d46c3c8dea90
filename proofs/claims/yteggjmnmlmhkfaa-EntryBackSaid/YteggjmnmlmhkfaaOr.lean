/-
  The body of the object at a place: the document's own.
-/
import Derived.Test.YteggjmnmlmhkfaaOh
namespace Go.Proofs.Yteggjmnmlmhkfaa.Oi
open Go.ChangeShapes Go.WideShapes Go.ChangeAt Go.RowKit
open Bytes8 Blk8 Own8 OwnM OwnE LeA LeAl LeNum LeB LeP RefA RefB Ob Oc Od Og Oh
set_option linter.unusedVariables false
set_option maxRecDepth 100000
set_option linter.unusedSimpArgs false

theorem made_at (w : World) (base g : Nat) (h : base ≤ w.heap.size) (hg : w.heap.size = g) : Own (w.alloc (.cells #[] 5)) base (some ⟨g, 0, none⟩) 0 0 [] := hg ▸ Own.made w base h

theorem body_there {l : List Int} {a n : Nat} (hL : l.length = n) (h : code l a = 0) : ∃ m : Nat, sizeL l a = ((16 + m : Nat) : Int) ∧ (bodyL l a).length = m ∧ a + 16 + m ≤ n ∧ bodyL l a = (l.drop (a + 16)).take m ∧ a % 8 = 0 := by
  have hf := code_fine h
  have hs : sizeL l a = u8 l (a + 8) := by unfold sizeL; rw [if_pos h]
  have hl := body_len h
  refine ⟨(sizeL l a).toNat - 16, by omega, by omega, by omega, rfl, hf.1⟩

/-- What the document's body tells. -/
def RBodyNew (l : List Int) (a : Nat) (k : Int) (w : World) (e : Ending) (w' : World) : Prop :=
  ∃ B m cb, e = .returned (.tuple #[.slice B m cb, .int .i64 (if code l a ≠ 0 then code l a else if kindL l a ≠ k then 4 else 0)]) ∧ Below w.heap.size w w' ∧ (code l a = 0 → kindL l a = k → Bytes w' B (bodyL l a) ∧ (bodyL l a).length = m ∧ m ≤ cb ∧ cb ≤ maxLen ∧ m ≤ 1000000 ∧ ∀ x, B = some x → w.heap.size ≤ x.block ∧ x.spot = none)

set_option maxHeartbeats 4000000 in
theorem rbody_new (A : Option Addr) (l : List Int) (n cap a : Nat) (k : Int) (w : World) (hb : Bytes w A l) (hL : l.length = n) (hn : n ≤ 1000000) (hc : n ≤ cap) (hcm : cap ≤ maxLen) (ha : a ≤ 18446744073709551615) :
    Calls Try.prog 33 #[.slice A n cap, .int .u64 (a : Int), .int .i64 k] w (RBodyNew l a k w) := by
  have HR := Lib.hid (rread_any A l n cap a w hb hL hn ha)
  unfold FrTold at HR
  unfold RBodyNew
  by_cases h1 : code l a ≠ 0
  · rw [if_pos h1]
    generalize code l a = cd at *
    generalize kindL l a = kd at *
    generalize sizeL l a = s at *
    have HX : Hid (cd ≠ 0) := Lib.hid h1
    clear hb hL
    go_enter Try.func33, Try.ntmps33
    go_wp2_with (go_at_call 45; (with_reducible refine HR.out.mono ?_); rintro e w2 ⟨rfl, hbel⟩; have HB := Lib.hid hbel; clear hbel)
    go_ret2
    exact ⟨none, 0, 0, rfl, HB.out.alloc HB.out.size _, fun h => absurd h HX.out⟩
  have h0 : code l a = 0 := by omega
  obtain ⟨m, hs, hbl, hfit, hbody, _⟩ := body_there hL h0
  rw [if_neg h1]
  have hs2 : sizeL l a = 16 + (m : Int) := by omega
  rw [h0, hs2] at HR
  by_cases h2 : kindL l a ≠ k
  · rw [if_pos h2]
    have HX := Lib.hid h2
    generalize kindL l a = kd at *
    clear hb hL hs hs2 hbl hbody h1 h0
    go_enter Try.func33, Try.ntmps33
    go_wp2_with (go_at_call 45; (with_reducible refine HR.out.mono ?_); rintro e w2 ⟨rfl, hbel⟩; have HB := Lib.hid hbel; clear hbel)
    go_ret2
    exact ⟨none, 0, 0, rfl, HB.out.alloc HB.out.size _, fun _ h => absurd h HX.out⟩
  have h2' : kindL l a = k := by omega
  rw [if_neg h2]
  rw [h2'] at HR
  have hcut := cutu_lh A n cap (a + 16) (a + 16 + m) ((a : Int) + 16) ((a : Int) + (16 + (m : Int))) (by omega) (by omega) (by omega) (by omega)
  have HBC := Lib.hid (Bytes.cut hb cap (a + 16) m (by omega))
  rw [← hbody] at HBC
  rw [show a + 16 + m - (a + 16) = m by omega] at hcut
  generalize cap - (a + 16) = cb at *
  generalize cutA A cap (a + 16) = C at *
  have HBl := Lib.hid hbl
  have ham : a + 16 + m ≤ 1000000 := by omega
  unfold maxLen at hcm
  clear hb hL hs hs2 hbl hbody h1 h0 h2 h2'
  go_enter Try.func33, Try.ntmps33
  go_wp2_with (first
    | (go_at_call 45; (with_reducible refine HR.out.mono ?_); rintro e w2 ⟨rfl, hbel⟩; have HB := Lib.hid (hbel.alloc hbel.size (.cells #[.int .i64 k, .int .i64 0, .int .u64 (16 + (m : Int))] 99)); clear hbel)
    | (at_builtin; refine wpList_append_bytes rfl (.tmp 23) (.tmp 31) rfl w.heap.size _ 0 0 [] rfl (made_at _ w.heap.size (w2.heap.size + 1) HB.out.size (by simp)) C m cb (bodyL l a) rfl (HBC.out.below (HB.out.alloc HB.out.size _) (Nat.le_refl _)) HBl.out (by omega) ?_; intro A2 c2 w3 ho2 hbel2; rw [Nat.zero_add, List.nil_append] at ho2; rw [Nat.zero_add]; have HO2 := Lib.hid ho2; have HB2 := Lib.hid hbel2; clear ho2 hbel2))
  go_ret2
  refine ⟨A2, m, c2, rfl, (HB.out.alloc HB.out.size _).trans HB2.out, fun _ _ => ⟨HO2.out.bytes, HBl.out, (own_cap HO2.out).1, (own_cap HO2.out).2, by omega, fun x h => ?_⟩⟩
  subst h
  rcases HO2.out.2.2.2.2 with ⟨he, _⟩ | ⟨g, cap2, cur, he, hg, _⟩
  · cases he
  · injection he with e1
    injection e1 with e1
    subst e1
    exact ⟨hg, rfl⟩
end Go.Proofs.Yteggjmnmlmhkfaa.Oi
