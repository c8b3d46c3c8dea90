/-
  What Seal, Open, a copy, and the chapter's example answer: the program's and the document's own.
-/
import Derived.Test.YtmkpeidgimgdlaaCa
import Derived.Test.YtmkpeidgimgdlaaRefB
import Derived.Test.YtmkpeidgimgdlaaNumb
import Derived.Lib.SliceRun
import Derived.Lib.SlBytesConst
namespace Go.Proofs.Ytmkpeidgimgdlaa.Cb
open Go.ChangeShapes Go.WideShapes Go.ChangeAt Go.RowKit
open Bytes8 Blk8 Own8 LeNum LeA LeB LeP RefA RefB Numb Cm Ca
set_option linter.unusedVariables false

/-! ## plain: what is sealed, and what opens -/
def sealL (l : List Int) : List Int := l ++ lowB (crc 0 l : Nat) 4
def fitB (l : List Int) : Bool := leNat ((l.drop (l.length - 4)).take 4) == crc 0 (l.take (l.length - 4))
def openE (l : List Int) : Int := if l.length < 4 then 22 else if fitB l then 0 else 19
def openL (l : List Int) : List Int := if l.length < 4 then [] else if fitB l then l.take (l.length - 4) else []
theorem openE_short {l : List Int} (h : l.length < 4) : openE l = 22 := by unfold openE; rw [if_pos h]
theorem openE_fine {l : List Int} (h : ¬ l.length < 4) (hf : fitB l = true) : openE l = 0 := by unfold openE; rw [if_neg h, if_pos hf]
theorem openE_sum {l : List Int} (h : ¬ l.length < 4) (hf : fitB l = false) : openE l = 19 := by unfold openE; rw [if_neg h, hf]; rfl
theorem openL_short {l : List Int} (h : l.length < 4) : openL l = [] := by unfold openL; rw [if_pos h]
theorem openL_fine {l : List Int} (h : ¬ l.length < 4) (hf : fitB l = true) : openL l = l.take (l.length - 4) := by unfold openL; rw [if_neg h, if_pos hf]
theorem openL_sum {l : List Int} (h : ¬ l.length < 4) (hf : fitB l = false) : openL l = [] := by unfold openL; rw [if_neg h, hf]; rfl

theorem Parts.one {w : World} (a : Option Addr) (n c : Nat) (l : List Int) (hb : Bytes w a l) (hn : l.length = n) (hn2 : n ≤ 1000000) (T : TypeId) (g : Nat) (hg : w.heap.size = g) :
    Parts (w.alloc (.cells #[.slice a n c] T)) (some ⟨g, 0, none⟩) [l] := by
  subst hg
  intro i hi
  obtain rfl : i = 0 := by simpa using hi
  refine ⟨w.heap.size, 0, a, n, c, rfl, by simp, (Blk.new w [.slice a n c] T).cell rfl, ?_, by simpa using hn, hn2⟩
  exact hb.below ((Below.refl w.heap.size w).alloc (Nat.le_refl _) _) (Nat.le_refl _)

theorem sum_one (a : Option Addr) (l : List Int) (n c : Nat) (w : World) (hb : Bytes w a l) (hn : l.length = n) (hn2 : n ≤ 1000000) (T : TypeId) (g : Nat) (hg : w.heap.size = g) :
    Calls Try.prog 25 #[.slice (some ⟨g, 0, none⟩) 1 1] (w.alloc (.cells #[.slice a n c] T)) fun e w' => e = .returned (.int .u32 (crc 0 l : Nat)) ∧ w.alloc (.cells #[.slice a n c] T) = w' := by
  have h := sum_any (some ⟨g, 0, none⟩) [l] 1 1 _ (Parts.one a n c l hb hn hn2 T g hg) rfl (by decide)
  rw [show [l].flatten = l by simp] at h
  exact h

theorem crc_u64 (l : List Int) (h : AllB l) : IntKind.u64.wrap ((crc 0 l : Nat) : Int) = ((crc 0 l : Nat) : Int) := by
  have := crc_lt (s := 0) (by decide) l h
  rw [IntKind.wrap_u64]; omega

theorem add4 (a : Option Addr) (l : List Int) (len cap : Nat) (v : Int) (w : World) (g : Nat) (hg : w.heap.size = g) (hL : l.length = len) (hl : len ≤ 1000000) (hb : Bytes w a l) :
    Calls Try.prog 46 #[.slice a len cap, .int .i64 4, .int .u64 v] w fun e w' => e = .returned (.slice (some ⟨g, 0, none⟩) (len + 4) (len + 4)) ∧ Row w' g (l ++ lowB v 4) ∧ Below w.heap.size w w' := by
  subst hg; subst hL
  exact add_yes a l cap 4 v w hl (by decide) hb

theorem seal_any (A : Option Addr) (l : List Int) (len cap : Nat) (w : World) (hb : Bytes w A l) (hL : l.length = len) (hmax : len ≤ 999000) :
    Calls Try.prog 29 #[.slice A len cap] w fun e w' => e = .returned (.slice (some ⟨w.heap.size + 1, 0, none⟩) (len + 4) (len + 4)) ∧ Row w' (w.heap.size + 1) (sealL l) ∧ Below w.heap.size w w' := by
  have HS := Lib.hid fun T => sum_one A l len cap w hb hL (by omega) T w.heap.size rfl
  have HC := Lib.hid (crc_u64 l hb.1)
  have hcl := crc_lt (s := 0) (by decide) l hb.1
  have HE := Lib.hid (show sealL l = l ++ lowB (crc 0 l : Nat) 4 from rfl)
  have HA := Lib.hid fun T => add4 A l len cap (crc 0 l : Nat) (w.alloc (.cells #[.slice A len cap] T)) (w.heap.size + 1) (by simp) hL (by omega) (hb.below ((Below.refl w.heap.size w).alloc (Nat.le_refl _) _) (Nat.le_refl _))
  clear hb hL
  generalize crc 0 l = s at *
  go_enter Try.func29, Try.ntmps29
  go_wp2_with (first
    | (go_at_call 25; (with_reducible refine (HS.out _).mono ?_); rintro e w' ⟨rfl, rfl⟩)
    | (go_at_call 46; (with_reducible refine (HA.out _).mono ?_); rintro e w2 ⟨rfl, hrow, hbel⟩; have HR := Lib.hid hrow; clear hrow))
  go_ret
  exact ⟨rfl, by rw [HE.out]; exact HR.out, ((Below.refl w.heap.size w).alloc (Nat.le_refl _) _).trans (hbel.mono (by simp))⟩

theorem radd4 (a : Option Addr) (l : List Int) (len cap : Nat) (v : Nat) (w : World) (hL : l.length = len) (hl : len ≤ 1000000) (hv : v < 4294967296) (hb : Bytes w a l) :
    Calls Try.prog 47 #[.slice a len cap, .int .i64 4, .int .u64 (v : Int)] w fun e w' => ∃ A c, e = .returned (.slice A (len + 4) c) ∧ Bytes w' A (l ++ lowB (v : Int) 4) ∧ Below w.heap.size w w' := by
  subst hL
  exact radd_yes a l cap 4 v w hl (by decide) (by omega) (by omega) hb

/-- Bytes of the call's own. -/
def Made (m : List Int) (n : Nat) (w : World) (e : Ending) (w' : World) : Prop := ∃ A c, e = .returned (.slice A n c) ∧ Bytes w' A m ∧ Below w.heap.size w w'

theorem rmore0 (A : Option Addr) (l : List Int) (len cap : Nat) (w : World) (hb : Bytes w A l) (hL : l.length = len) (hmax : len ≤ 1000000) :
    Calls Try.prog 26 #[.int .u32 0, .slice A len cap] w fun e w' => e = .returned (.int .u32 (crc 0 l : Nat)) ∧ w = w' := rmore_any 0 A l len cap w (by decide) hb hL hmax
theorem more0 (A : Option Addr) (l : List Int) (len cap : Nat) (w : World) (hb : Bytes w A l) (hL : l.length = len) (hmax : len ≤ 1000000) :
    Calls Try.prog 27 #[.int .u32 0, .slice A len cap] w fun e w' => e = .returned (.int .u32 (crc 0 l : Nat)) ∧ w = w' := more_any 0 A l len cap w (by decide) hb hL hmax
theorem sum_none (w : World) : Calls Try.prog 25 #[.slice none 0 0] w fun e w' => e = .returned (.int .u32 0) ∧ w = w' := by
  have h2 := sum_any none [] 0 0 w (Parts.nil _ _) rfl (by decide)
  rw [List.flatten_nil, crc_nil] at h2
  exact h2

theorem rseal_any (A : Option Addr) (l : List Int) (len cap : Nat) (w : World) (hb : Bytes w A l) (hL : l.length = len) (hmax : len ≤ 999000) :
    Calls Try.prog 30 #[.slice A len cap] w (Made (sealL l) (len + 4) w) := by
  have HM := Lib.hid (rmore0 A l len cap w hb hL (by omega))
  have HC := Lib.hid (crc_u64 l hb.1)
  have hcl := crc_lt (s := 0) (by decide) l hb.1
  have HE := Lib.hid (show sealL l = l ++ lowB (crc 0 l : Nat) 4 from rfl)
  have HA := Lib.hid (radd4 A l len cap (crc 0 l) w hL (by omega) hcl hb)
  clear hb hL
  generalize crc 0 l = s at *
  go_enter Try.func30, Try.ntmps30
  go_wp2_with (first
    | (go_at_call 26; (with_reducible refine HM.out.mono ?_); rintro e w' ⟨rfl, rfl⟩)
    | (go_at_call 47; (with_reducible refine HA.out.mono ?_); rintro e w2 ⟨A2, c2, rfl, hrow, hbel⟩; have HR := Lib.hid hrow; clear hrow))
  go_ret
  exact ⟨A2, c2, rfl, by rw [HE.out]; exact HR.out, hbel⟩

theorem clone_any (A : Option Addr) (l : List Int) (len cap : Nat) (w : World) (hb : Bytes w A l) (hL : l.length = len) (hmax : len ≤ 1000000) :
    Calls Try.prog 43 #[.slice A len cap] w (Made l len w) := by
  have q22 : ∀ (w : World) (a : Option Addr) (n c n' c' : Nat), (binOp .eql 22 (.slice a n c) (.slice none n' c')).run Try.prog w = .ok (.bool a.isNone) w := fun w a n c n' c' => Lib.run_eql_slice_nil w _ _ a n c n' c' Try.underlying22
  cases A with
  | none =>
    have h0 : l = [] := by
      rcases l with _ | ⟨x, r⟩
      · rfl
      · obtain ⟨b, off, e, _⟩ := hb.2 0 (by simp)
        cases e
    subst h0
    obtain rfl : len = 0 := by simpa using hL.symm
    clear hb hL
    go_enter Try.func43, Try.ntmps43
    go_wp2
    go_ret
    exact ⟨none, 0, rfl, Bytes.nil _ _, Below.refl _ _⟩
  | some a =>
    have HB := Lib.hid (hb.below ((Below.refl w.heap.size w).alloc (Nat.le_refl _) (.cells #[] 5)) (Nat.le_refl _))
    have HL := Lib.hid hL
    clear hb hL
    go_enter Try.func43, Try.ntmps43
    go_wp2_with (at_builtin; refine wpList_append_bytes rfl (.tmp 5) (.tmp 6) rfl w.heap.size _ 0 0 [] rfl (Own.made w _ (Nat.le_refl _)) (some a) len cap l rfl HB.out HL.out (by omega) ?_; intro A2 c2 w2 ho2 hbel2; rw [Nat.zero_add, List.nil_append] at ho2; rw [Nat.zero_add]; have HO2 := Lib.hid ho2; clear ho2)
    go_ret
    exact ⟨A2, c2, rfl, HO2.out.bytes, ((Below.refl _ _).alloc (Nat.le_refl _) _).trans hbel2⟩

theorem bytes_any (A : Option Addr) (l : List Int) (len cap : Nat) (w : World) (hb : Bytes w A l) (hL : l.length = len) (hmax : len ≤ 1000000) :
    Calls Try.prog 31 #[.slice A len cap] w fun e w' => ∃ A2 c2, e = .returned (.slice A2 len c2) ∧ Own w' w.heap.size A2 len c2 l ∧ Below w.heap.size w w' := by
  have HB := Lib.hid (hb.below ((Below.refl w.heap.size w).alloc (Nat.le_refl _) (.cells #[] 5)) (Nat.le_refl _))
  have HL := Lib.hid hL
  clear hb hL
  go_enter Try.func31, Try.ntmps31
  go_wp2_with (at_builtin; refine wpList_append_bytes rfl (.tmp 3) (.tmp 4) rfl w.heap.size _ 0 0 [] rfl (Own.made w _ (Nat.le_refl _)) A len cap l rfl HB.out HL.out (by omega) ?_; intro A2 c2 w2 ho2 hbel2; rw [Nat.zero_add, List.nil_append] at ho2; rw [Nat.zero_add]; have HO2 := Lib.hid ho2; clear ho2)
  go_ret
  exact ⟨A2, c2, rfl, HO2.out, ((Below.refl _ _).alloc (Nat.le_refl _) _).trans hbel2⟩

theorem nine_all : AllB [49, 50, 51, 52, 53, 54, 55, 56, 57] := by unfold AllB; decide
theorem nine_crc : crc 0 [49, 50, 51, 52, 53, 54, 55, 56, 57] = 3808858755 := by decide +kernel
abbrev nine (w : World) : World := w.alloc (.cells #[.int .u8 49, .int .u8 50, .int .u8 51, .int .u8 52, .int .u8 53, .int .u8 54, .int .u8 55, .int .u8 56, .int .u8 57] 5 (9, 10))
theorem nine_bytes (w : World) : Bytes (nine w) (some ⟨w.heap.size, 0, none⟩) [49, 50, 51, 52, 53, 54, 55, 56, 57] := by
  refine ⟨nine_all, fun i hi => ⟨w.heap.size, 0, rfl, by simp, ?_⟩⟩
  rw [Nat.zero_add, World.cell?_alloc_mark]
  have : ([49, 50, 51, 52, 53, 54, 55, 56, 57].map (Value.int .u8)).toArray[i]? = some (.int .u8 (([49, 50, 51, 52, 53, 54, 55, 56, 57] : List Int).getD i 0)) := by
    rw [List.getElem?_toArray, List.getElem?_map, List.getElem?_eq_getElem hi]
    simp [List.getD_eq_getElem?_getD, List.getElem?_eq_getElem hi]
  exact this
theorem first_any (w : World) :
    Calls Try.prog 22 #[] w fun e w' => e = .returned (.bool true) ∧ Below w.heap.size w w' := by
  have kc := fun (w : World) (C : Array Value) (n c : Nat) => Lib.run_convert_bytes_const (P := Try.prog) w 22 5 C n c Try.underlying22 Try.underlying5
  have h1 := fun T => sum_one (some ⟨w.heap.size, 0, none⟩) [49, 50, 51, 52, 53, 54, 55, 56, 57] 9 9 (nine w) (nine_bytes w) rfl (by decide) T (w.heap.size + 1) (by simp)
  rw [nine_crc] at h1
  have H1 := Lib.hid h1
  clear h1
  go_enter Try.func22, Try.ntmps22
  go_wp2_with (first
    | (go_at_call 25; (with_reducible refine (H1.out _).mono ?_); rintro e w' ⟨rfl, rfl⟩)
    | (go_at_call 25; (with_reducible refine (sum_none _).mono ?_); rintro e w' ⟨rfl, rfl⟩))
  go_ret
  exact ⟨rfl, ((Below.refl _ _).alloc (Nat.le_refl _) _).alloc (by simp) _⟩
end Go.Proofs.Ytmkpeidgimgdlaa.Cb
