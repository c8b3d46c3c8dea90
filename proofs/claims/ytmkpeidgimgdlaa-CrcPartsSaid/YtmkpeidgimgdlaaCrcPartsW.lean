/-
  The walk of CrcParts: at any bytes and cuts the law returns true, and nothing that was there is written.
-/
import Derived.Test.YtmkpeidgimgdlaaCc
import Derived.Test.YtmkpeidgimgdlaaRows2
import Derived.Test.YtmkpeidgimgdlaaOwnE
namespace Go.Proofs.Ytmkpeidgimgdlaa.CrcPartsW
open Go.ChangeShapes Go.WideShapes Go.ChangeAt Go.RowKit
open Bytes8 Blk8 Own8 OwnE Rows2 LeNum LeA LeB LeP RefA RefB Numb Cm Ca Cb Cc
set_option linter.unusedVariables false

theorem elt_bytes : Elt 22 31 1 24 (.slice none 0 0) := ⟨Try.underlying31, by kernel_rfl, rfl, by decide⟩

/-- Slices of bytes that can be read, by their values. -/
def Sls (w : World) (vs : List Value) (ls : List (List Int)) : Prop :=
  vs.length = ls.length ∧ ∀ i, i < ls.length → ∃ a n c, vs[i]? = some (.slice a n c) ∧ Bytes w a (ls.getD i []) ∧ (ls.getD i []).length = n ∧ n ≤ 1000000
theorem Sls.nil (w : World) : Sls w [] [] := ⟨rfl, fun i hi => absurd hi (by simp)⟩
theorem Sls.snoc {w : World} {vs : List Value} {ls : List (List Int)} (h : Sls w vs ls) (a : Option Addr) (n c : Nat) (m : List Int) (hb : Bytes w a m) (hn : m.length = n) (hn2 : n ≤ 1000000) : Sls w (vs ++ [.slice a n c]) (ls ++ [m]) := by
  refine ⟨by simp [h.1], fun i hi => ?_⟩
  rcases Nat.lt_or_ge i ls.length with h1 | h1
  · obtain ⟨a', n', c', e, h2⟩ := h.2 i h1
    refine ⟨a', n', c', by rw [List.getElem?_append_left (by rw [h.1]; exact h1)]; exact e, ?_⟩
    have e2 : (ls ++ [m]).getD i [] = ls.getD i [] := by simp [List.getD_eq_getElem?_getD, List.getElem?_append_left h1]
    rw [e2]; exact h2
  · obtain rfl : i = ls.length := by simp at hi; omega
    refine ⟨a, n, c, by rw [← h.1]; simp, ?_⟩
    have e2 : (ls ++ [m]).getD ls.length [] = m := by simp
    rw [e2]; exact ⟨hb, hn, hn2⟩
theorem parts_own {w W : World} {base n c : Nat} {A : Option Addr} {vs : List Value} {ls : List (List Int)} (ho : OwnE 22 1 W base A n c vs) (hs : Sls w vs ls) (hb : Below w.heap.size w W) : Parts W A ls := fun i hi => by
  obtain ⟨a, n', c', e, h1, h2, h3⟩ := hs.2 i hi
  obtain ⟨g, rfl, _, hg, hc⟩ := ho.cell (i := i) (by rw [hs.1]; exact hi)
  exact ⟨g, 0, a, n', c', rfl, hg, by rw [Nat.zero_add, hc, e], h1.below hb (Nat.le_refl _), h2, h3⟩
theorem sum_own {w W : World} {base n c : Nat} {A : Option Addr} {vs : List Value} {ls : List (List Int)} {l : List Int} (ho : OwnE 22 1 W base A n c vs) (hs : Sls w vs ls) (hb : Below w.heap.size w W) (hl : ls.flatten = l) (hn : n ≤ 1000000) :
    Calls Try.prog 25 #[.slice A n c] W fun e w' => e = .returned (.int .u32 (crc 0 l : Nat)) ∧ W = w' := by
  subst hl
  exact sum_any A ls n c W (parts_own ho hs hb) (by rw [← hs.1]; simpa using ho.len) hn

set_option maxRecDepth 100000 in
set_option maxHeartbeats 1000000 in
theorem walk_long (a0 : Option Addr) (len0 cap0 : Nat) (a1 : Option Addr) (len1 cap1 : Nat) (w : World) (hlen : 400 < len0 ∨ 20 < len1) :
    Calls Try.prog 8 #[.slice a0 len0 cap0, .slice a1 len1 cap1] w fun e w' => e = .returned (.bool true) ∧ Below w.heap.size w w' := by
  by_cases h1 : 400 < len0
  · have hd : decide ((400 : Int) < (len0 : Int)) = true := by simp; omega
    go_enter Try.func8, Try.ntmps8
    go_wp2_with (go_at_call 22; (with_reducible refine (first_any _).mono ?_); rintro e w1 ⟨rfl, hbel⟩)
    go_ret
    exact ⟨rfl, hbel⟩
  · have hd : decide ((400 : Int) < (len0 : Int)) = false := by simp; omega
    have hd2 : decide ((20 : Int) < (len1 : Int)) = true := by simp; omega
    go_enter Try.func8, Try.ntmps8
    go_wp2_with (go_at_call 22; (with_reducible refine (first_any _).mono ?_); rintro e w1 ⟨rfl, hbel⟩)
    go_ret
    exact ⟨rfl, hbel⟩

set_option maxRecDepth 100000 in
set_option maxHeartbeats 4000000 in
theorem walk_main (a0 : Option Addr) (l : List Int) (len0 cap0 : Nat) (a1 : Option Addr) (len1 cap1 : Nat) (f1 : Nat → Int) (w : World) (hb : Bytes w a0 l) (hL : l.length = len0) (hi1 : InInts .i64 w a1 len1 f1) (h0 : len0 ≤ 400) (h1 : len1 ≤ 20) (hcap : len0 ≤ cap0) (hcap2 : cap0 ≤ maxLen) :
    Calls Try.prog 8 #[.slice a0 len0 cap0, .slice a1 len1 cap1] w fun e w' => e = .returned (.bool true) ∧ Below w.heap.size w w' := by
  have hd : decide ((400 : Int) < (len0 : Int)) = false := by simp; omega
  have hd2 : decide ((20 : Int) < (len1 : Int)) = false := by simp; omega
  have HI := Lib.hid hi1
  have HB := Lib.hid hb
  have HL := Lib.hid hL
  unfold maxLen at hcap2
  clear hb hL hi1
  go_enter Try.func8, Try.ntmps8
  go_wp2_with (go_at_call 22; (with_reducible refine (first_any _).mono ?_); rintro e w1 ⟨rfl, hbel⟩; have HN1 := Lib.hid hbel; clear hbel)
  go_loopw [6, 7, 8, 9] (fun s v fr i wr => ∃ (k f : Nat) (A1 : Option Addr) (c : Nat) (vs : List Value) (ls : List (List Int)), k ≤ len1 ∧ f ≤ len0 ∧ i = .int .i64 k ∧ fr = .int .i64 f ∧ s = .int .u32 (crc 0 (l.take f) : Nat) ∧ v = .slice A1 k c ∧ Hid (OwnE 22 1 wr w.heap.size A1 k c vs) ∧ Hid (Sls w vs ls) ∧ Hid (ls.flatten = l.take f) ∧ Hid (Below w.heap.size w wr)) (fun _ _ _ i _ => len1 - (intOf i).toNat)
  case atStart => exact ⟨0, 0, none, 0, [], [], Nat.zero_le _, Nat.zero_le _, rfl, rfl, ret_u32 (by rw [List.take_zero, crc_nil]; rfl), rfl, Lib.hid (OwnE.nil _ _ HN1.out.size), Lib.hid (Sls.nil w), Lib.hid rfl, HN1⟩
  case round =>
    obtain ⟨k, f, A1, c, vs, ls, hk, hf, rfl, rfl, rfl, rfl, ho, hs, hfl, hbel⟩ := hrel
    have hq := crc_lt (s := 0) (by decide) (l.take f) (HB.out.1.take f)
    by_cases hlt : k < len1
    · have hd : decide (k < len1) = true := by simpa using hlt
      obtain ⟨b, off, rfl, hbl, hc, hwf⟩ := (HI.out.below hbel.out) k hlt
      obtain ⟨j, HJ, hj⟩ := below_nat (f1 k) ((len0 : Int) - f + 1) (by omega)
      have hj2 : f + j ≤ len0 := by omega
      have HNum := Lib.hid fun W => number_nat (f1 k) ((len0 : Int) - f + 1) j W (by omega) (by omega) HJ.out
      have hcut := fun W => cut_lh a0 len0 cap0 f (f + j) (by omega) (by omega) W
      rw [Int.natCast_add, Nat.add_sub_cancel_left] at hcut
      have HBC := Lib.hid (Bytes.cut HB.out cap0 f j (by rw [HL.out]; exact hcap))
      have HLC := Lib.hid (show ((l.drop f).take j).length = j by have := HL.out; simp; omega)
      have HT := Lib.hid (show l.take (f + j) = l.take f ++ (l.drop f).take j from List.take_add)
      have HC := Lib.hid (crc_app 0 (l.take f) ((l.drop f).take j))
      generalize crc 0 (l.take f) = q at *
      generalize (l.drop f).take j = m at *
      generalize cutA a0 cap0 f = ac at *
      generalize f1 k = fk at *
      clear hwf
      go_wp2_with (first
        | (go_at_call 21; (with_reducible refine (HNum.out _).mono ?_); rintro e w' ⟨rfl, rfl⟩)
        | (at_builtin; refine wpList_append_elt elt_bytes rfl (.tmp 41) (.tmp 46) rfl w.heap.size A1 k c vs rfl (ho.out.alloc _) ⟨wr.heap.size, 0, none⟩ 1 1 [.slice ac j (cap0 - f)] rfl rfl (Blk.news (Blk.new wr [.slice ac j (cap0 - f)] 22)) (by intro u hu; simp at hu; subst hu; rfl) (by omega) (by omega) ?_; intro A2 c2 w2 ho2 hbel2; have HO2 := Lib.hid ho2; have HN2 := Lib.hid ((hbel.out.alloc hbel.out.size _).trans hbel2); clear ho2 hbel2)
        | (go_at_call 27; (with_reducible refine (more_any q ac m j (cap0 - f) _ hq (HBC.out.below HN2.out (Nat.le_refl _)) HLC.out (by omega)).mono ?_); rintro e w' ⟨rfl, rfl⟩))
      go_roundw
      case rel => exact ⟨k + 1, f + j, A2, c2, vs ++ [.slice ac j (cap0 - f)], ls ++ [m], by omega, by omega, by go_num, by go_num, ret_u32 (by rw [HT.out, ← HC.out]), rfl, HO2, Lib.hid (hs.out.snoc ac j _ m HBC.out HLC.out (by omega)), Lib.hid (by rw [List.flatten_append, hfl.out, HT.out]; simp), HN2⟩
      case measure => simp [intOf]; omega
    · obtain rfl : k = len1 := by omega
      have hd : decide (k < k) = false := by simp
      have hcut := fun W => cut_l a0 len0 cap0 f hf W
      have HBC := Lib.hid (show Bytes w (cutA a0 cap0 f) (l.drop f) from by have h := Bytes.cut HB.out cap0 f (len0 - f) (by rw [HL.out]; exact hcap); rw [List.take_of_length_le (by have := HL.out; simp; omega)] at h; exact h)
      have HLC := Lib.hid (show (l.drop f).length = len0 - f by have := HL.out; simp; omega)
      have HC := Lib.hid ((crc_app 0 (l.take f) (l.drop f)).trans (by rw [List.take_append_drop]))
      have HS := Lib.hid (hs.out.snoc (cutA a0 cap0 f) (len0 - f) (cap0 - f) (l.drop f) HBC.out HLC.out (by omega))
      have HF := Lib.hid (show (ls ++ [l.drop f]).flatten = l by rw [List.flatten_append, hfl.out]; simp)
      have HM := Lib.hid fun W (h : Below w.heap.size w W) => more_any (crc 0 (l.take f)) (cutA a0 cap0 f) (l.drop f) (len0 - f) (cap0 - f) W hq (HBC.out.below h (Nat.le_refl _)) HLC.out (by omega)
      have HM2 := Lib.hid (show ∀ W, Below w.heap.size w W → Calls Try.prog 27 #[.int .u32 (crc 0 (l.take f) : Nat), .slice (cutA a0 cap0 f) (len0 - f) (cap0 - f)] W fun e w' => e = .returned (.int .u32 (crc 0 l : Nat)) ∧ W = w' from fun W h => by rw [← HC.out]; exact HM.out W h)
      have HSum := Lib.hid fun W (h : Below w.heap.size w W) T g (hg : W.heap.size = g) => sum_one a0 l len0 cap0 W (HB.out.below h (Nat.le_refl _)) HL.out (by omega) T g hg
      have HOwn := Lib.hid fun A2 c2 W (h : Below w.heap.size w W) (ho2 : OwnE 22 1 W w.heap.size A2 (k + 1) c2 (vs ++ [.slice (cutA a0 cap0 f) (len0 - f) (cap0 - f)])) => sum_own ho2 HS.out h HF.out (by omega)
      clear HM HC HF HS hs hfl
      generalize crc 0 (l.take f) = q at *
      generalize crc 0 l = r at *
      generalize l.drop f = m at *
      generalize cutA a0 cap0 f = ac at *
      go_wp2_with (first
        | (at_builtin; refine wpList_append_elt elt_bytes rfl (.tmp 55) (.tmp 59) rfl w.heap.size A1 k c vs rfl (ho.out.alloc _) ⟨wr.heap.size, 0, none⟩ 1 1 [.slice ac (len0 - f) (cap0 - f)] rfl rfl (Blk.news (Blk.new wr [.slice ac (len0 - f) (cap0 - f)] 22)) (by intro u hu; simp at hu; subst hu; rfl) (by omega) (by omega) ?_; intro A2 c2 w2 ho2 hbel2; have HO2 := Lib.hid ho2; have HN2 := Lib.hid ((hbel.out.alloc hbel.out.size _).trans hbel2); clear ho2 hbel2)
        | (go_at_call 25; (with_reducible refine (HOwn.out _ _ _ HN2.out HO2.out).mono ?_); rintro e w' ⟨rfl, rfl⟩)
        | (go_at_call 25; (with_reducible refine (HSum.out _ HN2.out _ _ rfl).mono ?_); rintro e w' ⟨rfl, rfl⟩)
        | (go_at_call 25; (with_reducible refine (HSum.out _ (HN2.out.alloc HN2.out.size _) _ _ (by simp)).mono ?_); rintro e w' ⟨rfl, rfl⟩)
        | (go_at_call 27; (with_reducible refine (HM2.out _ (HN2.out.alloc HN2.out.size _)).mono ?_); rintro e w' ⟨rfl, rfl⟩))
      go_ret
      exact ⟨rfl, (HN2.out.alloc HN2.out.size _).alloc (by have := HN2.out.size; simp; omega) _⟩

theorem walk (a0 : Option Addr) (len0 cap0 : Nat) (z0 : List Int) (a1 : Option Addr) (len1 cap1 : Nat) (z1 : List Int) (w : World) (w0 : IsRow .u8 w a0 len0 cap0 z0) (w1 : IsRow .i64 w a1 len1 cap1 z1) :
    Calls Try.prog 8 #[.slice a0 len0 cap0, .slice a1 len1 cap1] w fun e w' => e = .returned (.bool true) ∧ Below w.heap.size w w' := by
  obtain ⟨hb, hL, hcap, hmax, _⟩ := w0.bytes
  obtain ⟨hi, _, _⟩ := ints_in w1
  by_cases h1 : 400 < len0 ∨ 20 < len1
  · exact walk_long a0 len0 cap0 a1 len1 cap1 w h1
  · exact walk_main a0 _ len0 cap0 a1 len1 cap1 _ w hb hL hi (by omega) (by omega) hcap hmax
end Go.Proofs.Ytmkpeidgimgdlaa.CrcPartsW
