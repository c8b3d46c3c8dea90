/-
  Texts beneath the proof, one behind the other.
-/
import Derived.BigRegion
import Derived.Deep.RegionLaw
import Derived.Deep.RegionWith
import Derived.Lib.SlBytesConst
import Derived.Lib.AppendZerosOnto
import Derived.Deep.RegionHeld3
import Derived.Test.YtldkmobncmfodaaGreatR4
import Derived.Test.YtldkmobncmfodaaGreatR1
import Derived.Test.YtldkmobncmfodaaGreatR2
import Derived.Test.YtldkmobncmfodaaGreatR3

/-
  What a Sum is in memory, and what New makes.
-/
namespace Go.Proofs.YtldkmobncmfodaaGreat.Sc
open Go.ChangeShapes Go.WideShapes Go.ChangeAt Go.RowKit
open Bytes8 Blk8 LeNum LeA LeB Hm Ha Hb He Sa Sb Sm
set_option linter.unusedVariables false
set_option maxRecDepth 100000

/-- The block g is a Sum that has taken l in by the key. -/
def SumAt (w : World) (g : Nat) (key l : List Int) : Prop := AllB l ∧ Blk w g [.int .u64 (quadAt key l (l.length / 8)).p, .int .u64 (quadAt key l (l.length / 8)).q, .int .u64 (quadAt key l (l.length / 8)).r, .int .u64 (quadAt key l (l.length / 8)).s, .int .u64 (left8 l), .int .u8 ((l.length : Int) % 256)] 299

theorem get_key (K : Nat → Int) (A : Option Addr) (o : Nat) (i : Int) (hi : i = o) (ho : o + 8 ≤ 16) (w : World) (hb : Bytes w A (idL K)) :
    Calls Tryz.prog 200 #[.slice A 16 16, .int .i64 i, .int .i64 8] w fun e w' => e = .returned (.tuple #[.int .u64 (w8 (idL K) o), .bool true]) ∧ w = w' := by
  subst hi
  exact get_yes A (idL K) 16 o 8 w (by simp [idL]) (by simp [fits, isW, idL]; omega) hb (by decide) (by decide) (by simp [idL]; omega)

set_option maxHeartbeats 1000000 in
theorem new_any (K : Nat → Int) (w : World) (hk : IdOk K) :
    Calls Tryz.prog 177 #[idV K] w fun e w' => e = .returned (.pointer (some ⟨w.heap.size + 1, 0, none⟩)) ∧ SumAt w' (w.heap.size + 1) (idL K) [] ∧ Below w.heap.size w w' := by
  have HK := Lib.hid (id_boxed 50 K hk w)
  have HG0 := Lib.hid (get_key K _ 0 0 rfl (by decide) _ HK.out)
  have HG8 := Lib.hid (get_key K _ 8 8 rfl (by decide) _ HK.out)
  have HE := Lib.hid (show keyed (idL K) = ⟨bits .xor .u64 (w8 (idL K) 0) 8317987319222330741, bits .xor .u64 (w8 (idL K) 8) 7237128888997146477, bits .xor .u64 (w8 (idL K) 0) 7816392313619706465, bits .xor .u64 (w8 (idL K) 8) 8387220255154660723⟩ from rfl)
  go_enter Tryz.func177, Tryz.ntmps177
  go_wp2_with (first | (go_at_call 200; (with_reducible refine HG0.out.mono ?_); rintro e w' ⟨rfl, rfl⟩) | (go_at_call 200; (with_reducible refine HG8.out.mono ?_); rintro e w' ⟨rfl, rfl⟩))
  go_ret
  refine ⟨rfl, ⟨(fun _ h => by cases h), ?_⟩, ((Below.refl _ _).alloc (Nat.le_refl _) _).alloc (by simp) _⟩
  show Blk _ _ [.int .u64 (keyed (idL K)).p, .int .u64 (keyed (idL K)).q, .int .u64 (keyed (idL K)).r, .int .u64 (keyed (idL K)).s, .int .u64 0, .int .u8 0] _
  rw [HE.out]
  exact Blk.new_at _ _ _ _ (by simp)

theorem grown_set {w w' : World} {g : Nat} (h : w.grownBy w' (some g)) (i : Nat) (v : Value) : w.grownBy (w'.setCell ⟨g, i, none⟩ v) (some g) :=
  ⟨h.os, h.tape, h.output, by simpa using h.size, fun k hk hne => (Below.heap_setCell w' _ v k (by intro e; exact hne (by rw [e]))).trans (h.block k hk hne)⟩
theorem grown_drew {w w' : World} {g : Nat} (h : w.grownBy w' (some g)) : w.grownBy w'.drew (some g) := ⟨h.os, h.tape, h.output, h.size, h.block⟩
theorem grown_below {w w' w'' : World} {g : Nat} (h : w.grownBy w' (some g)) (hb : Below w'.heap.size w' w'') : w.grownBy w'' (some g) :=
  ⟨hb.os.trans h.os, hb.tape.trans h.tape, hb.output.trans h.output, Nat.le_trans h.size hb.size, fun k hk hne => (hb.block k (Nat.lt_of_lt_of_le hk h.size)).trans (h.block k hk hne)⟩
/-- Four cells of the sum anew, and the fifth. -/
theorem five_sets {w : World} {g : Nat} {p q r s t z : Value} {T : TypeId} (h : Blk w g [p, q, r, s, t, z] T) (a b c d e : Value) :
    Blk (((((w.setCell ⟨g, 0, none⟩ a).setCell ⟨g, 1, none⟩ b).setCell ⟨g, 2, none⟩ c).setCell ⟨g, 3, none⟩ d).setCell ⟨g, 4, none⟩ e) g [a, b, c, d, e, z] T :=
  ((((h.set_ 0 _).set_ 1 _).set_ 2 _).set_ 3 _).set_ 4 _
theorem two_sets {w : World} {g : Nat} {p q r s t z : Value} {T : TypeId} (h : Blk w g [p, q, r, s, t, z] T) (a b : Value) :
    Blk (((w.setCell ⟨g, 4, none⟩ a).drew).setCell ⟨g, 5, none⟩ b) g [p, q, r, s, a, b] T :=
  ((h.set_ 4 _).drew).set_ 5 _

set_option maxRecDepth 100000 in
set_option maxHeartbeats 4000000 in
theorem add_any (K : Nat → Int) (g : Nat) (A : Option Addr) (l m : List Int) (len cap : Nat) (w : World) (hs : SumAt w g (idL K) l) (hb : Bytes w A m) (hL : m.length = len) (hmax : len ≤ 1000000) (hA : 0 < len → ∀ b off, A = some ⟨b, off, none⟩ → b ≠ g) :
    Calls Tryz.prog 178 #[.pointer (some ⟨g, 0, none⟩), .slice A len cap] w fun e w' => e = .returned (.tuple #[]) ∧ SumAt w' g (idL K) (l ++ m) ∧ w.grownBy w' (some g) := by
  have HB := Lib.hid hb
  have HL := Lib.hid hL
  have HA := Lib.hid hA
  have HS := Lib.hid hs
  clear hb hL hA hs
  go_enter Tryz.func178, Tryz.ntmps178
  go_wp2
  go_loopw [8] (fun i wr => ∃ k : Nat, k ≤ len ∧ i = .int .i64 k ∧ Hid (SumAt wr g (idL K) (l ++ m.take k)) ∧ Hid (w.grownBy wr (some g))) (fun i _ => len - (intOf i).toNat)
  case atStart => exact ⟨0, Nat.zero_le _, rfl, by rw [List.take_zero, List.append_nil]; exact HS, Lib.hid (World.grownBy.refl _ _)⟩
  case round =>
    obtain ⟨k, hk, rfl, hr, hg⟩ := hrel
    by_cases hlt : k < len
    · have hd : decide (k < len) = true := by simpa using hlt
      obtain ⟨b, off, rfl, hbl, hc⟩ := HB.out.2 k (by rw [HL.out]; exact hlt)
      have hc' : wr.cell? ⟨b, off + k, none⟩ = some (.int .u8 (m.getD k 0)) := (World.cell?_of_block (hg.out.block b hbl (by intro h; injection h with h; exact HA.out (by omega) b off rfl h))).trans hc
      clear hc
      obtain ⟨c0, c1⟩ := HB.out.1.at_ k
      have hT := take_snoc m k (by rw [HL.out]; exact hlt)
      obtain ⟨hAll, hB⟩ := hr.out
      generalize hX : l ++ m.take k = X at *
      have HN := Lib.hid (show l ++ m.take (k + 1) = X ++ [m.getD k 0] by rw [hT, ← List.append_assoc, hX])
      clear hT hX
      generalize m.getD k 0 = c at *
      obtain ⟨z, hz⟩ : ∃ z, (X.length : Int) % 256 = z := ⟨_, rfl⟩
      rw [hz] at hB
      have z0 : 0 ≤ z := by omega
      have z1 : z ≤ 255 := by omega
      have HZ := Lib.hid hz
      clear hz
      have R := Lib.hid hB
      have g4 := hB.cell (i := 4) rfl
      have g5 := hB.cell (i := 5) rfl
      have f4 := hB.frozen 4
      have f5 := hB.frozen 5
      clear hB
      have hsh : (8 * (z % 8)).toNat = 8 * (X.length % 8) := by have := HZ.out; omega
      have hor := or_top X c hAll c0 c1
      rw [show IntKind.u64.wrap c = c by rw [IntKind.wrap_u64]; omega, ← hsh] at hor
      have HAll := Lib.hid (hAll.app (show AllB [c] from fun n hn => by simp at hn; subst hn; exact ⟨c0, c1⟩))
      obtain ⟨V, hV⟩ : ∃ V, left8 X + c * 256 ^ (X.length % 8) = V := ⟨_, rfl⟩
      rw [hV] at hor
      have HV := Lib.hid hV
      have HQ := Lib.hid (quadAt_ok (idL K) X (X.length / 8))
      clear hsh hV hAll
      by_cases h7 : X.length % 8 = 7
      · have ht1 : ((z + 1) % 8 == 0) = true := by have := HZ.out; simp; omega
        have ht2 : ((z + 1) % 256 % 8 == 0) = true := by have := HZ.out; simp; omega
        have HM := Lib.hid (more_full (idL K) X c h7)
        clear h7
        go_wp2
        go_region
        go_wp2
        have R2 : Blk ((wr.setCell ⟨g, 4, none⟩ (.int .u64 V)).setCell ⟨g, 5, none⟩ (.int .u8 ((z + 1) % 256))).drew g _ _ := ((R.out.set_ 4 _).set_ 5 _).drew
        have G2 : w.grownBy ((wr.setCell ⟨g, 4, none⟩ (.int .u64 V)).setCell ⟨g, 5, none⟩ (.int .u8 ((z + 1) % 256))).drew (some g) := grown_drew (grown_set (grown_set hg.out _ _) _ _)
        simp only [List.set_cons_succ, List.set_cons_zero] at R2
        generalize ((wr.setCell ⟨g, 4, none⟩ (.int .u64 V)).setCell ⟨g, 5, none⟩ (.int .u8 ((z + 1) % 256))).drew = w2 at R2 G2 ⊢
        clear g4 g5 f4 f5
        generalize quadAt (idL K) X (X.length / 8) = F at *
        have HP := Lib.hid fun w => qplus_q F V w HQ.out
        have e0 := R2.cell (i := 0) rfl
        have e1 := R2.cell (i := 1) rfl
        have e2 := R2.cell (i := 2) rfl
        have e3 := R2.cell (i := 3) rfl
        have e4 := R2.cell (i := 4) rfl
        have RR := Lib.hid R2
        have hz2 := R2.lt
        clear R2
        go_region_with (go_at_call 204; (with_reducible refine (HP.out _).mono ?_); rintro e w3 ⟨rfl, hb3⟩; have R3 := Lib.hid (RR.out.drew.below hb3 hz2); have a0 := R3.out.cell (i := 0) rfl; have a1 := R3.out.cell (i := 1) rfl; have a2 := R3.out.cell (i := 2) rfl; have a3 := R3.out.cell (i := 3) rfl; have a4 := R3.out.cell (i := 4) rfl; have b0 := R3.out.frozen 0; have b1 := R3.out.frozen 1; have b2 := R3.out.frozen 2; have b3 := R3.out.frozen 3; have b4 := R3.out.frozen 4)
        all_goals
          go_wp2
          go_roundw
          case rel =>
            refine ⟨k + 1, by omega, by go_num, ?_, ?_⟩
            · rw [HN.out]
              refine Lib.hid ⟨HAll.out, ?_⟩
              rw [HM.out.1, HM.out.2, HV.out, show (((X ++ [c]).length : Nat) : Int) % 256 = (z + 1) % 256 by have := HZ.out; simp; omega]
              exact five_sets R3.out _ _ _ _ _
            · exact Lib.hid (grown_set (grown_set (grown_set (grown_set (grown_set (grown_below (grown_drew G2) hb3) _ _) _ _) _ _) _ _) _ _)
          case measure => simp [intOf]; omega
      · have ht1 : ((z + 1) % 8 == 0) = false := by have := HZ.out; simp; omega
        have ht2 : ((z + 1) % 256 % 8 == 0) = false := by have := HZ.out; simp; omega
        have HM := Lib.hid (And.intro (more_none (idL K) X c (by omega)) (more_left X c (by omega)).2)
        clear h7
        go_wp2
        go_region
        go_wp2
        go_roundw
        case rel =>
          refine ⟨k + 1, by omega, by go_num, ?_, ?_⟩
          · rw [HN.out]
            refine Lib.hid ⟨HAll.out, ?_⟩
            rw [HM.out.1, HM.out.2, HV.out, show (((X ++ [c]).length : Nat) : Int) % 256 = (z + 1) % 256 by have := HZ.out; simp; omega]
            exact two_sets R.out _ _
          · exact Lib.hid (grown_set (grown_drew (grown_set hg.out _ _)) _ _)
        case measure => simp [intOf]; omega
    · obtain rfl : k = len := by omega
      have hd : decide (k < k) = false := by simp
      have hr1 := hr.out
      rw [List.take_of_length_le (by rw [HL.out]; exact Nat.le_refl _)] at hr1
      have HR := Lib.hid hr1
      clear hr1
      go_wp2
      go_end0
      exact ⟨rfl, HR.out, hg.out⟩
end Go.Proofs.YtldkmobncmfodaaGreat.Sc

/-
  What the document's own Of answers.
-/
namespace Go.Proofs.YtldkmobncmfodaaGreat.Sg
open Go.ChangeShapes Go.WideShapes Go.ChangeAt Go.RowKit
open Bytes8 Blk8 LeNum Hm Ha Hb He Sb Se
set_option linter.unusedVariables false
set_option maxRecDepth 100000

def ofS (t : Bool) (key l : List Int) : Int := if t then sipS key l else lookS l

theorem rof_any (t : Bool) (K : Nat → Int) (A : Option Addr) (l : List Int) (len cap : Nat) (w : World) (hk : IdOk K) (hb : Bytes w A l) (hL : l.length = len) (hmax : len ≤ 800000) :
    Calls Tryz.prog 69 #[.bool t, idV K, .slice A len cap] w fun e w' => e = .returned (.int .u64 (ofS t (idL K) l)) ∧ Below w.heap.size w w' := by
  have HB := Lib.hid hb
  cases t with
  | true =>
    have HC := Lib.hid (rsip_any K A l len cap (w.alloc (idC 50 K)) hk (hb.below ((Below.refl _ _).alloc (Nat.le_refl _) _) (Nat.le_refl _)) hL hmax)
    clear hb
    go_enter Tryz.func69, Tryz.ntmps69
    go_wp2_with (go_at_call 130; (with_reducible refine HC.out.mono ?_); rintro e w1 ⟨rfl, hb1⟩)
    go_ret
    exact ⟨rfl, ((Below.refl w.heap.size w).alloc (Nat.le_refl _) _).trans (hb1.mono (by simp))⟩
  | false =>
    have HC := Lib.hid (rlook_all A l len cap (w.alloc (idC 50 K)) (hb.below ((Below.refl _ _).alloc (Nat.le_refl _) _) (Nat.le_refl _)) hL hmax)
    clear hb
    go_enter Tryz.func69, Tryz.ntmps69
    go_wp2_with (go_at_call 131; (with_reducible refine HC.out.mono ?_); rintro e w' ⟨rfl, rfl⟩)
    go_ret
    exact ⟨rfl, (Below.refl w.heap.size w).alloc (Nat.le_refl _) _⟩

end Go.Proofs.YtldkmobncmfodaaGreat.Sg

/-
  Xor of payloads: plain, and the program's.
-/
namespace Go.Proofs.YtldkmobncmfodaaGreat.Ya
open Go.ChangeShapes Go.WideShapes Go.ChangeAt Go.RowKit
open Bytes8 Blk8 Own8 OwnM OwnE OwnA LeNum Hm Ha Hb Hc Hd He Hf Se Rows2 Dc Ff
set_option linter.unusedVariables false
set_option linter.unusedSimpArgs false
set_option maxRecDepth 100000

theorem ans_bd (t : Trio) : 0 ≤ ans t ∧ ans t ≤ 18446744073709551615 := b64 _ _ _
theorem lookS_bd (l : List Int) : 0 ≤ lookS l ∧ lookS l ≤ 18446744073709551615 := by
  unfold lookS
  split <;> exact ans_bd _
def lookN (l : List Int) : Nat := (lookS l).toNat
theorem lookN_is (l : List Int) : lookS l = (lookN l : Int) := by unfold lookN; have := lookS_bd l; omega
theorem lookN_lt (l : List Int) : lookN l < 2 ^ 64 := by unfold lookN; have := lookS_bd l; omega
/-- Xor of rows. -/
def xr (l : List (List Int)) : Nat := l.foldr (fun p v => v ^^^ lookN p) 0
theorem xr_nil : xr [] = 0 := rfl
theorem xr_cons (p : List Int) (l : List (List Int)) : xr (p :: l) = xr l ^^^ lookN p := rfl
theorem xr_lt (l : List (List Int)) : xr l < 2 ^ 64 := by
  induction l with
  | nil => decide
  | cons p l ih => rw [xr_cons]; exact Nat.xor_lt_two_pow ih (lookN_lt p)
theorem xr_app (l m : List (List Int)) : xr (l ++ m) = xr l ^^^ xr m := by
  induction l with
  | nil => simp [xr_nil]
  | cons p l ih => rw [List.cons_append, xr_cons, xr_cons, ih, Nat.xor_assoc, Nat.xor_assoc, Nat.xor_comm (xr m)]
theorem xr_snoc (l : List (List Int)) (p : List Int) : xr (l ++ [p]) = xr l ^^^ lookN p := by rw [xr_app, xr_cons, xr_nil, Nat.zero_xor]
/-- The rows up to the k-th. -/
def rowsL (P : Nat → List Int) (k : Nat) : List (List Int) := (List.range k).map P
theorem rowsL_succ (P : Nat → List Int) (k : Nat) : rowsL P (k + 1) = rowsL P k ++ [P k] := by simp [rowsL, List.range_succ]
theorem xr_step (P : Nat → List Int) (k : Nat) : xr (rowsL P (k + 1)) = xr (rowsL P k) ^^^ lookN (P k) := by rw [rowsL_succ, xr_snoc]
theorem xr_bits (P : Nat → List Int) (k : Nat) : bits .xor .u64 ((xr (rowsL P k) : Nat) : Int) (lookS (P k)) = ((xr (rowsL P (k + 1)) : Nat) : Int) := by
  rw [lookN_is, xr_step]
  exact u64_xor_nat _ _ (xr_lt _) (lookN_lt _)

set_option maxHeartbeats 1000000 in
theorem xor_any (a : Option Addr) (n cap : Nat) (A : Nat → Option Addr) (L C : Nat → Nat) (P : Nat → List Int) (w : World) (h : InRows w a n A L C P) (hn : n ≤ 1000000) (hL : ∀ r, r < n → L r ≤ 800000) :
    Calls Tryz.prog 135 #[.slice a n cap] w fun e w' => e = .returned (.int .u64 ((xr (rowsL P n) : Nat) : Int)) ∧ Below w.heap.size w w' := by
  have HR := Lib.hid h
  clear h
  go_enter Tryz.func135, Tryz.ntmps135
  go_wp2
  go_loopw [3, 8] (fun s i wr => ∃ k : Nat, k ≤ n ∧ i = .int .i64 (k : Int) ∧ s = .int .u64 ((xr (rowsL P k) : Nat) : Int) ∧ Hid (Below w.heap.size w wr)) (fun _ i _ => n - (intOf i).toNat)
  case atStart => exact ⟨0, Nat.zero_le _, rfl, rfl, Below.refl _ _⟩
  case round =>
    obtain ⟨k, hk, rfl, rfl, hbel⟩ := hrel
    by_cases hlt : k < n
    · obtain ⟨b, off, rfl, hb, hc, hby, hl, hcap, hmax⟩ := (HR.out.below hbel.out) k hlt
      have HLk := hL k hlt
      have HLook := Lib.hid (look_all (A k) (P k) (L k) (C k) wr hby hl (by omega) hcap hmax)
      have HX := Lib.hid (xr_bits P k)
      have hz := hbel.out.size
      clear hby hl hcap hmax
      go_wp2_with (go_at_call 129; (with_reducible refine HLook.out.mono ?_); rintro e w2 ⟨rfl, hb2⟩; have HB2 := Lib.hid hb2; clear hb2)
      go_roundw
      case rel =>
        exact ⟨k + 1, by omega, by go_num, by rw [HX.out], Lib.hid (hbel.out.trans (HB2.out.mono hz))⟩
      case measure => simp [intOf]; omega
    · obtain rfl : k = n := by omega
      go_wp2
      go_ret
      exact ⟨rfl, hbel.out⟩
end Go.Proofs.YtldkmobncmfodaaGreat.Ya

/-
  Rows of payloads that a statement gathers; the chapter's example of Xor.
-/
namespace Go.Proofs.YtldkmobncmfodaaGreat.Yb
open Go.ChangeShapes Go.WideShapes Go.ChangeAt Go.RowKit
open Bytes8 Blk8 Own8 OwnM OwnE OwnA LeNum Hm Ha Hb Hc Hd He Hf Se Rows2 Dc Ff Ya Fa
set_option linter.unusedVariables false
set_option linter.unusedSimpArgs false
set_option maxRecDepth 100000

theorem rowElt : Elt 25 218 1 24 (.slice none 0 0) := ⟨Tryz.underlying218, by kernel_rfl, rfl, by decide⟩

end Go.Proofs.YtldkmobncmfodaaGreat.Yb

/-
  What a call leaves that writes blocks of a known set; rows of the call's own beside each other; 'append' of zeros by number.
-/
namespace Go.Proofs.YtldkmobncmfodaaGreat.Kf
open Go.ChangeShapes Go.WideShapes Go.ChangeAt Go.RowKit
open Bytes8 Blk8 Own8 OwnM OwnA
set_option linter.unusedVariables false
set_option maxRecDepth 100000
set_option linter.unusedSimpArgs false

/-- Blocks that were there, but those of F, are as they were. -/
structure KeptF (F : Nat → Prop) (w w' : World) : Prop where
  os : w'.os = w.os
  tape : w'.tape = w.tape
  output : w'.output = w.output
  size : w.heap.size ≤ w'.heap.size
  block : ∀ k, k < w.heap.size → ¬ F k → w'.heap[k]? = w.heap[k]?

/-- F, and what is new since. -/
def Ext (F : Nat → Prop) (w w' : World) (k : Nat) : Prop := F k ∨ (w.heap.size ≤ k ∧ k < w'.heap.size)
def None' (k : Nat) : Prop := False
def One (g : Nat) (k : Nat) : Prop := k = g
/-- All of them are there. -/
def Foot (w : World) (F : Nat → Prop) : Prop := ∀ k, F k → k < w.heap.size
/-- No block is in both. -/
def Off (F G : Nat → Prop) : Prop := ∀ k, F k → ¬ G k

theorem KeptF.refl (F : Nat → Prop) (w : World) : KeptF F w w := ⟨rfl, rfl, rfl, Nat.le_refl _, fun _ _ _ => rfl⟩
theorem KeptF.trans {F G : Nat → Prop} {a b c : World} (h : KeptF F a b) (k : KeptF G b c) (hG : ∀ i, i < a.heap.size → G i → F i) : KeptF F a c :=
  ⟨k.os.trans h.os, k.tape.trans h.tape, k.output.trans h.output, Nat.le_trans h.size k.size, fun i hi hF => (k.block i (Nat.lt_of_lt_of_le hi h.size) (fun hg => hF (hG i hi hg))).trans (h.block i hi hF)⟩
theorem KeptF.then {F : Nat → Prop} {a b c : World} (h : KeptF F a b) (k : KeptF (Ext F a b) b c) : KeptF F a c :=
  h.trans k fun i hi he => by
    rcases he with h1 | h1
    · exact h1
    · omega
theorem KeptF.mono {F G : Nat → Prop} {w w' : World} (h : KeptF F w w') (hG : ∀ i, F i → G i) : KeptF G w w' :=
  ⟨h.os, h.tape, h.output, h.size, fun i hi hg => h.block i hi (fun hf => hg (hG i hf))⟩
theorem KeptF.of_below {F : Nat → Prop} {w w' : World} (h : Below w.heap.size w w') : KeptF F w w' := ⟨h.os, h.tape, h.output, h.size, fun k hk _ => h.block k hk⟩
theorem KeptF.below {F : Nat → Prop} {B : Nat} {w w' : World} (h : KeptF F w w') (hB : B ≤ w.heap.size) (hF : ∀ k, F k → B ≤ k) : Below B w w' :=
  ⟨h.os, h.tape, h.output, h.size, fun k hk => h.block k (by omega) (fun hf => by have := hF k hf; omega)⟩
theorem KeptF.alloc {F : Nat → Prop} {a w : World} (h : KeptF F a w) (o : Obj) : KeptF F a (w.alloc o) :=
  h.trans (G := None') (KeptF.of_below ((Below.refl _ _).alloc (Nat.le_refl _) o)) fun _ _ h => h.elim
theorem KeptF.drew {F : Nat → Prop} {a w : World} (h : KeptF F a w) : KeptF F a w.drew := ⟨h.os, h.tape, h.output, h.size, h.block⟩
theorem KeptF.drewN {F : Nat → Prop} {a w : World} (h : KeptF F a w) (n : Nat) : KeptF F a (w.drewN n) := ⟨h.os, h.tape, h.output, h.size, h.block⟩
theorem KeptF.setCell {F : Nat → Prop} {a w : World} (h : KeptF F a w) {p : Addr} (hp : p.block < a.heap.size → F p.block) (u : Value) : KeptF F a (w.setCell p u) :=
  ⟨h.os, h.tape, h.output, Nat.le_trans h.size (by simp [World.setCell]), fun k hk hF => (Below.heap_setCell _ _ _ _ (fun e => hF (by rw [e]; exact hp (by omega)))).trans (h.block k hk hF)⟩
theorem KeptF.set1 (w : World) (g i : Nat) (u : Value) : KeptF (One g) w (w.setCell ⟨g, i, none⟩ u) := (KeptF.refl (One g) w).setCell (p := ⟨g, i, none⟩) (fun _ => (rfl : g = g)) u
theorem KeptF.grown {F : Nat → Prop} {a w w' : World} {row : Option Nat} (h : KeptF F a w) (hg : w.grownBy w' row) (hr : ∀ k, row = some k → k < a.heap.size → F k) : KeptF F a w' :=
  ⟨hg.os.trans h.os, hg.tape.trans h.tape, hg.output.trans h.output, Nat.le_trans h.size hg.size, fun k hk hF => (hg.block k (Nat.lt_of_lt_of_le hk h.size) (fun e => hF (hr k e.symm hk))).trans (h.block k hk hF)⟩
theorem KeptF.grow {w w' : World} (row : Option Nat) (hg : w.grownBy w' row) : KeptF (fun k => row = some k) w w' := (KeptF.refl _ w).grown hg fun _ h _ => h

theorem Ext.foot {F : Nat → Prop} {w w' : World} (hF : Foot w F) (h : w.heap.size ≤ w'.heap.size) : Foot w' (Ext F w w') := fun k hk => by
  rcases hk with hk | hk
  · exact Nat.lt_of_lt_of_le (hF k hk) h
  · exact hk.2
theorem Ext.off {F G : Nat → Prop} {w w' : World} (h : Off F G) (hG : Foot w G) : Off (Ext F w w') G := fun k hk hg => by
  rcases hk with hk | hk
  · exact h k hk hg
  · have := hG k hg; omega
theorem Ext.off' {F G : Nat → Prop} {w w' : World} (h : Off G F) (hG : Foot w G) : Off G (Ext F w w') := fun k hg hk => by
  rcases hk with hk | hk
  · exact h k hg hk
  · have := hG k hg; omega
theorem Ext.ext {F : Nat → Prop} {a b b2 c : World} (h1 : a.heap.size ≤ b.heap.size) (h2 : b2.heap.size = b.heap.size) (h3 : b.heap.size ≤ c.heap.size) : ∀ k, Ext (Ext F a b) b2 c k → Ext F a c k := fun k hk => by
  rcases hk with (hk | hk) | hk
  · exact .inl hk
  · exact .inr ⟨hk.1, by omega⟩
  · exact .inr ⟨by omega, hk.2⟩
theorem Off.symm {F G : Nat → Prop} (h : Off F G) : Off G F := fun k h1 h2 => h k h2 h1
theorem Foot.kept {F : Nat → Prop} {w w' : World} (h : Foot w F) (hs : w.heap.size ≤ w'.heap.size) : Foot w' F := fun k hk => Nat.lt_of_lt_of_le (h k hk) hs

/-- Where bytes lie, if there are any. -/
def LiesOff (A : Option Addr) (l : List Int) (F : Nat → Prop) : Prop := ∀ b off, A = some ⟨b, off, none⟩ → 0 < l.length → ¬ F b
theorem Bytes.keptF {F : Nat → Prop} {w w' : World} {A : Option Addr} {l : List Int} (h : Bytes w A l) (hk : KeptF F w w') (hF : LiesOff A l F) : Bytes w' A l := by
  refine ⟨h.1, fun i hi => ?_⟩
  obtain ⟨b, off, e, hlt, hc⟩ := h.2 i hi
  exact ⟨b, off, e, Nat.lt_of_lt_of_le hlt hk.size, (World.cell?_of_block (hk.block b hlt (hF b off e (by omega)))).trans hc⟩
theorem Blk.keptF {F : Nat → Prop} {w w' : World} {g : Nat} {vs : List Value} {T : TypeId} (h : Blk w g vs T) (hk : KeptF F w w') (hF : ¬ F g) : Blk w' g vs T := (hk.block g h.lt hF).trans h
theorem Own.keptF {F : Nat → Prop} {w w' : World} {base n c : Nat} {A : Option Addr} {l : List Int} (h : Own w base A n c l) (hk : KeptF F w w') (hF : ∀ g, ownB A = some g → ¬ F g) : Own w' base A n c l := by
  refine ⟨h.1, h.2.1, Nat.le_trans h.2.2.1 hk.size, h.2.2.2.1, ?_⟩
  rcases h.2.2.2.2 with h1 | ⟨k, cap, cur, h1, h2, h3, h4⟩
  · exact .inl h1
  · refine .inr ⟨k, cap, cur, h1, h2, ?_, h4⟩
    have hk2 : k < w.heap.size := by
      rcases Nat.lt_or_ge k w.heap.size with h | h
      · exact h
      · rw [Array.getElem?_eq_none h] at h3; cases h3
    injection h1 with e1 e2 e3
    subst e1
    rw [hk.block k hk2 (hF k rfl)]; exact h3
theorem Own.block {w : World} {base n c g : Nat} {A : Option Addr} {l : List Int} (h : Own w base A n c l) (hg : ownB A = some g) : base ≤ g ∧ g < w.heap.size := h.lt g (by rw [ownB_eq]; exact hg)

end Go.Proofs.YtldkmobncmfodaaGreat.Kf

/-
  Numbers laid behind bytes: the program's 'with', the document's Nums of a slice that came in.
-/
namespace Go.Proofs.YtldkmobncmfodaaGreat.Yc
open Go.ChangeShapes Go.WideShapes Go.ChangeAt Go.RowKit
open Bytes8 Blk8 Own8 OwnM OwnE OwnA LeA LeAl LeNum LeB LeP RefA RefB Ob Oc Od Oe Rows2 Kf
set_option linter.unusedVariables false
set_option linter.unusedSimpArgs false
set_option maxRecDepth 100000

/-- The numbers up to the k-th. -/
def ints (f : Nat → Int) (k : Nat) : List Int := (List.range k).map f
theorem ints_succ (f : Nat → Int) (k : Nat) : ints f (k + 1) = ints f k ++ [f k] := by simp [ints, List.range_succ]
theorem ints_len (f : Nat → Int) (k : Nat) : (ints f k).length = k := by simp [ints]
theorem ints_nums (f : Nat → Int) (k : Nat) : nums (ints f (k + 1)) = nums (ints f k) ++ lowB (f k) 8 := by rw [ints_succ, nums_snoc]

theorem InInts.bd {w : World} {a : Option Addr} {n : Nat} {f : Nat → Int} (h : InInts .u64 w a n f) (i : Nat) (hi : i < n) : 0 ≤ f i ∧ f i ≤ 18446744073709551615 := by
  obtain ⟨_, _, _, _, _, hw⟩ := h i hi
  exact bounds_u64 hw
theorem InInts.keptF {k : IntKind} {w w' : World} {a : Option Addr} {n : Nat} {f : Nat → Int} {F : Nat → Prop} (h : InInts k w a n f) (hk : KeptF F w w') (hF : ∀ b off, a = some ⟨b, off, none⟩ → ¬ F b) : InInts k w' a n f := fun i hi => by
  obtain ⟨b, off, e, h1, h2, h3⟩ := h i hi
  exact ⟨b, off, e, Nat.lt_of_lt_of_le h1 hk.size, (World.cell?_of_block (hk.block b h1 (hF b off e))).trans h2, h3⟩


/-- The block of a slice, as a set. -/
abbrev At (A : Option Addr) (k : Nat) : Prop := ownB A = some k
/-- What is told by a call that lays numbers behind bytes of the caller's own. -/
def Laid (base : Nat) (A : Option Addr) (m : List Int) (n : Nat) (w : World) (e : Ending) (w' : World) : Prop :=
  ∃ A' c', e = .returned (.slice A' n c') ∧ Own w' base A' n c' m ∧ KeptF (At A) w w' ∧ (ownB A' = ownB A ∨ ∃ g, w.heap.size ≤ g ∧ ownB A' = some g)
theorem Laid.below {base : Nat} {w w' : World} {A : Option Addr} {n c : Nat} {l : List Int} (ho : Own w base A n c l) (hk : KeptF (At A) w w') : Below base w w' :=
  hk.below ho.2.2.1 fun k hk => (Own.block ho hk).1

set_option maxHeartbeats 1000000 in
theorem rnums_in (Ai : Option Addr) (n cap : Nat) (f : Nat → Int) (w : World) (hi : InInts .u64 w Ai n f) (hmax : n ≤ 100000) :
    Calls Tryz.prog 154 #[.slice Ai n cap] w fun e w' => ∃ A c, e = .returned (.slice A (8 * n) c) ∧ Own w' w.heap.size A (8 * n) c (nums (ints f n)) ∧ Below w.heap.size w w' := by
  have HI := Lib.hid hi
  clear hi
  go_enter Tryz.func154, Tryz.ntmps154
  go_wp2
  go_loopw [3, 4] (fun s i wr => ∃ (k : Nat) (A : Option Addr) (c : Nat), k ≤ n ∧ i = .int .i64 (k : Int) ∧ s = .slice A (8 * k) c ∧ Hid (Own wr w.heap.size A (8 * k) c (nums (ints f k))) ∧ Hid (Below w.heap.size w wr)) (fun _ i _ => n - (intOf i).toNat)
  case atStart => exact ⟨0, none, 0, Nat.zero_le _, rfl, rfl, Own.nil w _ (Nat.le_refl _), Below.refl _ _⟩
  case round =>
    obtain ⟨k, A, c, hk, rfl, rfl, ho, hbel⟩ := hrel
    by_cases hlt2 : k < n
    · obtain ⟨b, off, rfl, hb, hc, hw⟩ := (HI.out.below hbel.out) k hlt2
      obtain ⟨x0, x1⟩ := bounds_u64 hw
      have HN := Lib.hid (ints_nums f k)
      have hsz := hbel.out.size
      generalize f k = x at *
      have HLo := Lib.hid fun (W : World) => rlow_at x 8 8 W x0 x1 (by decide) rfl
      go_wp2_with (first | (go_at_call 153; (with_reducible refine (HLo.out _).mono ?_); rintro e w2 ⟨A2, c2, rfl, ho2, hbel2⟩; have HO2 := Lib.hid ho2; have HB2 := Lib.hid hbel2; clear ho2 hbel2) | (at_builtin; refine wpList_append_bytes rfl (.tmp 11) (.tmp 16) rfl w.heap.size A (8 * k) c (nums (ints f k)) rfl (ho.out.kept HB2.out (Nat.le_refl _)) A2 8 c2 _ rfl HO2.out.bytes (lowB_len _ _) (by omega) ?_; intro A3 c3 w3 ho3 hbel3; have HO3 := Lib.hid ho3; have HB3 := Lib.hid hbel3; clear ho3 hbel3))
      go_roundw
      case rel =>
        refine ⟨k + 1, A3, c3, by omega, by go_num, rfl, ?_, Lib.hid ((hbel.out.trans (HB2.out.mono hsz)).trans HB3.out)⟩
        rw [HN.out]
        exact HO3
      case measure => simp [intOf]; omega
    · obtain rfl : k = n := by omega
      go_wp2
      go_ret
      exact ⟨A, c, rfl, ho.out, hbel.out⟩

/-! ## numbers of a literal -/
/-! ## pairs of numbers that came in -/
def In2 (w : World) (a : Option Addr) (n : Nat) (f g : Nat → Int) : Prop :=
  ∀ i, i < n → ∃ b off, a = some ⟨b, off, none⟩ ∧ b < w.heap.size ∧ w.cell? ⟨b, off + i * 2, none⟩ = some (.int .u64 (f i)) ∧ w.cell? ⟨b, off + i * 2 + 1, none⟩ = some (.int .u64 (g i)) ∧ (0 ≤ f i ∧ f i ≤ 18446744073709551615) ∧ (0 ≤ g i ∧ g i ≤ 18446744073709551615)
theorem In2.below {w w' : World} {a : Option Addr} {n : Nat} {f g : Nat → Int} {B : Nat} (h : In2 w a n f g) (hb : Below B w w') (hB : ∀ b off, a = some ⟨b, off, none⟩ → b < B) : In2 w' a n f g := fun i hi => by
  obtain ⟨b, off, e, h1, h2, h3, h4⟩ := h i hi
  have hlt := hB b off e
  exact ⟨b, off, e, Nat.lt_of_lt_of_le h1 hb.size, (hb.cell (p := ⟨b, off + i * 2, none⟩) hlt).trans h2, (hb.cell (p := ⟨b, off + i * 2 + 1, none⟩) hlt).trans h3, h4⟩
theorem In2.keep {w w' : World} {a : Option Addr} {n : Nat} {f g : Nat → Int} (h : In2 w a n f g) (hb : Below w.heap.size w w') : In2 w' a n f g := fun i hi => by
  obtain ⟨b, off, e, h1, h2, h3, h4⟩ := h i hi
  exact ⟨b, off, e, Nat.lt_of_lt_of_le h1 hb.size, (hb.cell (p := ⟨b, off + i * 2, none⟩) h1).trans h2, (hb.cell (p := ⟨b, off + i * 2 + 1, none⟩) h1).trans h3, h4⟩
/-- The pairs up to the k-th, one number behind the other. -/
def prs (f g : Nat → Int) (k : Nat) : List Int := (List.range k).flatMap fun i => [f i, g i]
theorem prs_succ (f g : Nat → Int) (k : Nat) : prs f g (k + 1) = prs f g k ++ [f k, g k] := by simp [prs, List.range_succ, List.flatMap_append]
theorem prs_len (f g : Nat → Int) (k : Nat) : (prs f g k).length = 2 * k := by
  induction k with
  | zero => rfl
  | succ k ih => rw [prs_succ, List.length_append, ih]; simp; omega
theorem nums_prs (f g : Nat → Int) (k : Nat) : nums (prs f g (k + 1)) = nums (prs f g k) ++ nums [f k, g k] := by rw [prs_succ, nums_app]
theorem nums_prs_len (f g : Nat → Int) (k : Nat) : (nums (prs f g k)).length = 16 * k := by rw [nums_len, prs_len]; omega

/-! ## room made -/
end Go.Proofs.YtldkmobncmfodaaGreat.Yc

/-
  What stands at a place, for entries, arrays, tables: plain.
-/
namespace Go.Proofs.YtldkmobncmfodaaGreat.Yp
open Go.ChangeShapes Go.WideShapes Go.ChangeAt Go.RowKit
open Bytes8 Blk8 LeNum Ob Yc
set_option linter.unusedVariables false
set_option linter.unusedSimpArgs false
set_option maxRecDepth 100000

/-- What is wrong with the object at a place: its kind, its rows of so many bytes each behind so many. -/
def ecode (l : List Int) (a : Nat) (k : Int) (ah ea : Nat) : Int :=
  if code l a ≠ 0 then code l a else if kindL l a ≠ k then 4 else if (bodyL l a).length < ah + ea ∨ (bodyL l a).length % ea ≠ 0 then 5 else 0
/-- Each number is above the one ahead. -/
def risB (f : Nat → Int) : Nat → Bool
  | 0 => true
  | 1 => true
  | n + 2 => risB f (n + 1) && decide (f n < f (n + 1))
theorem risB_succ (f : Nat → Int) (n : Nat) (h : 0 < n) : risB f (n + 1) = (risB f n && decide (f (n - 1) < f n)) := by
  cases n with
  | zero => omega
  | succ n => rfl
theorem risB_mono {f : Nat → Int} {n m : Nat} (h : risB f n = true) (hm : m ≤ n) : risB f m = true := by
  induction n with
  | zero => obtain rfl : m = 0 := by omega
            exact h
  | succ n ih =>
    rcases Nat.lt_or_ge m (n + 1) with h1 | h1
    · refine ih ?_ (by omega)
      cases n with
      | zero => rfl
      | succ n => rw [risB] at h; exact (Bool.and_eq_true_iff.1 h).1
    · obtain rfl : m = n + 1 := by omega
      exact h
/-- An entry's numbers. -/
def itA (bd : List Int) (i : Nat) : Int := u8 bd (48 + 16 * i)
def itH (bd : List Int) (i : Nat) : Int := u8 bd (48 + 16 * i + 8)
def itN (bd : List Int) : Nat := (bd.length - 48) / 16
def itK (bd : List Int) (i : Nat) : Int := if i < 16 then bd.getD (24 + i) 0 else 0
def entC0 (l : List Int) (a : Nat) : Int :=
  if ecode l a 3 48 16 ≠ 0 then ecode l a 3 48 16 else if u8 (bodyL l a) 0 = 0 then 13 else if risB (itA (bodyL l a)) (itN (bodyL l a)) then 0 else 11
theorem itK_ok {bd : List Int} (h : AllB bd) : IdOk (itK bd) := fun i => by
  unfold itK
  split
  · have := h.at_ (24 + i)
    omega
  · omega
theorem itK_L (bd : List Int) (h : 40 ≤ bd.length) : idL (itK bd) = (bd.drop 24).take 16 := by
  apply List.ext_getElem
  · simp [idL]; omega
  · intro i h1 h2
    have h16 : i < 16 := h1
    rw [List.getElem_take, List.getElem_drop]
    have e : itK bd i = bd[24 + i]'(by omega) := by
      unfold itK
      rw [if_pos h16, List.getD_eq_getElem?_getD, List.getElem?_eq_getElem (by omega)]; rfl
    rw [← e]
    unfold idL
    rcases i with _ | _ | _ | _ | _ | _ | _ | _ | _ | _ | _ | _ | _ | _ | _ | _ | i
    all_goals first | rfl | omega
theorem ecode_there {l : List Int} {a n : Nat} {k : Int} {ah ea : Nat} (hL : l.length = n) (h : ecode l a k ah ea = 0) : code l a = 0 ∧ kindL l a = k ∧ ah + ea ≤ (bodyL l a).length ∧ (bodyL l a).length % ea = 0 ∧ (bodyL l a).length ≤ n := by
  unfold ecode at h
  have h0 : code l a = 0 := by
    by_cases h0 : code l a = 0
    · exact h0
    · rw [if_pos h0] at h; exact h
  rw [if_neg (by omega)] at h
  have hk : kindL l a = k := by
    by_cases hk : kindL l a = k
    · exact hk
    · rw [if_pos hk] at h; omega
  rw [if_neg (by omega)] at h
  split at h
  · omega
  · refine ⟨h0, hk, by omega, by omega, ?_⟩
    unfold bodyL
    simp
    omega
theorem body_all {l : List Int} {a : Nat} (h : AllB l) : AllB (bodyL l a) := (h.drop _).take _
/-- Numbers two by two. -/
def arN (bd : List Int) : Nat := (bd.length - 8) / 8
def arF (bd : List Int) (i : Nat) : Int := u8 bd (8 + 8 * i)
def taA (bd : List Int) (i : Nat) : Int := u8 bd (16 * i)
def taB (bd : List Int) (i : Nat) : Int := u8 bd (16 * i + 8)
/-- .. of a table of that kind. -/
def isTab (k : Int) : Bool := k == 4 || k == 5
end Go.Proofs.YtldkmobncmfodaaGreat.Yp

/-
  What 'PutData' and 'PutField' lay: the document's own.
-/
namespace Go.Proofs.YtldkmobncmfodaaGreat.Oj
open Go.ChangeShapes Go.WideShapes Go.ChangeAt Go.RowKit
open Bytes8 Blk8 Own8 OwnM OwnE LeA LeAl LeNum LeB LeP RefA RefB Ob Oc Od Oe
set_option linter.unusedVariables false
set_option maxRecDepth 100000
set_option linter.unusedSimpArgs false




abbrev dataV (x0 x1 x2 x3 x4 x5 : Int) (A : Option Addr) (n c : Nat) : Value := .agg #[.int .u64 x0, .int .u64 x1, .int .u64 x2, .int .u64 x3, .int .u64 x4, .int .u64 x5, .slice A n c]
abbrev fieldV (x0 x1 x2 : Int) (A : Option Addr) (n c : Nat) : Value := .agg #[.int .u64 x0, .int .u64 x1, .int .u64 x2, .slice A n c]




end Go.Proofs.YtldkmobncmfodaaGreat.Oj
