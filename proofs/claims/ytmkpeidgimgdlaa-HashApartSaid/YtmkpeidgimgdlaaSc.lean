/-
  What a Sum is in memory, and what New makes.
-/
import Derived.Test.YtmkpeidgimgdlaaSb
import Derived.Test.YtmkpeidgimgdlaaSm
import Derived.Test.YtmkpeidgimgdlaaLeB
import Derived.BigRegion
import Derived.Deep.RegionLaw
import Derived.Deep.RegionWith
namespace Go.Proofs.Ytmkpeidgimgdlaa.Sc
open Go.ChangeShapes Go.WideShapes Go.ChangeAt Go.RowKit
open Bytes8 Blk8 LeNum LeA LeB Hm Ha Hb He Sa Sb Sm
set_option linter.unusedVariables false

/-- The block g is a Sum that has taken l in by the key. -/
def SumAt (w : World) (g : Nat) (key l : List Int) : Prop := AllB l ∧ Blk w g [.int .u64 (quadAt key l (l.length / 8)).p, .int .u64 (quadAt key l (l.length / 8)).q, .int .u64 (quadAt key l (l.length / 8)).r, .int .u64 (quadAt key l (l.length / 8)).s, .int .u64 (left8 l), .int .u8 ((l.length : Int) % 256)] 67

theorem get_key (K : Nat → Int) (A : Option Addr) (o : Nat) (i : Int) (hi : i = o) (ho : o + 8 ≤ 16) (w : World) (hb : Bytes w A (idL K)) :
    Calls Try.prog 40 #[.slice A 16 16, .int .i64 i, .int .i64 8] w fun e w' => e = .returned (.tuple #[.int .u64 (w8 (idL K) o), .bool true]) ∧ w = w' := by
  subst hi
  exact get_yes A (idL K) 16 o 8 w (by simp [idL]) (by simp [fits, isW, idL]; omega) hb (by decide) (by decide) (by simp [idL]; omega)

set_option maxHeartbeats 1000000 in
theorem new_any (K : Nat → Int) (w : World) (hk : IdOk K) :
    Calls Try.prog 18 #[idV K] w fun e w' => e = .returned (.pointer (some ⟨w.heap.size + 1, 0, none⟩)) ∧ SumAt w' (w.heap.size + 1) (idL K) [] ∧ Below w.heap.size w w' := by
  have HK := Lib.hid (id_boxed 24 K hk w)
  have HG0 := Lib.hid (get_key K _ 0 0 rfl (by decide) _ HK.out)
  have HG8 := Lib.hid (get_key K _ 8 8 rfl (by decide) _ HK.out)
  have HE := Lib.hid (show keyed (idL K) = ⟨bits .xor .u64 (w8 (idL K) 0) 8317987319222330741, bits .xor .u64 (w8 (idL K) 8) 7237128888997146477, bits .xor .u64 (w8 (idL K) 0) 7816392313619706465, bits .xor .u64 (w8 (idL K) 8) 8387220255154660723⟩ from rfl)
  go_enter Try.func18, Try.ntmps18
  go_wp2_with (first | (go_at_call 40; (with_reducible refine HG0.out.mono ?_); rintro e w' ⟨rfl, rfl⟩) | (go_at_call 40; (with_reducible refine HG8.out.mono ?_); rintro e w' ⟨rfl, rfl⟩))
  go_ret
  refine ⟨rfl, ⟨(fun _ h => by cases h), ?_⟩, ((Below.refl _ _).alloc (Nat.le_refl _) _).alloc (by simp) _⟩
  show Blk _ _ [.int .u64 (keyed (idL K)).p, .int .u64 (keyed (idL K)).q, .int .u64 (keyed (idL K)).r, .int .u64 (keyed (idL K)).s, .int .u64 0, .int .u8 0] _
  rw [HE.out]
  exact Blk.new_at _ _ _ _ (by simp)

theorem grown_set {w w' : World} {g : Nat} (h : w.grownBy w' (some g)) (i : Nat) (v : Value) : w.grownBy (w'.setCell ⟨g, i, none⟩ v) (some g) :=
  ⟨h.os, h.tape, h.output, by simpa using h.size, fun k hk hne => (Below.heap_setCell w' _ v k (by intro e; exact hne (by rw [e]))).trans (h.block k hk hne)⟩
theorem grown_drew {w w' : World} {g : Nat} (h : w.grownBy w' (some g)) : w.grownBy w'.drew (some g) := ⟨h.os, h.tape, h.output, h.size, h.block⟩
theorem grown_below {w w' w'' : World} {g : Nat} (h : w.grownBy w' (some g)) (hb : Below w'.heap.size w' w'') : w.grownBy w'' (some g) :=
  ⟨hb.os.trans h.os, hb.tape.trans h.tape, hb.output.trans h.output, Nat.le_trans h.size hb.size, fun k hk hne => (hb.block k (Nat.lt_of_lt_of_le hk h.size)).trans (h.block k hk hne)⟩
/-- Four cells of the sum anew, and the fifth. -/
theorem five_sets {w : World} {g : Nat} {p q r s t z : Value} {T : TypeId} (h : Blk w g [p, q, r, s, t, z] T) (a b c d e : Value) :
    Blk (((((w.setCell ⟨g, 0, none⟩ a).setCell ⟨g, 1, none⟩ b).setCell ⟨g, 2, none⟩ c).setCell ⟨g, 3, none⟩ d).setCell ⟨g, 4, none⟩ e) g [a, b, c, d, e, z] T :=
  ((((h.set_ 0 _).set_ 1 _).set_ 2 _).set_ 3 _).set_ 4 _
theorem five_drew {w : World} {g : Nat} {p q r s t z : Value} {T : TypeId} (h : Blk w g [p, q, r, s, t, z] T) (a b c d e : Value) :
    Blk ((((((w.setCell ⟨g, 0, none⟩ a).setCell ⟨g, 1, none⟩ b).setCell ⟨g, 2, none⟩ c).setCell ⟨g, 3, none⟩ d).drew).setCell ⟨g, 4, none⟩ e) g [a, b, c, d, e, z] T :=
  (((((h.set_ 0 _).set_ 1 _).set_ 2 _).set_ 3 _).drew).set_ 4 _
theorem two_sets {w : World} {g : Nat} {p q r s t z : Value} {T : TypeId} (h : Blk w g [p, q, r, s, t, z] T) (a b : Value) :
    Blk (((w.setCell ⟨g, 4, none⟩ a).drew).setCell ⟨g, 5, none⟩ b) g [p, q, r, s, a, b] T :=
  ((h.set_ 4 _).drew).set_ 5 _

set_option maxRecDepth 100000 in
set_option maxHeartbeats 4000000 in
theorem add_any (K : Nat → Int) (g : Nat) (A : Option Addr) (l m : List Int) (len cap : Nat) (w : World) (hs : SumAt w g (idL K) l) (hb : Bytes w A m) (hL : m.length = len) (hmax : len ≤ 1000000) (hA : 0 < len → ∀ b off, A = some ⟨b, off, none⟩ → b ≠ g) :
    Calls Try.prog 19 #[.pointer (some ⟨g, 0, none⟩), .slice A len cap] w fun e w' => e = .returned (.tuple #[]) ∧ SumAt w' g (idL K) (l ++ m) ∧ w.grownBy w' (some g) := by
  have HB := Lib.hid hb
  have HL := Lib.hid hL
  have HA := Lib.hid hA
  have HS := Lib.hid hs
  clear hb hL hA hs
  go_enter Try.func19, Try.ntmps19
  go_wp2
  go_loopw [8] (fun i wr => ∃ k : Nat, k ≤ len ∧ i = .int .i64 k ∧ Hid (SumAt wr g (idL K) (l ++ m.take k)) ∧ Hid (w.grownBy wr (some g))) (fun i _ => len - (intOf i).toNat)
  case atStart => exact ⟨0, Nat.zero_le _, rfl, by rw [List.take_zero, List.append_nil]; exact HS, Lib.hid (World.grownBy.refl _ _)⟩
  case round =>
    obtain ⟨k, hk, rfl, hr, hg⟩ := hrel
    by_cases hlt : k < len
    · have hd : decide (k < len) = true := by simpa using hlt
      obtain ⟨b, off, rfl, hbl, hc⟩ := HB.out.2 k (by rw [HL.out]; exact hlt)
      have hc' : wr.cell? ⟨b, off + k, none⟩ = some (.int .u8 (m.getD k 0)) := (World.cell?_of_block (hg.out.block b hbl (by intro h; injection h with h; exact HA.out (by omega) b off rfl h))).trans hc
      clear hc
      obtain ⟨c0, c1⟩ := HB.out.1.at_ k
      have hT := take_snoc m k (by rw [HL.out]; exact hlt)
      obtain ⟨hAll, hB⟩ := hr.out
      generalize hX : l ++ m.take k = X at *
      have HN := Lib.hid (show l ++ m.take (k + 1) = X ++ [m.getD k 0] by rw [hT, ← List.append_assoc, hX])
      clear hT hX
      generalize m.getD k 0 = c at *
      obtain ⟨z, hz⟩ : ∃ z, (X.length : Int) % 256 = z := ⟨_, rfl⟩
      rw [hz] at hB
      have z0 : 0 ≤ z := by omega
      have z1 : z ≤ 255 := by omega
      have HZ := Lib.hid hz
      clear hz
      have R := Lib.hid hB
      have g4 := hB.cell (i := 4) rfl
      have g5 := hB.cell (i := 5) rfl
      have f4 := hB.frozen 4
      have f5 := hB.frozen 5
      clear hB
      have hsh : (8 * (z % 8)).toNat = 8 * (X.length % 8) := by have := HZ.out; omega
      have hor := or_top X c hAll c0 c1
      rw [show IntKind.u64.wrap c = c by rw [IntKind.wrap_u64]; omega, ← hsh] at hor
      have HAll := Lib.hid (hAll.app (show AllB [c] from fun n hn => by simp at hn; subst hn; exact ⟨c0, c1⟩))
      obtain ⟨V, hV⟩ : ∃ V, left8 X + c * 256 ^ (X.length % 8) = V := ⟨_, rfl⟩
      rw [hV] at hor
      have HV := Lib.hid hV
      have HQ := Lib.hid (quadAt_ok (idL K) X (X.length / 8))
      clear hsh hV hAll
      by_cases h7 : X.length % 8 = 7
      · have ht1 : ((z + 1) % 8 == 0) = true := by have := HZ.out; simp; omega
        have ht2 : ((z + 1) % 256 % 8 == 0) = true := by have := HZ.out; simp; omega
        have HM := Lib.hid (more_full (idL K) X c h7)
        clear h7
        go_wp2
        go_region
        go_wp2
        have R2 : Blk ((wr.setCell ⟨g, 4, none⟩ (.int .u64 V)).setCell ⟨g, 5, none⟩ (.int .u8 ((z + 1) % 256))).drew g _ _ := ((R.out.set_ 4 _).set_ 5 _).drew
        have G2 : w.grownBy ((wr.setCell ⟨g, 4, none⟩ (.int .u64 V)).setCell ⟨g, 5, none⟩ (.int .u8 ((z + 1) % 256))).drew (some g) := grown_drew (grown_set (grown_set hg.out _ _) _ _)
        simp only [List.set_cons_succ, List.set_cons_zero] at R2
        generalize ((wr.setCell ⟨g, 4, none⟩ (.int .u64 V)).setCell ⟨g, 5, none⟩ (.int .u8 ((z + 1) % 256))).drew = w2 at R2 G2 ⊢
        clear g4 g5 f4 f5
        generalize quadAt (idL K) X (X.length / 8) = F at *
        have HP := Lib.hid fun w => qplus_q F V w HQ.out
        have e0 := R2.cell (i := 0) rfl
        have e1 := R2.cell (i := 1) rfl
        have e2 := R2.cell (i := 2) rfl
        have e3 := R2.cell (i := 3) rfl
        have e4 := R2.cell (i := 4) rfl
        have RR := Lib.hid R2
        have hz2 := R2.lt
        clear R2
        go_region_with (go_at_call 41; (with_reducible refine (HP.out _).mono ?_); rintro e w3 ⟨rfl, hb3⟩; have R3 := Lib.hid (RR.out.drew.below hb3 hz2); have a0 := R3.out.cell (i := 0) rfl; have a1 := R3.out.cell (i := 1) rfl; have a2 := R3.out.cell (i := 2) rfl; have a3 := R3.out.cell (i := 3) rfl; have a4 := R3.out.cell (i := 4) rfl; have b0 := R3.out.frozen 0; have b1 := R3.out.frozen 1; have b2 := R3.out.frozen 2; have b3 := R3.out.frozen 3; have b4 := R3.out.frozen 4)
        all_goals
          go_wp2
          go_roundw
          case rel =>
            refine ⟨k + 1, by omega, by go_num, ?_, ?_⟩
            · rw [HN.out]
              refine Lib.hid ⟨HAll.out, ?_⟩
              rw [HM.out.1, HM.out.2, HV.out, show (((X ++ [c]).length : Nat) : Int) % 256 = (z + 1) % 256 by have := HZ.out; simp; omega]
              exact five_sets R3.out _ _ _ _ _
            · exact Lib.hid (grown_set (grown_set (grown_set (grown_set (grown_set (grown_below (grown_drew G2) hb3) _ _) _ _) _ _) _ _) _ _)
          case measure => simp [intOf]; omega
      · have ht1 : ((z + 1) % 8 == 0) = false := by have := HZ.out; simp; omega
        have ht2 : ((z + 1) % 256 % 8 == 0) = false := by have := HZ.out; simp; omega
        have HM := Lib.hid (And.intro (more_none (idL K) X c (by omega)) (more_left X c (by omega)).2)
        clear h7
        go_wp2
        go_region
        go_wp2
        go_roundw
        case rel =>
          refine ⟨k + 1, by omega, by go_num, ?_, ?_⟩
          · rw [HN.out]
            refine Lib.hid ⟨HAll.out, ?_⟩
            rw [HM.out.1, HM.out.2, HV.out, show (((X ++ [c]).length : Nat) : Int) % 256 = (z + 1) % 256 by have := HZ.out; simp; omega]
            exact two_sets R.out _ _
          · exact Lib.hid (grown_set (grown_drew (grown_set hg.out _ _)) _ _)
        case measure => simp [intOf]; omega
    · obtain rfl : k = len := by omega
      have hd : decide (k < k) = false := by simp
      have hr1 := hr.out
      rw [List.take_of_length_le (by rw [HL.out]; exact Nat.le_refl _)] at hr1
      have HR := Lib.hid hr1
      clear hr1
      go_wp2
      go_end0
      exact ⟨rfl, HR.out, hg.out⟩
end Go.Proofs.Ytmkpeidgimgdlaa.Sc
