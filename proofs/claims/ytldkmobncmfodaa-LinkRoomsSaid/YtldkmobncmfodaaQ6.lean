/-
  Texts beneath the proof, one behind the other.
-/
import Derived.Deep.RegionLaw
import Derived.Deep.RegionWith
import Derived.Deep.DeepMust
import Derived.Deep.Cut
import Derived.Lib.SlBytesConst
import Derived.Lib.AppendZerosOnto
import Derived.Test.YtldkmobncmfodaaQ4
import Derived.Test.YtldkmobncmfodaaQ3
import Derived.Test.YtldkmobncmfodaaQ5

/-
  What Lookup answers: the hash of the bytes that the slice has.
-/
namespace Go.Proofs.Ytldkmobncmfodaa.Hd
open Go.ChangeShapes Go.WideShapes Go.ChangeAt Go.RowKit
open Bytes8 Blk8 LeNum LeA LeB Hm Ha Hb Hc
set_option linter.unusedVariables false
set_option maxRecDepth 100000

theorem w4_drop (l : List Int) (k o : Nat) : w4 (l.drop k) o = w4 l (k + o) := by simp [w4, List.drop_drop]
theorem w4_take (l : List Int) (n o : Nat) (h : o + 4 ≤ n) : w4 (l.take n) o = w4 l o := by
  unfold w4
  rw [List.drop_take, List.take_take, Nat.min_eq_left (by omega)]
theorem plus3_drop (t : Trio) (l : List Int) (k : Nat) : plus3 t (l.drop k) 0 = plus3 t l k := by
  simp only [plus3, w4_drop, Nat.add_zero]
theorem plus3_take (t : Trio) (l : List Int) : plus3 t (l.take 12) 0 = plus3 t l 0 := by
  simp only [plus3, w4_take l 12 0 (by omega), w4_take l 12 (0 + 4) (by omega), w4_take l 12 (0 + 8) (by omega)]

theorem trioAt_succ (l : List Int) (k : Nat) : trioAt l (k + 1) = mix (plus3 (trioAt l k) (l.drop (12 * k)) 0) := by
  rw [plus3_drop]; rfl

end Go.Proofs.Ytldkmobncmfodaa.Hd

/-
  What both Lookups answer, of nothing too.
-/
namespace Go.Proofs.Ytldkmobncmfodaa.Se
open Go.ChangeShapes Go.WideShapes Go.ChangeAt Go.RowKit
open Bytes8 Blk8 LeNum Hm Ha Hb Hc Hd He Hf
set_option linter.unusedVariables false
set_option maxRecDepth 100000

theorem rlook_all (A : Option Addr) (l : List Int) (len cap : Nat) (w : World) (hb : Bytes w A l) (hL : l.length = len) (hmax : len ≤ 800000) :
    Calls Try.prog 62 #[.slice A len cap] w fun e w' => e = .returned (.int .u64 (lookS l)) ∧ w = w' := by
  by_cases h0 : 0 < len
  · exact rlook_any A l len cap w hb hL h0 (by omega)
  · obtain rfl : len = 0 := by omega
    obtain rfl : l = [] := List.eq_nil_of_length_eq_zero hL
    exact rlook_nil A cap w

end Go.Proofs.Ytldkmobncmfodaa.Se

/-
  What the document's own rounds, and its Sip, answer.
-/
namespace Go.Proofs.Ytldkmobncmfodaa.Sb
open Go.ChangeShapes Go.WideShapes Go.ChangeAt Go.RowKit
open Bytes8 Blk8 LeNum Hm Ha Hb He
set_option linter.unusedVariables false
set_option maxRecDepth 100000

set_option maxHeartbeats 1000000 in
theorem rrounds_any (p q r s : Int) (n : Nat) (w : World) (h : (⟨p, q, r, s⟩ : Quad).ok) (hn : n ≤ 1000) :
    Calls Try.prog 76 #[.agg #[.int .u64 p, .int .u64 q, .int .u64 r, .int .u64 s], .int .i64 n] w fun e w' => e = .returned (.agg #[.int .u64 (rounds ⟨p, q, r, s⟩ n).p, .int .u64 (rounds ⟨p, q, r, s⟩ n).q, .int .u64 (rounds ⟨p, q, r, s⟩ n).r, .int .u64 (rounds ⟨p, q, r, s⟩ n).s]) ∧ Below w.heap.size w w' := by
  have HF := Lib.hid h
  go_enter Try.func76, Try.ntmps76
  go_wp2
  go_quiet (fail)
  go_wp2
  go_loop [5, 6, 7, 8, 9] (fun a b c d i => ∃ k : Nat, k ≤ n ∧ i = .int .i64 k ∧ a = .int .u64 (rounds ⟨p, q, r, s⟩ k).p ∧ b = .int .u64 (rounds ⟨p, q, r, s⟩ k).q ∧ c = .int .u64 (rounds ⟨p, q, r, s⟩ k).r ∧ d = .int .u64 (rounds ⟨p, q, r, s⟩ k).s) (fun _ _ _ _ i => n - (intOf i).toNat)
  case atStart => exact ⟨0, Nat.zero_le _, rfl, rfl, rfl, rfl, rfl⟩
  case round =>
    obtain ⟨k, hk, rfl, rfl, rfl, rfl, rfl⟩ := hrel
    have HO := Lib.hid (rounds_ok ⟨p, q, r, s⟩ HF.out k)
    by_cases hlt : k < n
    · have HN := Lib.hid (show rounds ⟨p, q, r, s⟩ (k + 1) = round (rounds ⟨p, q, r, s⟩ k) from rfl)
      generalize rounds ⟨p, q, r, s⟩ k = F at *
      obtain ⟨P, Q, R, S⟩ := F
      obtain ⟨⟨p0, p1⟩, ⟨q0, q1⟩, ⟨r0, r1⟩, ⟨s0, s1⟩⟩ := HO.out
      simp only at p0 p1 q0 q1 r0 r1 s0 s1
      go_wp2_with (go_at_call 84; (with_reducible refine (up_any _ _ _ (by first | assumption | exact (b64 _ _ _).1 | exact (rot64_bd _ _).1 | exact (wrap64_bd _).1 | omega) (by first | assumption | exact (b64 _ _ _).2 | exact (rot64_bd _ _).2 | exact (wrap64_bd _).2 | omega) (by decide) (by decide)).mono ?_); rintro e w' ⟨rfl, rfl⟩)
      go_round
      case rel =>
        refine ⟨k + 1, by omega, by go_num, ?_, ?_, ?_, ?_⟩ <;> rw [HN.out] <;> simp [round, add64, xor64, IntKind.wrap_u64]
      case measure => simp [intOf]; omega
    · obtain rfl : k = n := by omega
      go_wp2
      generalize rounds ⟨p, q, r, s⟩ k = F at *
      refine bodyPost_ret (v := .agg #[.int .u64 F.p, .int .u64 F.q, .int .u64 F.r, .int .u64 F.s]) (by simp [results, Try.results76, go_sem]) rfl ⟨rfl, ?_⟩
      repeat (first | (with_reducible exact Below.refl _ _) | refine Below.setCell ?_ (by simp) _ | refine Below.alloc ?_ (by simp) _ | refine below_drewN ?_ _)

theorem eight_key (K : Nat → Int) (A : Option Addr) (o : Nat) (i : Int) (hi : i = o) (ho : o ≤ 8) (w : World) (hb : Bytes w A (idL K)) :
    Calls Try.prog 75 #[.slice A 16 16, .int .i64 i] w fun e w' => e = .returned (.int .u64 (w8 (idL K) o)) ∧ w = w' := by
  subst hi; exact eight_any A (idL K) 16 16 o w hb rfl (by decide) (by omega)

def Four (w0 : World) (g : Nat) (f : Quad) (w : World) : Prop := Blk w g [.int .u64 f.p, .int .u64 f.q, .int .u64 f.r, .int .u64 f.s] 156 ∧ Below w0.heap.size w0 w

theorem rrounds_q (f : Quad) (n : Nat) (i : Int) (hi : i = n) (hn : n ≤ 1000) (w : World) (h : f.ok) :
    Calls Try.prog 76 #[.agg #[.int .u64 f.p, .int .u64 f.q, .int .u64 f.r, .int .u64 f.s], .int .i64 i] w fun e w' => e = .returned (.agg #[.int .u64 (rounds f n).p, .int .u64 (rounds f n).q, .int .u64 (rounds f n).r, .int .u64 (rounds f n).s]) ∧ Below w.heap.size w w' := by
  subst hi; exact rrounds_any f.p f.q f.r f.s n w h hn

theorem four_step (w0 w : World) (g : Nat) (a b c d p q r s e : Value) (f : Quad) (h : Blk w g [p, q, r, s] 156) (hb : Below w0.heap.size w0 w) (hg : w0.heap.size ≤ g) (e0 : e = .int .u64 f.p) (e1 : b = .int .u64 f.q) (e2 : c = .int .u64 f.r) (e3 : d = .int .u64 f.s) :
    Four w0 g f (((((w.setCell ⟨g, 0, none⟩ a).setCell ⟨g, 1, none⟩ b).setCell ⟨g, 2, none⟩ c).setCell ⟨g, 3, none⟩ d).setCell ⟨g, 0, none⟩ e) := by
  subst e0; subst e1; subst e2; subst e3
  exact ⟨((((h.set_ 0 _).set_ 1 _).set_ 2 _).set_ 3 _).set_ 0 _, ((((hb.setCell hg _).setCell hg _).setCell hg _).setCell hg _).setCell hg _⟩
theorem six_below {w0 w : World} {B g : Nat} (h : Below B w0 w) (hg : B ≤ g) (a b c d e f : Value) :
    Below B w0 ((((((w.setCell ⟨g, 0, none⟩ a).setCell ⟨g, 1, none⟩ b).setCell ⟨g, 2, none⟩ c).setCell ⟨g, 3, none⟩ d).setCell ⟨g, 0, none⟩ e).setCell ⟨g, 2, none⟩ f) :=
  (((((h.setCell hg _).setCell hg _).setCell hg _).setCell hg _).setCell hg _).setCell hg _
theorem six_sets {w : World} {g : Nat} {p q r s : Value} {T : TypeId} (h : Blk w g [p, q, r, s] T) (a b c d e f : Value) :
    Blk ((((((w.setCell ⟨g, 0, none⟩ a).setCell ⟨g, 1, none⟩ b).setCell ⟨g, 2, none⟩ c).setCell ⟨g, 3, none⟩ d).setCell ⟨g, 0, none⟩ e).setCell ⟨g, 2, none⟩ f) g [e, b, f, d] T :=
  (((((h.set_ 0 _).set_ 1 _).set_ 2 _).set_ 3 _).set_ 0 _).set_ 2 _
theorem quad_next (key l : List Int) (k : Nat) (o : Nat) (ho : o = 8 * k) : quadAt key l (k + 1) = quadPlus (quadAt key l k) (w8 l o) := by subst ho; rfl
theorem quadPlus_two (f : Quad) (m : Int) : quadPlus f m = ⟨bits .xor .u64 (rounds ⟨f.p, f.q, f.r, bits .xor .u64 f.s m⟩ 2).p m, (rounds ⟨f.p, f.q, f.r, bits .xor .u64 f.s m⟩ 2).q, (rounds ⟨f.p, f.q, f.r, bits .xor .u64 f.s m⟩ 2).r, (rounds ⟨f.p, f.q, f.r, bits .xor .u64 f.s m⟩ 2).s⟩ := rfl

theorem sipEnd_two (f : Quad) (m : Int) : sipEnd f m = bits .xor .u64 (bits .xor .u64 (bits .xor .u64 (rounds ⟨bits .xor .u64 (rounds ⟨f.p, f.q, f.r, bits .xor .u64 f.s m⟩ 2).p m, (rounds ⟨f.p, f.q, f.r, bits .xor .u64 f.s m⟩ 2).q, bits .xor .u64 (rounds ⟨f.p, f.q, f.r, bits .xor .u64 f.s m⟩ 2).r 255, (rounds ⟨f.p, f.q, f.r, bits .xor .u64 f.s m⟩ 2).s⟩ 4).p (rounds ⟨bits .xor .u64 (rounds ⟨f.p, f.q, f.r, bits .xor .u64 f.s m⟩ 2).p m, (rounds ⟨f.p, f.q, f.r, bits .xor .u64 f.s m⟩ 2).q, bits .xor .u64 (rounds ⟨f.p, f.q, f.r, bits .xor .u64 f.s m⟩ 2).r 255, (rounds ⟨f.p, f.q, f.r, bits .xor .u64 f.s m⟩ 2).s⟩ 4).q) (rounds ⟨bits .xor .u64 (rounds ⟨f.p, f.q, f.r, bits .xor .u64 f.s m⟩ 2).p m, (rounds ⟨f.p, f.q, f.r, bits .xor .u64 f.s m⟩ 2).q, bits .xor .u64 (rounds ⟨f.p, f.q, f.r, bits .xor .u64 f.s m⟩ 2).r 255, (rounds ⟨f.p, f.q, f.r, bits .xor .u64 f.s m⟩ 2).s⟩ 4).r) (rounds ⟨bits .xor .u64 (rounds ⟨f.p, f.q, f.r, bits .xor .u64 f.s m⟩ 2).p m, (rounds ⟨f.p, f.q, f.r, bits .xor .u64 f.s m⟩ 2).q, bits .xor .u64 (rounds ⟨f.p, f.q, f.r, bits .xor .u64 f.s m⟩ 2).r 255, (rounds ⟨f.p, f.q, f.r, bits .xor .u64 f.s m⟩ 2).s⟩ 4).s := rfl

set_option maxRecDepth 100000 in
set_option maxHeartbeats 2000000 in
theorem rsip_any (K : Nat → Int) (A : Option Addr) (l : List Int) (len cap : Nat) (w : World) (hk : IdOk K) (hb : Bytes w A l) (hL : l.length = len) (hmax : len ≤ 800000) :
    Calls Try.prog 61 #[idV K, .slice A len cap] w fun e w' => e = .returned (.int .u64 (sipS (idL K) l)) ∧ Below w.heap.size w w' := by
  have HK := Lib.hid (id_boxed 35 K hk w)
  have HB := Lib.hid (And.intro hb hL)
  have HQ := Lib.hid (quadAt_ok (idL K) l)
  clear hb hL
  have HE0 := Lib.hid fun n => quiet_kept (n := n) (eight_key K _ 0 0 rfl (by decide) _ (HK.out.drewN n))
  have HE8 := Lib.hid fun n => quiet_kept (n := n) (eight_key K _ 8 8 rfl (by decide) _ (HK.out.drewN n))
  go_enter Try.func61, Try.ntmps61
  go_wp2
  go_quiet ((go_at_call 75; first | with_reducible exact HE0.out _ | with_reducible exact HE8.out _))
  go_wp2
  go_loopw [8] (fun i wr => ∃ k o : Nat, Hid (o = 8 * k) ∧ o ≤ len ∧ i = .int .i64 o ∧ Hid (Four w (w.heap.size + 1) (quadAt (idL K) l k) wr)) (fun i _ => len - (intOf i).toNat)
  case atStart => exact ⟨0, 0, Lib.hid rfl, Nat.zero_le _, rfl, Lib.hid ⟨Blk.new_at _ _ _ _ (by simp), below_drewN ((Below.refl _ _).alloc (Nat.le_refl _) _) _ |>.alloc (by simp) _⟩⟩
  case round =>
    obtain ⟨k, o, ho, hlt, rfl, hr⟩ := hrel
    have R1 := Lib.hid hr.out.1
    have R2 := Lib.hid hr.out.2
    have hz := R1.out.lt
    have HM := Lib.hid (eight_any A l len cap o wr (HB.out.1.below R2.out (Nat.le_refl _)) HB.out.2 (by omega) (by omega))
    have HO := Lib.hid (HQ.out k)
    have hn := quad_next (idL K) l k o ho.out
    rw [quadPlus_two] at hn
    have HN := Lib.hid hn
    clear hn
    have HR := Lib.hid fun W => rrounds_q ⟨(quadAt (idL K) l k).p, (quadAt (idL K) l k).q, (quadAt (idL K) l k).r, bits .xor .u64 (quadAt (idL K) l k).s (w8 l o)⟩ 2 2 rfl (by decide) W ⟨HO.out.1, HO.out.2.1, HO.out.2.2.1, b64 .xor _ _⟩
    simp only at HR
    have g0 := R1.out.cell (i := 0) rfl
    have g1 := R1.out.cell (i := 1) rfl
    have g2 := R1.out.cell (i := 2) rfl
    have g3 := R1.out.cell (i := 3) rfl
    have f0 := R1.out.frozen 0
    have f1 := R1.out.frozen 1
    have f2 := R1.out.frozen 2
    have f3 := R1.out.frozen 3
    by_cases h8 : o + 8 ≤ len
    · have hd : decide (o + 8 ≤ len) = true := by simpa using h8
      generalize rounds ⟨(quadAt (idL K) l k).p, (quadAt (idL K) l k).q, (quadAt (idL K) l k).r, bits .xor .u64 (quadAt (idL K) l k).s (w8 l o)⟩ 2 = G at *
      generalize quadAt (idL K) l k = F at *
      generalize w8 l o = m at *
      go_wp2_with (first | (go_at_call 75; (with_reducible refine HM.out.mono ?_); rintro e w' ⟨rfl, rfl⟩) | (go_at_call 76; (with_reducible refine (HR.out _).mono ?_); rintro e w2 ⟨rfl, hb2⟩; have R3 := Lib.hid ((R1.out.set_ 3 _).below hb2 (by simpa using hz)); have c0 := R3.out.cell (i := 0) rfl; have c1 := R3.out.cell (i := 1) rfl; have c2 := R3.out.cell (i := 2) rfl; have c3 := R3.out.cell (i := 3) rfl; have h0 := R3.out.frozen 0; have h1 := R3.out.frozen 1; have h2 := R3.out.frozen 2; have h3 := R3.out.frozen 3))
      go_roundw
      case rel =>
        have hzw := R2.out.size
        refine ⟨k + 1, o + 8, Lib.hid (by have := ho.out; omega), by omega, by go_num, Lib.hid (four_step w w2 (w.heap.size + 1) _ _ _ _ _ _ _ _ _ _ R3.out ((R2.out.setCell (by simp) _).trans (hb2.mono (by simpa using hzw))) (by simp) ?_ ?_ ?_ ?_)⟩ <;> rw [HN.out]
      case measure => simp [intOf]; omega
    · have hd : decide (o + 8 ≤ len) = false := by simpa using h8
      clear HN HR
      have hk : l.length / 8 = k := by rw [HB.out.2]; have := ho.out; omega
      obtain ⟨M, hM⟩ : ∃ M, bits .or .u64 (w8 l o) ((len : Int) % 256 * 72057594037927936) = M := ⟨_, rfl⟩
      have he := (show sipS (idL K) l = sipEnd (quadAt (idL K) l k) M by
        unfold sipS last8; rw [hk, HB.out.2, ← ho.out, hM])
      rw [sipEnd_two] at he
      have HE := Lib.hid he
      clear he
      have HR := Lib.hid fun W => rrounds_q ⟨(quadAt (idL K) l k).p, (quadAt (idL K) l k).q, (quadAt (idL K) l k).r, bits .xor .u64 (quadAt (idL K) l k).s M⟩ 2 2 rfl (by decide) W ⟨HO.out.1, HO.out.2.1, HO.out.2.2.1, b64 .xor _ _⟩
      have HG := Lib.hid (rounds_ok ⟨(quadAt (idL K) l k).p, (quadAt (idL K) l k).q, (quadAt (idL K) l k).r, bits .xor .u64 (quadAt (idL K) l k).s M⟩ ⟨HO.out.1, HO.out.2.1, HO.out.2.2.1, b64 .xor _ _⟩ 2)
      simp only at HR
      clear hk
      generalize rounds ⟨(quadAt (idL K) l k).p, (quadAt (idL K) l k).q, (quadAt (idL K) l k).r, bits .xor .u64 (quadAt (idL K) l k).s M⟩ 2 = G at HE HR HG
      generalize quadAt (idL K) l k = F at *
      have HR4 := Lib.hid fun W => rrounds_q ⟨bits .xor .u64 G.p M, G.q, bits .xor .u64 G.r 255, G.s⟩ 4 4 rfl (by decide) W ⟨b64 .xor _ _, HG.out.2.1, b64 .xor _ _, HG.out.2.2.2⟩
      simp only at HR4
      generalize rounds ⟨bits .xor .u64 G.p M, G.q, bits .xor .u64 G.r 255, G.s⟩ 4 = J at HE HR4
      generalize w8 l o = m at HM hM
      go_upto_region 15 with (first | (go_at_call 75; (with_reducible refine HM.out.mono ?_); rintro e w' ⟨rfl, rfl⟩) | (go_at_call 76; (with_reducible refine (HR.out _).mono ?_); rintro e w2 ⟨rfl, hb2⟩; have R3 := Lib.hid ((R1.out.set_ 3 _).below hb2 (by simpa using hz)); have c0 := R3.out.cell (i := 0) rfl; have c1 := R3.out.cell (i := 1) rfl; have c2 := R3.out.cell (i := 2) rfl; have c3 := R3.out.cell (i := 3) rfl; have h0 := R3.out.frozen 0; have h1 := R3.out.frozen 1; have h2 := R3.out.frozen 2; have h3 := R3.out.frozen 3; have hz2 := R3.out.lt; clear hM g0 g1 g2 g3 f0 f1 f2 f3) | (go_at_call 76; go_must ((with_reducible refine (HR4.out _).mono ?_); rintro e w4 ⟨rfl, hb4⟩; have R4 := Lib.hid ((((((R3.out.set_ 0 _).set_ 1 _).set_ 2 _).set_ 3 _).set_ 0 _).set_ 2 _ |>.below hb4 (by simpa using hz2)); have a0 := R4.out.cell (i := 0) rfl; have a1 := R4.out.cell (i := 1) rfl; have a2 := R4.out.cell (i := 2) rfl; have a3 := R4.out.cell (i := 3) rfl; have b0 := R4.out.frozen 0; have b1 := R4.out.frozen 1; have b2 := R4.out.frozen 2; have b3 := R4.out.frozen 3; clear c0 c1 c2 c3 h0 h1 h2 h3)))
      have hzw := R2.out.size
      have k2 : Below w.heap.size w w2 := (R2.out.setCell (by simp) _).trans (hb2.mono (by simpa using hzw))
      have k5 := six_below k2 (g := w.heap.size + 1) (by simp) (.int .u64 G.p) (.int .u64 G.q) (.int .u64 G.r) (.int .u64 G.s) (.int .u64 (bits .xor .u64 G.p M)) (.int .u64 (bits .xor .u64 G.r 255))
      have R5 := six_sets R3.out (.int .u64 G.p) (.int .u64 G.q) (.int .u64 G.r) (.int .u64 G.s) (.int .u64 (bits .xor .u64 G.p M)) (.int .u64 (bits .xor .u64 G.r 255))
      generalize (((((w2.setCell ⟨w.heap.size + 1, 0, none⟩ (.int .u64 G.p)).setCell ⟨w.heap.size + 1, 1, none⟩ (.int .u64 G.q)).setCell ⟨w.heap.size + 1, 2, none⟩ (.int .u64 G.r)).setCell ⟨w.heap.size + 1, 3, none⟩ (.int .u64 G.s)).setCell ⟨w.heap.size + 1, 0, none⟩ (.int .u64 (bits .xor .u64 G.p M))).setCell ⟨w.heap.size + 1, 2, none⟩ (.int .u64 (bits .xor .u64 G.r 255)) = w5 at k5 R5 ⊢
      have hz5 := R5.lt
      have R5 := Lib.hid R5
      have c0 := R5.out.cell (i := 0) rfl
      have c1 := R5.out.cell (i := 1) rfl
      have c2 := R5.out.cell (i := 2) rfl
      have c3 := R5.out.cell (i := 3) rfl
      have h0 := R5.out.frozen 0
      have h1 := R5.out.frozen 1
      have h2 := R5.out.frozen 2
      have h3 := R5.out.frozen 3
      go_wp2_with (go_at_call 76; (with_reducible refine (HR4.out _).mono ?_); rintro e w4 ⟨rfl, hb4⟩; have R4 := Lib.hid (R5.out.below hb4 hz5); have a0 := R4.out.cell (i := 0) rfl; have a1 := R4.out.cell (i := 1) rfl; have a2 := R4.out.cell (i := 2) rfl; have a3 := R4.out.cell (i := 3) rfl; have b0 := R4.out.frozen 0; have b1 := R4.out.frozen 1; have b2 := R4.out.frozen 2; have b3 := R4.out.frozen 3; clear c0 c1 c2 c3 h0 h1 h2 h3)
      go_ret
      refine ⟨ret_int HE.out.symm, ?_⟩
      have k4 : Below w.heap.size w w4 := k5.trans (hb4.mono (by omega))
      repeat (first | (with_reducible exact k4) | refine Below.setCell ?_ (by simp) _)
end Go.Proofs.Ytldkmobncmfodaa.Sb

/-
  What the document's own Of answers.
-/
namespace Go.Proofs.Ytldkmobncmfodaa.Sg
open Go.ChangeShapes Go.WideShapes Go.ChangeAt Go.RowKit
open Bytes8 Blk8 LeNum Hm Ha Hb He Sb Se
set_option linter.unusedVariables false
set_option maxRecDepth 100000

def ofS (t : Bool) (key l : List Int) : Int := if t then sipS key l else lookS l

theorem rof_any (t : Bool) (K : Nat → Int) (A : Option Addr) (l : List Int) (len cap : Nat) (w : World) (hk : IdOk K) (hb : Bytes w A l) (hL : l.length = len) (hmax : len ≤ 800000) :
    Calls Try.prog 41 #[.bool t, idV K, .slice A len cap] w fun e w' => e = .returned (.int .u64 (ofS t (idL K) l)) ∧ Below w.heap.size w w' := by
  have HB := Lib.hid hb
  cases t with
  | true =>
    have HC := Lib.hid (rsip_any K A l len cap (w.alloc (idC 35 K)) hk (hb.below ((Below.refl _ _).alloc (Nat.le_refl _) _) (Nat.le_refl _)) hL hmax)
    clear hb
    go_enter Try.func41, Try.ntmps41
    go_wp2_with (go_at_call 61; (with_reducible refine HC.out.mono ?_); rintro e w1 ⟨rfl, hb1⟩)
    go_ret
    exact ⟨rfl, ((Below.refl w.heap.size w).alloc (Nat.le_refl _) _).trans (hb1.mono (by simp))⟩
  | false =>
    have HC := Lib.hid (rlook_all A l len cap (w.alloc (idC 35 K)) (hb.below ((Below.refl _ _).alloc (Nat.le_refl _) _) (Nat.le_refl _)) hL hmax)
    clear hb
    go_enter Try.func41, Try.ntmps41
    go_wp2_with (go_at_call 62; (with_reducible refine HC.out.mono ?_); rintro e w' ⟨rfl, rfl⟩)
    go_ret
    exact ⟨rfl, (Below.refl w.heap.size w).alloc (Nat.le_refl _) _⟩

end Go.Proofs.Ytldkmobncmfodaa.Sg

/-
  Xor of payloads: plain, and the program's.
-/
namespace Go.Proofs.Ytldkmobncmfodaa.Ya
open Go.ChangeShapes Go.WideShapes Go.ChangeAt Go.RowKit
open Bytes8 Blk8 Own8 OwnM OwnE OwnA LeNum Hm Ha Hb Hc Hd He Hf Se Rows2 Dc Ff
set_option linter.unusedVariables false
set_option linter.unusedSimpArgs false
set_option maxRecDepth 100000

theorem ans_bd (t : Trio) : 0 ≤ ans t ∧ ans t ≤ 18446744073709551615 := b64 _ _ _
theorem lookS_bd (l : List Int) : 0 ≤ lookS l ∧ lookS l ≤ 18446744073709551615 := by
  unfold lookS
  split <;> exact ans_bd _
def lookN (l : List Int) : Nat := (lookS l).toNat
theorem lookN_is (l : List Int) : lookS l = (lookN l : Int) := by unfold lookN; have := lookS_bd l; omega
theorem lookN_lt (l : List Int) : lookN l < 2 ^ 64 := by unfold lookN; have := lookS_bd l; omega
/-- Xor of rows. -/
def xr (l : List (List Int)) : Nat := l.foldr (fun p v => v ^^^ lookN p) 0
theorem xr_nil : xr [] = 0 := rfl
theorem xr_cons (p : List Int) (l : List (List Int)) : xr (p :: l) = xr l ^^^ lookN p := rfl
theorem xr_lt (l : List (List Int)) : xr l < 2 ^ 64 := by
  induction l with
  | nil => decide
  | cons p l ih => rw [xr_cons]; exact Nat.xor_lt_two_pow ih (lookN_lt p)
theorem xr_app (l m : List (List Int)) : xr (l ++ m) = xr l ^^^ xr m := by
  induction l with
  | nil => simp [xr_nil]
  | cons p l ih => rw [List.cons_append, xr_cons, xr_cons, ih, Nat.xor_assoc, Nat.xor_assoc, Nat.xor_comm (xr m)]
theorem xr_snoc (l : List (List Int)) (p : List Int) : xr (l ++ [p]) = xr l ^^^ lookN p := by rw [xr_app, xr_cons, xr_nil, Nat.zero_xor]
theorem xr_rev (l : List (List Int)) : xr l.reverse = xr l := by
  induction l with
  | nil => rfl
  | cons p l ih => rw [List.reverse_cons, xr_snoc, xr_cons, ih]
/-- The rows up to the k-th. -/
def rowsL (P : Nat → List Int) (k : Nat) : List (List Int) := (List.range k).map P
theorem rowsL_succ (P : Nat → List Int) (k : Nat) : rowsL P (k + 1) = rowsL P k ++ [P k] := by simp [rowsL, List.range_succ]
theorem rowsL_zero (P : Nat → List Int) : rowsL P 0 = [] := rfl
theorem xr_step (P : Nat → List Int) (k : Nat) : xr (rowsL P (k + 1)) = xr (rowsL P k) ^^^ lookN (P k) := by rw [rowsL_succ, xr_snoc]
theorem xr_bits (P : Nat → List Int) (k : Nat) : bits .xor .u64 ((xr (rowsL P k) : Nat) : Int) (lookS (P k)) = ((xr (rowsL P (k + 1)) : Nat) : Int) := by
  rw [lookN_is, xr_step]
  exact u64_xor_nat _ _ (xr_lt _) (lookN_lt _)

end Go.Proofs.Ytldkmobncmfodaa.Ya

/-
  What a call leaves that writes blocks of a known set; rows of the call's own beside each other; 'append' of zeros by number.
-/
namespace Go.Proofs.Ytldkmobncmfodaa.Kf
open Go.ChangeShapes Go.WideShapes Go.ChangeAt Go.RowKit
open Bytes8 Blk8 Own8 OwnM OwnA
set_option linter.unusedVariables false
set_option maxRecDepth 100000
set_option linter.unusedSimpArgs false

/-- Blocks that were there, but those of F, are as they were. -/
structure KeptF (F : Nat → Prop) (w w' : World) : Prop where
  os : w'.os = w.os
  tape : w'.tape = w.tape
  output : w'.output = w.output
  size : w.heap.size ≤ w'.heap.size
  block : ∀ k, k < w.heap.size → ¬ F k → w'.heap[k]? = w.heap[k]?

/-- F, and what is new since. -/
def Ext (F : Nat → Prop) (w w' : World) (k : Nat) : Prop := F k ∨ (w.heap.size ≤ k ∧ k < w'.heap.size)
def None' (k : Nat) : Prop := False
def One (g : Nat) (k : Nat) : Prop := k = g
/-- All of them are there. -/
def Foot (w : World) (F : Nat → Prop) : Prop := ∀ k, F k → k < w.heap.size
/-- No block is in both. -/
def Off (F G : Nat → Prop) : Prop := ∀ k, F k → ¬ G k

theorem KeptF.refl (F : Nat → Prop) (w : World) : KeptF F w w := ⟨rfl, rfl, rfl, Nat.le_refl _, fun _ _ _ => rfl⟩
theorem KeptF.trans {F G : Nat → Prop} {a b c : World} (h : KeptF F a b) (k : KeptF G b c) (hG : ∀ i, i < a.heap.size → G i → F i) : KeptF F a c :=
  ⟨k.os.trans h.os, k.tape.trans h.tape, k.output.trans h.output, Nat.le_trans h.size k.size, fun i hi hF => (k.block i (Nat.lt_of_lt_of_le hi h.size) (fun hg => hF (hG i hi hg))).trans (h.block i hi hF)⟩
theorem KeptF.then {F : Nat → Prop} {a b c : World} (h : KeptF F a b) (k : KeptF (Ext F a b) b c) : KeptF F a c :=
  h.trans k fun i hi he => by
    rcases he with h1 | h1
    · exact h1
    · omega
theorem KeptF.mono {F G : Nat → Prop} {w w' : World} (h : KeptF F w w') (hG : ∀ i, F i → G i) : KeptF G w w' :=
  ⟨h.os, h.tape, h.output, h.size, fun i hi hg => h.block i hi (fun hf => hg (hG i hf))⟩
theorem KeptF.of_below {F : Nat → Prop} {w w' : World} (h : Below w.heap.size w w') : KeptF F w w' := ⟨h.os, h.tape, h.output, h.size, fun k hk _ => h.block k hk⟩
theorem KeptF.below {F : Nat → Prop} {B : Nat} {w w' : World} (h : KeptF F w w') (hB : B ≤ w.heap.size) (hF : ∀ k, F k → B ≤ k) : Below B w w' :=
  ⟨h.os, h.tape, h.output, h.size, fun k hk => h.block k (by omega) (fun hf => by have := hF k hf; omega)⟩
/-- .. behind a Below. -/
theorem below_then {F : Nat → Prop} {B : Nat} {a b c : World} (h : Below B a b) (k : KeptF F b c) (hB : B ≤ b.heap.size) (hF : ∀ k, F k → B ≤ k) : Below B a c := h.trans (k.below hB hF)
theorem KeptF.alloc {F : Nat → Prop} {a w : World} (h : KeptF F a w) (o : Obj) : KeptF F a (w.alloc o) :=
  h.trans (G := None') (KeptF.of_below ((Below.refl _ _).alloc (Nat.le_refl _) o)) fun _ _ h => h.elim
theorem KeptF.drew {F : Nat → Prop} {a w : World} (h : KeptF F a w) : KeptF F a w.drew := ⟨h.os, h.tape, h.output, h.size, h.block⟩
theorem KeptF.drewN {F : Nat → Prop} {a w : World} (h : KeptF F a w) (n : Nat) : KeptF F a (w.drewN n) := ⟨h.os, h.tape, h.output, h.size, h.block⟩
theorem KeptF.setCell {F : Nat → Prop} {a w : World} (h : KeptF F a w) {p : Addr} (hp : p.block < a.heap.size → F p.block) (u : Value) : KeptF F a (w.setCell p u) :=
  ⟨h.os, h.tape, h.output, Nat.le_trans h.size (by simp [World.setCell]), fun k hk hF => (Below.heap_setCell _ _ _ _ (fun e => hF (by rw [e]; exact hp (by omega)))).trans (h.block k hk hF)⟩
theorem KeptF.set1 (w : World) (g i : Nat) (u : Value) : KeptF (One g) w (w.setCell ⟨g, i, none⟩ u) := (KeptF.refl (One g) w).setCell (p := ⟨g, i, none⟩) (fun _ => (rfl : g = g)) u
theorem KeptF.grown {F : Nat → Prop} {a w w' : World} {row : Option Nat} (h : KeptF F a w) (hg : w.grownBy w' row) (hr : ∀ k, row = some k → k < a.heap.size → F k) : KeptF F a w' :=
  ⟨hg.os.trans h.os, hg.tape.trans h.tape, hg.output.trans h.output, Nat.le_trans h.size hg.size, fun k hk hF => (hg.block k (Nat.lt_of_lt_of_le hk h.size) (fun e => hF (hr k e.symm hk))).trans (h.block k hk hF)⟩
theorem KeptF.grow {w w' : World} (row : Option Nat) (hg : w.grownBy w' row) : KeptF (fun k => row = some k) w w' := (KeptF.refl _ w).grown hg fun _ h _ => h

theorem Ext.low {F : Nat → Prop} {B : Nat} {w w' : World} (hB : B ≤ w.heap.size) (hF : ∀ k, F k → B ≤ k) : ∀ k, Ext F w w' k → B ≤ k := fun k h => by
  rcases h with h | h
  · exact hF k h
  · omega
theorem Ext.foot {F : Nat → Prop} {w w' : World} (hF : Foot w F) (h : w.heap.size ≤ w'.heap.size) : Foot w' (Ext F w w') := fun k hk => by
  rcases hk with hk | hk
  · exact Nat.lt_of_lt_of_le (hF k hk) h
  · exact hk.2
theorem Ext.off {F G : Nat → Prop} {w w' : World} (h : Off F G) (hG : Foot w G) : Off (Ext F w w') G := fun k hk hg => by
  rcases hk with hk | hk
  · exact h k hk hg
  · have := hG k hg; omega
theorem Ext.off' {F G : Nat → Prop} {w w' : World} (h : Off G F) (hG : Foot w G) : Off G (Ext F w w') := fun k hg hk => by
  rcases hk with hk | hk
  · exact h k hg hk
  · have := hG k hg; omega
theorem Ext.ext {F : Nat → Prop} {a b b2 c : World} (h1 : a.heap.size ≤ b.heap.size) (h2 : b2.heap.size = b.heap.size) (h3 : b.heap.size ≤ c.heap.size) : ∀ k, Ext (Ext F a b) b2 c k → Ext F a c k := fun k hk => by
  rcases hk with (hk | hk) | hk
  · exact .inl hk
  · exact .inr ⟨hk.1, by omega⟩
  · exact .inr ⟨by omega, hk.2⟩
theorem Off.symm {F G : Nat → Prop} (h : Off F G) : Off G F := fun k h1 h2 => h k h2 h1
theorem Foot.kept {F : Nat → Prop} {w w' : World} (h : Foot w F) (hs : w.heap.size ≤ w'.heap.size) : Foot w' F := fun k hk => Nat.lt_of_lt_of_le (h k hk) hs

/-- Where bytes lie, if there are any. -/
def LiesOff (A : Option Addr) (l : List Int) (F : Nat → Prop) : Prop := ∀ b off, A = some ⟨b, off, none⟩ → 0 < l.length → ¬ F b
theorem LiesOff.low {A : Option Addr} {l : List Int} {F : Nat → Prop} {w : World} {B : Nat} (h : Bytes w A l) (hB : w.heap.size ≤ B) (hF : ∀ k, F k → B ≤ k) : LiesOff A l F := fun b off e h0 hf => by
  obtain ⟨b', off', e', hlt, _⟩ := h.2 0 h0
  rw [e] at e'; simp at e'; obtain ⟨rfl, rfl⟩ := e'
  have := hF b hf; omega
theorem Bytes.keptF {F : Nat → Prop} {w w' : World} {A : Option Addr} {l : List Int} (h : Bytes w A l) (hk : KeptF F w w') (hF : LiesOff A l F) : Bytes w' A l := by
  refine ⟨h.1, fun i hi => ?_⟩
  obtain ⟨b, off, e, hlt, hc⟩ := h.2 i hi
  exact ⟨b, off, e, Nat.lt_of_lt_of_le hlt hk.size, (World.cell?_of_block (hk.block b hlt (hF b off e (by omega)))).trans hc⟩
theorem Blk.keptF {F : Nat → Prop} {w w' : World} {g : Nat} {vs : List Value} {T : TypeId} (h : Blk w g vs T) (hk : KeptF F w w') (hF : ¬ F g) : Blk w' g vs T := (hk.block g h.lt hF).trans h
theorem Own.keptF {F : Nat → Prop} {w w' : World} {base n c : Nat} {A : Option Addr} {l : List Int} (h : Own w base A n c l) (hk : KeptF F w w') (hF : ∀ g, ownB A = some g → ¬ F g) : Own w' base A n c l := by
  refine ⟨h.1, h.2.1, Nat.le_trans h.2.2.1 hk.size, h.2.2.2.1, ?_⟩
  rcases h.2.2.2.2 with h1 | ⟨k, cap, cur, h1, h2, h3, h4⟩
  · exact .inl h1
  · refine .inr ⟨k, cap, cur, h1, h2, ?_, h4⟩
    have hk2 : k < w.heap.size := by
      rcases Nat.lt_or_ge k w.heap.size with h | h
      · exact h
      · rw [Array.getElem?_eq_none h] at h3; cases h3
    injection h1 with e1 e2 e3
    subst e1
    rw [hk.block k hk2 (hF k rfl)]; exact h3
theorem Own.lower {w : World} {base b2 n c : Nat} {A : Option Addr} {l : List Int} (h : Own w base A n c l) (hb : b2 ≤ base) : Own w b2 A n c l := by
  refine ⟨h.1, h.2.1, Nat.le_trans hb h.2.2.1, h.2.2.2.1, ?_⟩
  rcases h.2.2.2.2 with h1 | ⟨k, cap, cur, h1, h2, h3⟩
  · exact .inl h1
  · exact .inr ⟨k, cap, cur, h1, Nat.le_trans hb h2, h3⟩
theorem Own.block {w : World} {base n c g : Nat} {A : Option Addr} {l : List Int} (h : Own w base A n c l) (hg : ownB A = some g) : base ≤ g ∧ g < w.heap.size := h.lt g (by rw [ownB_eq]; exact hg)

/-- 'append(b, make([]byte, m)...)': m zeros, told by their number. -/
theorem run_append_zeros (w : World) (ty : TypeId) (base : Nat) (A : Option Addr) (n c : Nat) (l : List Int) (ho : Own w base A n c l) (m : Nat) (hm : 0 < m) (hsz : n + m ≤ 70368744177664) :
    ∃ A' c' w', (Builtin.append_ #[28, 3] ty #[.slice A n c, .int .i64 m]).run Try.prog w = .ok (.slice A' (n + m) c') w' ∧ Own w' base A' (n + m) c' (l ++ List.replicate m 0) ∧ w.grownBy w' (ownB A) ∧ (ownB A' = ownB A ∨ ownB A' = some w.heap.size) := by
  obtain ⟨i, hi, hzz⟩ := Option.map_eq_some_iff.1 info8
  simp only [Prod.mk.injEq] at hzz
  obtain ⟨hz, hs, hby⟩ := hzz
  have hown := ho.2.2.2
  have hA : AllB (l ++ List.replicate m 0) := ho.1.app (AllB.zeros m)
  have hL : (l ++ List.replicate m (0 : Int)).length = n + m := by rw [List.length_append, ho.2.1, List.length_replicate]
  have hzc : (Builtin.zeroCells (Value.int .u8 0).cells m).toList = (List.replicate m (0 : Int)).map (Value.int .u8) := by
    have e : Builtin.zeroCells (Value.int .u8 0).cells m = madeCells #[Value.int .u8 0] m := by simp [Builtin.zeroCells, madeCells, Value.cells]
    rw [e, toList_madeCells_one, List.map_replicate]
  have hlen : ((l ++ List.replicate m (0 : Int)).map (Value.int .u8)).length = n + m := by rw [List.length_map, hL]
  have grown : ∀ (old : Nat),
      Own (w.drew.alloc (.cells ((l.map (Value.int .u8)).toArray ++ Builtin.zeroCells (Value.int .u8 0).cells m ++ Builtin.zeroCells (Value.int .u8 0).cells (grownCap w (n + m) old 5 - (n + m))) 5)) base (some ⟨w.heap.size, 0, none⟩) (n + m) (grownCap w (n + m) old 5) (l ++ List.replicate m 0) := by
    intro old
    have hge := grownCap_ge w (n + m) old 5
    have hcm : grownCap w (n + m) old 5 ≤ maxLen := grownCap_le_maxLen w (n + m) old 5 (by unfold maxLen; omega)
    refine ⟨hA, hL, Nat.le_trans ho.2.2.1 (by simp), ⟨by rw [hlen]; omega, .inr ⟨w.heap.size, _, _, rfl, ho.2.2.1, heap_alloc_new w.drew _, hge, hcm, ?_, ?_⟩⟩⟩
    · simp only [Array.size_append, List.size_toArray, size_zeroCells, List.length_map, ho.2.1]
      simp [Value.cells]
      omega
    · simp only [Array.toList_append, hzc, List.append_assoc]
      rw [← List.append_assoc, ← List.map_append, Nat.mul_one, ← hlen]
      exact List.take_left
  have kept : ∀ o : Obj, w.grownBy (w.drew.alloc o) (ownB A) := fun o => ⟨rfl, rfl, rfl, by simp, fun k hk _ => Below.heap_alloc w.drew _ k hk⟩
  rcases hown.2 with ⟨he, h0⟩ | ⟨g, cap, cur, he, hbg, hg, hnc, hcm, hcs, htake⟩
  · injection he with e1 e2 e3
    subst e1; subst e2; subst e3
    obtain rfl : l = [] := List.eq_nil_of_length_eq_zero ho.2.1
    have hr := Lib.run_append_grow_zeros (P := Try.prog) w 28 3 ty 5 i (.int .u8 0) .i64 .i64 Try.underlying28 Try.underlying3 hi hz none 0 0 [] (by simp [Builtin.firstCells]) m hm (by omega) (by omega) (by omega) (by rw [hby]; omega) (by rw [hby, Nat.zero_add, nextslicecap_zero hm]; omega)
    exact ⟨_, _, _, hr, grown 0, kept _, .inr rfl⟩
  · injection he with e1 e2 e3
    subst e1; subst e3
    by_cases hroom : n + m ≤ c
    · have hst := run_storeCells_at Try.prog g n 5 ((List.replicate m (0 : Int)).map (Value.int .u8)) 0 cur w hg (by simp; omega) (ones _)
      obtain ⟨R, hR⟩ : ∃ R, R = (cur.toList.take n ++ (List.replicate m (0 : Int)).map (Value.int .u8) ++ cur.toList.drop (n + m)).toArray := ⟨_, rfl⟩
      have hst2 : (storeCells ⟨g, n, none⟩ ((List.replicate m (0 : Int)).map (Value.int .u8))).run Try.prog w = .ok () (w.setRow g R) := by
        rw [hR]
        simpa using hst
      have hrun : (Builtin.append_ #[28, 3] ty #[.slice (some ⟨g, 0, none⟩) n c, .int .i64 m]).run Try.prog w = .ok (.slice (some ⟨g, 0, none⟩) (n + m) c) (w.setRow g R) := by
        have hw : IntKind.i64.wrap (m : Int) = m := by rw [IntKind.wrap_i64]; omega
        have hneg : ¬ ((m : Int) < 0) := by omega
        have h48i : ¬ (281474976710656 < (m : Int)) := by omega
        have hns : ¬ (m = 0) := by omega
        rw [← hzc] at hst2
        simp [Builtin.append_, run_underlying Try.underlying28, run_underlying Try.underlying3, sizeOf, typeInfo, zeroValue, hi, hz, hs, hby, asInt, asIntOf, hw, hneg, h48i, hns, hroom, add_none, hst2]
      have hRs : R.size = c := by
        rw [hR]
        simp only [List.size_toArray, List.length_append, List.length_take, List.length_drop, Array.length_toList, List.length_map, List.length_replicate]
        omega
      have hRt : R.toList.take (n + m) = (l ++ List.replicate m (0 : Int)).map (Value.int .u8) := by
        rw [hR]
        rw [Nat.mul_one] at htake
        rw [htake, ← List.map_append, ← hlen]
        exact List.take_left
      exact ⟨_, _, _, hrun, ⟨hA, hL, Nat.le_trans ho.2.2.1 (by simp), ⟨by rw [hlen]; omega, .inr ⟨g, c, R, rfl, hbg, setRow_heap w g cur R 5 _ hg, hroom, hcm, by omega, by rw [Nat.mul_one]; exact hRt⟩⟩⟩, ⟨rfl, rfl, rfl, by simp, fun k _ hk => setRow_other w g k _ (fun e => hk (by simp [ownB, e]))⟩, .inl rfl⟩
    · have holds : ∀ j u, (l.map (Value.int .u8))[j]? = some u → w.drew.cell? ((⟨g, 0, none⟩ : Addr).add j) = some u := fun j u hj => hown.cells (g := g) rfl j u hj
      have hf := run_firstCells_some (P := Try.prog) w.drew i.size n ⟨g, 0, none⟩ n c (l.map (Value.int .u8)) (by simp [hs, ho.2.1]) holds
      have hr := Lib.run_append_grow_zeros (P := Try.prog) w 28 3 ty 5 i (.int .u8 0) .i64 .i64 Try.underlying28 Try.underlying3 hi hz (some ⟨g, 0, none⟩) n c (l.map (Value.int .u8)) hf m hm (by omega) (by omega) (by omega) (by rw [hby]; omega) (growslice_fits (by omega) (by rw [hby]; omega))
      exact ⟨_, _, _, hr, grown c, kept _, .inr rfl⟩
end Go.Proofs.Ytldkmobncmfodaa.Kf
