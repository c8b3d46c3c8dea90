/-
  What the document's own rounds, and its Sip, answer.
-/
import Derived.Test.YtmkpeidgimgdlaaSa
import Derived.Test.YtmkpeidgimgdlaaHe
import Derived.Deep.DeepMust
import Derived.Deep.Cut
namespace Go.Proofs.Ytmkpeidgimgdlaa.Sb
open Go.ChangeShapes Go.WideShapes Go.ChangeAt Go.RowKit
open Bytes8 Blk8 LeNum Hm Ha Hb He Sa
set_option linter.unusedVariables false

set_option maxHeartbeats 1000000 in
theorem rrounds_any (p q r s : Int) (n : Nat) (w : World) (h : (⟨p, q, r, s⟩ : Quad).ok) (hn : n ≤ 1000) :
    Calls Try.prog 39 #[.agg #[.int .u64 p, .int .u64 q, .int .u64 r, .int .u64 s], .int .i64 n] w fun e w' => e = .returned (.agg #[.int .u64 (rounds ⟨p, q, r, s⟩ n).p, .int .u64 (rounds ⟨p, q, r, s⟩ n).q, .int .u64 (rounds ⟨p, q, r, s⟩ n).r, .int .u64 (rounds ⟨p, q, r, s⟩ n).s]) ∧ Below w.heap.size w w' := by
  have HF := Lib.hid h
  go_enter Try.func39, Try.ntmps39
  go_wp2
  go_quiet (fail)
  go_wp2
  go_loop [5, 6, 7, 8, 9] (fun a b c d i => ∃ k : Nat, k ≤ n ∧ i = .int .i64 k ∧ a = .int .u64 (rounds ⟨p, q, r, s⟩ k).p ∧ b = .int .u64 (rounds ⟨p, q, r, s⟩ k).q ∧ c = .int .u64 (rounds ⟨p, q, r, s⟩ k).r ∧ d = .int .u64 (rounds ⟨p, q, r, s⟩ k).s) (fun _ _ _ _ i => n - (intOf i).toNat)
  case atStart => exact ⟨0, Nat.zero_le _, rfl, rfl, rfl, rfl, rfl⟩
  case round =>
    obtain ⟨k, hk, rfl, rfl, rfl, rfl, rfl⟩ := hrel
    have HO := Lib.hid (rounds_ok ⟨p, q, r, s⟩ HF.out k)
    by_cases hlt : k < n
    · have HN := Lib.hid (show rounds ⟨p, q, r, s⟩ (k + 1) = round (rounds ⟨p, q, r, s⟩ k) from rfl)
      generalize rounds ⟨p, q, r, s⟩ k = F at *
      obtain ⟨P, Q, R, S⟩ := F
      obtain ⟨⟨p0, p1⟩, ⟨q0, q1⟩, ⟨r0, r1⟩, ⟨s0, s1⟩⟩ := HO.out
      simp only at p0 p1 q0 q1 r0 r1 s0 s1
      go_wp2_with (go_at_call 50; (with_reducible refine (up_any _ _ _ (by first | assumption | exact (b64 _ _ _).1 | exact (rot64_bd _ _).1 | exact (wrap64_bd _).1 | omega) (by first | assumption | exact (b64 _ _ _).2 | exact (rot64_bd _ _).2 | exact (wrap64_bd _).2 | omega) (by decide) (by decide)).mono ?_); rintro e w' ⟨rfl, rfl⟩)
      go_round
      case rel =>
        refine ⟨k + 1, by omega, by go_num, ?_, ?_, ?_, ?_⟩ <;> rw [HN.out] <;> simp [round, add64, xor64, IntKind.wrap_u64]
      case measure => simp [intOf]; omega
    · obtain rfl : k = n := by omega
      go_wp2
      generalize rounds ⟨p, q, r, s⟩ k = F at *
      refine bodyPost_ret (v := .agg #[.int .u64 F.p, .int .u64 F.q, .int .u64 F.r, .int .u64 F.s]) (by simp [results, Try.results39, go_sem]) rfl ⟨rfl, ?_⟩
      repeat (first | (with_reducible exact Below.refl _ _) | refine Below.setCell ?_ (by simp) _ | refine Below.alloc ?_ (by simp) _ | refine below_drewN ?_ _)

theorem eight_key (K : Nat → Int) (A : Option Addr) (o : Nat) (i : Int) (hi : i = o) (ho : o ≤ 8) (w : World) (hb : Bytes w A (idL K)) :
    Calls Try.prog 38 #[.slice A 16 16, .int .i64 i] w fun e w' => e = .returned (.int .u64 (w8 (idL K) o)) ∧ w = w' := by
  subst hi; exact eight_any A (idL K) 16 16 o w hb rfl (by decide) (by omega)

def Four (w0 : World) (g : Nat) (f : Quad) (w : World) : Prop := Blk w g [.int .u64 f.p, .int .u64 f.q, .int .u64 f.r, .int .u64 f.s] 60 ∧ Below w0.heap.size w0 w

theorem rrounds_q (f : Quad) (n : Nat) (i : Int) (hi : i = n) (hn : n ≤ 1000) (w : World) (h : f.ok) :
    Calls Try.prog 39 #[.agg #[.int .u64 f.p, .int .u64 f.q, .int .u64 f.r, .int .u64 f.s], .int .i64 i] w fun e w' => e = .returned (.agg #[.int .u64 (rounds f n).p, .int .u64 (rounds f n).q, .int .u64 (rounds f n).r, .int .u64 (rounds f n).s]) ∧ Below w.heap.size w w' := by
  subst hi; exact rrounds_any f.p f.q f.r f.s n w h hn

theorem four_step (w0 w : World) (g : Nat) (a b c d p q r s e : Value) (f : Quad) (h : Blk w g [p, q, r, s] 60) (hb : Below w0.heap.size w0 w) (hg : w0.heap.size ≤ g) (e0 : e = .int .u64 f.p) (e1 : b = .int .u64 f.q) (e2 : c = .int .u64 f.r) (e3 : d = .int .u64 f.s) :
    Four w0 g f (((((w.setCell ⟨g, 0, none⟩ a).setCell ⟨g, 1, none⟩ b).setCell ⟨g, 2, none⟩ c).setCell ⟨g, 3, none⟩ d).setCell ⟨g, 0, none⟩ e) := by
  subst e0; subst e1; subst e2; subst e3
  exact ⟨((((h.set_ 0 _).set_ 1 _).set_ 2 _).set_ 3 _).set_ 0 _, ((((hb.setCell hg _).setCell hg _).setCell hg _).setCell hg _).setCell hg _⟩
theorem six_below {w0 w : World} {B g : Nat} (h : Below B w0 w) (hg : B ≤ g) (a b c d e f : Value) :
    Below B w0 ((((((w.setCell ⟨g, 0, none⟩ a).setCell ⟨g, 1, none⟩ b).setCell ⟨g, 2, none⟩ c).setCell ⟨g, 3, none⟩ d).setCell ⟨g, 0, none⟩ e).setCell ⟨g, 2, none⟩ f) :=
  (((((h.setCell hg _).setCell hg _).setCell hg _).setCell hg _).setCell hg _).setCell hg _
theorem six_sets {w : World} {g : Nat} {p q r s : Value} {T : TypeId} (h : Blk w g [p, q, r, s] T) (a b c d e f : Value) :
    Blk ((((((w.setCell ⟨g, 0, none⟩ a).setCell ⟨g, 1, none⟩ b).setCell ⟨g, 2, none⟩ c).setCell ⟨g, 3, none⟩ d).setCell ⟨g, 0, none⟩ e).setCell ⟨g, 2, none⟩ f) g [e, b, f, d] T :=
  (((((h.set_ 0 _).set_ 1 _).set_ 2 _).set_ 3 _).set_ 0 _).set_ 2 _
theorem quad_next (key l : List Int) (k : Nat) (o : Nat) (ho : o = 8 * k) : quadAt key l (k + 1) = quadPlus (quadAt key l k) (w8 l o) := by subst ho; rfl
theorem quadPlus_two (f : Quad) (m : Int) : quadPlus f m = ⟨bits .xor .u64 (rounds ⟨f.p, f.q, f.r, bits .xor .u64 f.s m⟩ 2).p m, (rounds ⟨f.p, f.q, f.r, bits .xor .u64 f.s m⟩ 2).q, (rounds ⟨f.p, f.q, f.r, bits .xor .u64 f.s m⟩ 2).r, (rounds ⟨f.p, f.q, f.r, bits .xor .u64 f.s m⟩ 2).s⟩ := rfl

theorem sipEnd_two (f : Quad) (m : Int) : sipEnd f m = bits .xor .u64 (bits .xor .u64 (bits .xor .u64 (rounds ⟨bits .xor .u64 (rounds ⟨f.p, f.q, f.r, bits .xor .u64 f.s m⟩ 2).p m, (rounds ⟨f.p, f.q, f.r, bits .xor .u64 f.s m⟩ 2).q, bits .xor .u64 (rounds ⟨f.p, f.q, f.r, bits .xor .u64 f.s m⟩ 2).r 255, (rounds ⟨f.p, f.q, f.r, bits .xor .u64 f.s m⟩ 2).s⟩ 4).p (rounds ⟨bits .xor .u64 (rounds ⟨f.p, f.q, f.r, bits .xor .u64 f.s m⟩ 2).p m, (rounds ⟨f.p, f.q, f.r, bits .xor .u64 f.s m⟩ 2).q, bits .xor .u64 (rounds ⟨f.p, f.q, f.r, bits .xor .u64 f.s m⟩ 2).r 255, (rounds ⟨f.p, f.q, f.r, bits .xor .u64 f.s m⟩ 2).s⟩ 4).q) (rounds ⟨bits .xor .u64 (rounds ⟨f.p, f.q, f.r, bits .xor .u64 f.s m⟩ 2).p m, (rounds ⟨f.p, f.q, f.r, bits .xor .u64 f.s m⟩ 2).q, bits .xor .u64 (rounds ⟨f.p, f.q, f.r, bits .xor .u64 f.s m⟩ 2).r 255, (rounds ⟨f.p, f.q, f.r, bits .xor .u64 f.s m⟩ 2).s⟩ 4).r) (rounds ⟨bits .xor .u64 (rounds ⟨f.p, f.q, f.r, bits .xor .u64 f.s m⟩ 2).p m, (rounds ⟨f.p, f.q, f.r, bits .xor .u64 f.s m⟩ 2).q, bits .xor .u64 (rounds ⟨f.p, f.q, f.r, bits .xor .u64 f.s m⟩ 2).r 255, (rounds ⟨f.p, f.q, f.r, bits .xor .u64 f.s m⟩ 2).s⟩ 4).s := rfl

set_option maxRecDepth 100000 in
set_option maxHeartbeats 2000000 in
theorem rsip_any (K : Nat → Int) (A : Option Addr) (l : List Int) (len cap : Nat) (w : World) (hk : IdOk K) (hb : Bytes w A l) (hL : l.length = len) (hmax : len ≤ 800000) :
    Calls Try.prog 15 #[idV K, .slice A len cap] w fun e w' => e = .returned (.int .u64 (sipS (idL K) l)) ∧ Below w.heap.size w w' := by
  have HK := Lib.hid (id_boxed 24 K hk w)
  have HB := Lib.hid (And.intro hb hL)
  have HQ := Lib.hid (quadAt_ok (idL K) l)
  clear hb hL
  have HE0 := Lib.hid fun n => quiet_kept (n := n) (eight_key K _ 0 0 rfl (by decide) _ (HK.out.drewN n))
  have HE8 := Lib.hid fun n => quiet_kept (n := n) (eight_key K _ 8 8 rfl (by decide) _ (HK.out.drewN n))
  go_enter Try.func15, Try.ntmps15
  go_wp2
  go_quiet ((go_at_call 38; first | with_reducible exact HE0.out _ | with_reducible exact HE8.out _))
  go_wp2
  go_loopw [8] (fun i wr => ∃ k o : Nat, Hid (o = 8 * k) ∧ o ≤ len ∧ i = .int .i64 o ∧ Hid (Four w (w.heap.size + 1) (quadAt (idL K) l k) wr)) (fun i _ => len - (intOf i).toNat)
  case atStart => exact ⟨0, 0, Lib.hid rfl, Nat.zero_le _, rfl, Lib.hid ⟨Blk.new_at _ _ _ _ (by simp), below_drewN ((Below.refl _ _).alloc (Nat.le_refl _) _) _ |>.alloc (by simp) _⟩⟩
  case round =>
    obtain ⟨k, o, ho, hlt, rfl, hr⟩ := hrel
    have R1 := Lib.hid hr.out.1
    have R2 := Lib.hid hr.out.2
    have hz := R1.out.lt
    have HM := Lib.hid (eight_any A l len cap o wr (HB.out.1.below R2.out (Nat.le_refl _)) HB.out.2 (by omega) (by omega))
    have HO := Lib.hid (HQ.out k)
    have hn := quad_next (idL K) l k o ho.out
    rw [quadPlus_two] at hn
    have HN := Lib.hid hn
    clear hn
    have HR := Lib.hid fun W => rrounds_q ⟨(quadAt (idL K) l k).p, (quadAt (idL K) l k).q, (quadAt (idL K) l k).r, bits .xor .u64 (quadAt (idL K) l k).s (w8 l o)⟩ 2 2 rfl (by decide) W ⟨HO.out.1, HO.out.2.1, HO.out.2.2.1, b64 .xor _ _⟩
    simp only at HR
    have g0 := R1.out.cell (i := 0) rfl
    have g1 := R1.out.cell (i := 1) rfl
    have g2 := R1.out.cell (i := 2) rfl
    have g3 := R1.out.cell (i := 3) rfl
    have f0 := R1.out.frozen 0
    have f1 := R1.out.frozen 1
    have f2 := R1.out.frozen 2
    have f3 := R1.out.frozen 3
    by_cases h8 : o + 8 ≤ len
    · have hd : decide (o + 8 ≤ len) = true := by simpa using h8
      generalize rounds ⟨(quadAt (idL K) l k).p, (quadAt (idL K) l k).q, (quadAt (idL K) l k).r, bits .xor .u64 (quadAt (idL K) l k).s (w8 l o)⟩ 2 = G at *
      generalize quadAt (idL K) l k = F at *
      generalize w8 l o = m at *
      go_wp2_with (first | (go_at_call 38; (with_reducible refine HM.out.mono ?_); rintro e w' ⟨rfl, rfl⟩) | (go_at_call 39; (with_reducible refine (HR.out _).mono ?_); rintro e w2 ⟨rfl, hb2⟩; have R3 := Lib.hid ((R1.out.set_ 3 _).below hb2 (by simpa using hz)); have c0 := R3.out.cell (i := 0) rfl; have c1 := R3.out.cell (i := 1) rfl; have c2 := R3.out.cell (i := 2) rfl; have c3 := R3.out.cell (i := 3) rfl; have h0 := R3.out.frozen 0; have h1 := R3.out.frozen 1; have h2 := R3.out.frozen 2; have h3 := R3.out.frozen 3))
      go_roundw
      case rel =>
        have hzw := R2.out.size
        refine ⟨k + 1, o + 8, Lib.hid (by have := ho.out; omega), by omega, by go_num, Lib.hid (four_step w w2 (w.heap.size + 1) _ _ _ _ _ _ _ _ _ _ R3.out ((R2.out.setCell (by simp) _).trans (hb2.mono (by simpa using hzw))) (by simp) ?_ ?_ ?_ ?_)⟩ <;> rw [HN.out]
      case measure => simp [intOf]; omega
    · have hd : decide (o + 8 ≤ len) = false := by simpa using h8
      clear HN HR
      have hk : l.length / 8 = k := by rw [HB.out.2]; have := ho.out; omega
      obtain ⟨M, hM⟩ : ∃ M, bits .or .u64 (w8 l o) ((len : Int) % 256 * 72057594037927936) = M := ⟨_, rfl⟩
      have he := (show sipS (idL K) l = sipEnd (quadAt (idL K) l k) M by
        unfold sipS last8; rw [hk, HB.out.2, ← ho.out, hM])
      rw [sipEnd_two] at he
      have HE := Lib.hid he
      clear he
      have HR := Lib.hid fun W => rrounds_q ⟨(quadAt (idL K) l k).p, (quadAt (idL K) l k).q, (quadAt (idL K) l k).r, bits .xor .u64 (quadAt (idL K) l k).s M⟩ 2 2 rfl (by decide) W ⟨HO.out.1, HO.out.2.1, HO.out.2.2.1, b64 .xor _ _⟩
      have HG := Lib.hid (rounds_ok ⟨(quadAt (idL K) l k).p, (quadAt (idL K) l k).q, (quadAt (idL K) l k).r, bits .xor .u64 (quadAt (idL K) l k).s M⟩ ⟨HO.out.1, HO.out.2.1, HO.out.2.2.1, b64 .xor _ _⟩ 2)
      simp only at HR
      clear hk
      generalize rounds ⟨(quadAt (idL K) l k).p, (quadAt (idL K) l k).q, (quadAt (idL K) l k).r, bits .xor .u64 (quadAt (idL K) l k).s M⟩ 2 = G at HE HR HG
      generalize quadAt (idL K) l k = F at *
      have HR4 := Lib.hid fun W => rrounds_q ⟨bits .xor .u64 G.p M, G.q, bits .xor .u64 G.r 255, G.s⟩ 4 4 rfl (by decide) W ⟨b64 .xor _ _, HG.out.2.1, b64 .xor _ _, HG.out.2.2.2⟩
      simp only at HR4
      generalize rounds ⟨bits .xor .u64 G.p M, G.q, bits .xor .u64 G.r 255, G.s⟩ 4 = J at HE HR4
      generalize w8 l o = m at HM hM
      go_upto_region 15 with (first | (go_at_call 38; (with_reducible refine HM.out.mono ?_); rintro e w' ⟨rfl, rfl⟩) | (go_at_call 39; (with_reducible refine (HR.out _).mono ?_); rintro e w2 ⟨rfl, hb2⟩; have R3 := Lib.hid ((R1.out.set_ 3 _).below hb2 (by simpa using hz)); have c0 := R3.out.cell (i := 0) rfl; have c1 := R3.out.cell (i := 1) rfl; have c2 := R3.out.cell (i := 2) rfl; have c3 := R3.out.cell (i := 3) rfl; have h0 := R3.out.frozen 0; have h1 := R3.out.frozen 1; have h2 := R3.out.frozen 2; have h3 := R3.out.frozen 3; have hz2 := R3.out.lt; clear hM g0 g1 g2 g3 f0 f1 f2 f3) | (go_at_call 39; go_must ((with_reducible refine (HR4.out _).mono ?_); rintro e w4 ⟨rfl, hb4⟩; have R4 := Lib.hid ((((((R3.out.set_ 0 _).set_ 1 _).set_ 2 _).set_ 3 _).set_ 0 _).set_ 2 _ |>.below hb4 (by simpa using hz2)); have a0 := R4.out.cell (i := 0) rfl; have a1 := R4.out.cell (i := 1) rfl; have a2 := R4.out.cell (i := 2) rfl; have a3 := R4.out.cell (i := 3) rfl; have b0 := R4.out.frozen 0; have b1 := R4.out.frozen 1; have b2 := R4.out.frozen 2; have b3 := R4.out.frozen 3; clear c0 c1 c2 c3 h0 h1 h2 h3)))
      have hzw := R2.out.size
      have k2 : Below w.heap.size w w2 := (R2.out.setCell (by simp) _).trans (hb2.mono (by simpa using hzw))
      have k5 := six_below k2 (g := w.heap.size + 1) (by simp) (.int .u64 G.p) (.int .u64 G.q) (.int .u64 G.r) (.int .u64 G.s) (.int .u64 (bits .xor .u64 G.p M)) (.int .u64 (bits .xor .u64 G.r 255))
      have R5 := six_sets R3.out (.int .u64 G.p) (.int .u64 G.q) (.int .u64 G.r) (.int .u64 G.s) (.int .u64 (bits .xor .u64 G.p M)) (.int .u64 (bits .xor .u64 G.r 255))
      generalize (((((w2.setCell ⟨w.heap.size + 1, 0, none⟩ (.int .u64 G.p)).setCell ⟨w.heap.size + 1, 1, none⟩ (.int .u64 G.q)).setCell ⟨w.heap.size + 1, 2, none⟩ (.int .u64 G.r)).setCell ⟨w.heap.size + 1, 3, none⟩ (.int .u64 G.s)).setCell ⟨w.heap.size + 1, 0, none⟩ (.int .u64 (bits .xor .u64 G.p M))).setCell ⟨w.heap.size + 1, 2, none⟩ (.int .u64 (bits .xor .u64 G.r 255)) = w5 at k5 R5 ⊢
      have hz5 := R5.lt
      have R5 := Lib.hid R5
      have c0 := R5.out.cell (i := 0) rfl
      have c1 := R5.out.cell (i := 1) rfl
      have c2 := R5.out.cell (i := 2) rfl
      have c3 := R5.out.cell (i := 3) rfl
      have h0 := R5.out.frozen 0
      have h1 := R5.out.frozen 1
      have h2 := R5.out.frozen 2
      have h3 := R5.out.frozen 3
      go_wp2_with (go_at_call 39; (with_reducible refine (HR4.out _).mono ?_); rintro e w4 ⟨rfl, hb4⟩; have R4 := Lib.hid (R5.out.below hb4 hz5); have a0 := R4.out.cell (i := 0) rfl; have a1 := R4.out.cell (i := 1) rfl; have a2 := R4.out.cell (i := 2) rfl; have a3 := R4.out.cell (i := 3) rfl; have b0 := R4.out.frozen 0; have b1 := R4.out.frozen 1; have b2 := R4.out.frozen 2; have b3 := R4.out.frozen 3; clear c0 c1 c2 c3 h0 h1 h2 h3)
      go_ret
      refine ⟨ret_int HE.out.symm, ?_⟩
      have k4 : Below w.heap.size w w4 := k5.trans (hb4.mono (by omega))
      repeat (first | (with_reducible exact k4) | refine Below.setCell ?_ (by simp) _)
end Go.Proofs.Ytmkpeidgimgdlaa.Sb
