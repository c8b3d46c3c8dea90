/-
  A file of sectors, all of whose blocks are new; the chapter's example.
-/
import Derived.Test.YtknkdppaalmknaaSfe
import Derived.Test.YtknkdppaalmknaaNumb
import Derived.Lib.SlBytesConst
namespace Go.Proofs.Ytknkdppaalmknaa.Sfg
open Go.ChangeShapes Go.WideShapes Go.ChangeAt Go.RowKit
open Bytes8 Blk8 Own8 OwnM OwnA OwnE Kf Ta Fa Sfa Sfb Sfc Sfd Sfe Rows2 Do8 Numb
set_option linter.unusedVariables false
set_option linter.unusedSimpArgs false

/-- The file's blocks are all from B on. -/
def FileB (w : World) (B : Nat) (g : Nat) (now safe : List Int) : Prop := B ≤ w.heap.size ∧ ∃ F, FileP w F g now safe ∧ ∀ k, F k → B ≤ k
theorem FileB.below {w w' : World} {B g : Nat} {now safe : List Int} (h : FileB w B g now safe) (hb : Below w.heap.size w w') : FileB w' B g now safe := by
  obtain ⟨h0, F, h1, h2⟩ := h
  exact ⟨Nat.le_trans h0 hb.size, F, h1.below hb, h2⟩
theorem FileB.len {w : World} {B g : Nat} {now safe : List Int} (h : FileB w B g now safe) : safe.length ≤ now.length ∧ now.length ≤ 32768 ∧ AllB now ∧ AllB safe := by
  obtain ⟨h0, F, h1, h2⟩ := h
  exact h1.len
theorem FileB.step {w w' : World} {F : Nat → Prop} {B g : Nat} {now safe : List Int} (hB : B ≤ w.heap.size) (hF : ∀ k, F k → B ≤ k) (h : FileP w' (Ext F w w') g now safe) (hk : KeptF F w w') : FileB w' B g now safe ∧ Below B w w' :=
  ⟨⟨Nat.le_trans hB hk.size, _, h, Ext.low hB hF⟩, hk.below hB hF⟩

theorem new_b (w : World) (B : Nat) (hB : B ≤ w.heap.size) : Calls Try.prog 8 #[] w fun e w' => e = .returned (.pointer (some ⟨w.heap.size, 0, none⟩)) ∧ FileB w' B w.heap.size [] [] ∧ Below B w w' :=
  (new_any w).mono fun e w' ⟨h1, h2, h3⟩ => ⟨h1, ⟨Nat.le_trans hB h3.size, _, h2, Ext.low hB fun _ h => h.elim⟩, h3.mono hB⟩
theorem write_b (w : World) (B : Nat) (g : Nat) (now safe : List Int) (p : Int) (A : Option Addr) (m c : Nat) (b : List Int) (h : FileB w B g now safe) (hb : Bytes w A b) (hm : b.length = m) (hm2 : m ≤ maxLen) (hlow : ∀ k off, A = some ⟨k, off, none⟩ → 0 < b.length → k < B) (hp : -9223372036854775808 ≤ p) (hp2 : p ≤ 9223372036854775807) :
    Calls Try.prog 9 #[.pointer (some ⟨g, 0, none⟩), .int .i64 p, .slice A m c] w fun e w' => e = .returned (.int .i64 (wcE p m)) ∧ FileB w' B g (wcL now p b) safe ∧ Below B w w' := by
  obtain ⟨h0, F, h1, h2⟩ := h
  refine (write_any w F g now safe p A m c b h1 hb hm hm2 (fun k off e hl hf => ?_) hp hp2).mono fun e w' ⟨he, h3, h4⟩ => ⟨he, FileB.step h0 h2 h3 h4⟩
  have := hlow k off e hl
  have := h2 k hf
  omega
theorem sync_b (w : World) (B : Nat) (g : Nat) (now safe : List Int) (h : FileB w B g now safe) :
    Calls Try.prog 11 #[.pointer (some ⟨g, 0, none⟩)] w fun e w' => e = .returned (.tuple #[]) ∧ FileB w' B g now now ∧ Below B w w' := by
  obtain ⟨h0, F, h1, h2⟩ := h
  exact (sync_any w F g now safe h1.wide).mono fun e w' ⟨he, h3, h4⟩ => ⟨he, FileB.step h0 h2 h3 h4⟩
theorem crash_b (w : World) (B : Nat) (g : Nat) (now safe : List Int) (a : Option Addr) (L cL : Nat) (K : Nat → Bool) (h : FileB w B g now safe) (hk : InBools w a L K) (hL : L ≤ maxLen) :
    Calls Try.prog 13 #[.pointer (some ⟨g, 0, none⟩), .slice a L cL] w fun e w' => e = .returned (.tuple #[]) ∧ FileB w' B g (crash now safe (kept L K)) (crash now safe (kept L K)) ∧ Below B w w' := by
  obtain ⟨h0, F, h1, h2⟩ := h
  exact (crash_any w F g now safe a L cL K h1 hk hL).mono fun e w' ⟨he, h3, h4⟩ => ⟨he, FileB.step h0 h2 h3 h4⟩
theorem len_b (w : World) (B : Nat) (g : Nat) (now safe : List Int) (h : FileB w B g now safe) :
    Calls Try.prog 20 #[.pointer (some ⟨g, 0, none⟩)] w fun e w' => e = .returned (.int .i64 (now.length : Nat)) ∧ w = w' := by
  obtain ⟨h0, F, h1, h2⟩ := h
  exact len_any w F g now safe h1
theorem all_b (w : World) (B : Nat) (g : Nat) (now safe : List Int) (h : FileB w B g now safe) :
    Calls Try.prog 21 #[.pointer (some ⟨g, 0, none⟩)] w (Fresh now now.length w) := by
  obtain ⟨h0, F, h1, h2⟩ := h
  exact all_any w F g now safe h1
theorem safe_b (w : World) (B : Nat) (g : Nat) (now safe : List Int) (h : FileB w B g now safe) :
    Calls Try.prog 22 #[.pointer (some ⟨g, 0, none⟩)] w (Fresh safe safe.length w) := by
  obtain ⟨h0, F, h1, h2⟩ := h
  exact safe_any w F g now safe h1
theorem read_b (w : World) (B : Nat) (g : Nat) (now safe : List Int) (p n : Int) (h : FileB w B g now safe) (hp : -9223372036854775808 ≤ p) (hp2 : p ≤ 9223372036854775807) (hn : -9223372036854775808 ≤ n) (hn2 : n ≤ 9223372036854775807) :
    Calls Try.prog 17 #[.pointer (some ⟨g, 0, none⟩), .int .i64 p, .int .i64 n] w (Got (rdL now p n) (rdE now.length p n) w) := by
  obtain ⟨h0, F, h1, h2⟩ := h
  exact read_any w F g now safe p n h1 hp hp2 hn hn2

theorem same_self (a b : Option Addr) (l : List Int) (n c m d : Nat) (w : World) (ha : Bytes w a l) (hb : Bytes w b l) (hn : l.length = n) (hm : l.length = m) :
    Calls Try.prog 19 #[.slice a n c, .slice b m d] w fun e w' => e = .returned (.bool true) ∧ w = w' := by
  have h := Ff.same_any a b l l n c m d w ha hb hn hm
  rw [decide_eq_true rfl] at h
  exact h

/-- 600 zeros and an x. -/
def exL : List Int := List.replicate 600 0 ++ [120]
theorem ex_wr : wcL [] 600 [120] = exL := by decide +kernel
theorem ex_crash : crash exL [] (kept 2 fun i => i == 1) = exL := by decide +kernel
theorem ex_len : exL.length = 601 := by decide +kernel
theorem ex_600 : exL.getD 600 0 = 120 := by decide +kernel
theorem ex_0 : exL.getD 0 0 = 0 := by decide +kernel
theorem x_all : AllB [120] := by unfold AllB; decide

/-- A slice of two bools in a block of its own. -/
theorem two_bools (w : World) (T : TypeId) : InBools (w.alloc (.cells #[.bool false, .bool true] T)) (some ⟨w.heap.size, 0, none⟩) 2 (fun i => i == 1) := fun i hi => by
  refine ⟨w.heap.size, 0, rfl, by simp, ?_⟩
  match i, hi with
  | 0, _ => exact (Blk.new w [.bool false, .bool true] T).cell rfl
  | 1, _ => exact (Blk.new w [.bool false, .bool true] T).cell rfl

theorem write_x (w w1 : World) (g : Nat) (T : TypeId) (M : Nat × Nat) (hT : T = 5) (h : FileP w1 (Ext None' w w1) g [] []) (hb1 : Below w.heap.size w w1) :
    Calls Try.prog 9 #[.pointer (some ⟨g, 0, none⟩), .int .i64 600, .slice (some ⟨w1.heap.size, 0, none⟩) 1 1] (w1.alloc (.cells #[.int .u8 120] T M)) fun e w' => e = .returned (.int .i64 0) ∧ FileB w' w.heap.size g exL [] ∧ Below w.heap.size w w' := by
  subst hT
  have b1 := (Below.refl w1.heap.size w1).alloc (Nat.le_refl _) (.cells #[.int .u8 120] 5 M)
  have hs := hb1.size
  have hF : ∀ k, Ext None' w w1 k → w.heap.size ≤ k := Ext.low (Nat.le_refl _) fun _ h => h.elim
  refine (write_any _ _ _ _ _ 600 (some ⟨w1.heap.size, 0, none⟩) 1 1 [120] (h.below b1) (Ff.const_bytes [120] x_all w1 M) rfl (by decide) (fun b off e _ hf => ?_) (by decide) (by decide)).mono fun e w' ⟨he, h3, h4⟩ => ?_
  · have := h.foot b hf
    injection e with e
    injection e with e1 e2
    omega
  · obtain ⟨h5, h6⟩ := FileB.step (by simp; omega) hF h3 h4
    rw [ex_wr] at h5
    exact ⟨he, h5, (hb1.trans (b1.mono hs)).trans h6⟩

set_option maxRecDepth 100000 in
set_option maxHeartbeats 1000000 in
theorem first_any (w : World) :
    Calls Try.prog 7 #[] w fun e w' => e = .returned (.bool true) ∧ Below w.heap.size w w' := by
  have kc := fun (w : World) (C : Array Value) (n c : Nat) => Lib.run_convert_bytes_const (P := Try.prog) w 27 5 C n c Try.underlying27 Try.underlying5
  go_enter Try.func7, Try.ntmps7
  go_wp2_with (first
    | (go_at_call 8; (with_reducible refine (new_any _).mono ?_); rintro e w1 ⟨rfl, hP, hb1⟩; have HP := Lib.hid hP; clear hP)
    | (go_at_call 9; (with_reducible refine (write_x w w1 _ _ _ rfl HP.out hb1).mono ?_); rintro e w2 ⟨rfl, hP2, hb2⟩; have HP2 := Lib.hid hP2; clear hP2)
    | (go_at_call 13; (with_reducible refine (crash_b _ w.heap.size _ exL [] _ 2 2 (fun i => i == 1) (HP2.out.below ((Below.refl _ _).alloc (Nat.le_refl _) _)) (two_bools w2 _) (by decide)).mono ?_); rintro e w3 ⟨rfl, hP3, hb3⟩; rw [ex_crash] at hP3; have HP3 := Lib.hid hP3; clear hP3)
    | (go_at_call 21; (with_reducible refine (all_b _ _ _ _ _ HP3.out).mono ?_); rintro e w4 ⟨A4, c4, rfl, ho4, hb4⟩; rw [ex_len] at ho4 ⊢; obtain ⟨b, off, rfl, _, hc⟩ := ho4.bytes.spot (by rw [ex_len]; decide); have q1 := hc 600 (by rw [ex_len]; decide); have q0 := hc 0 (by rw [ex_len]; decide); rw [ex_600] at q1; rw [ex_0, Nat.add_zero] at q0; clear hc ho4; have HP4 := Lib.hid (HP3.out.below hb4))
    | (go_at_call 20; (with_reducible refine (len_b _ _ _ _ _ HP4.out).mono ?_); rintro e w5 ⟨rfl, rfl⟩; rw [ex_len]))
  go_ret
  have h2 := hb2.size
  exact ⟨rfl, ((hb2.alloc h2 _).trans hb3).trans (hb4.mono (Nat.le_trans h2 (Nat.le_trans (by simp) hb3.size)))⟩
end Go.Proofs.Ytknkdppaalmknaa.Sfg
