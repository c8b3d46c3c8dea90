/-
  The walk of HeadPuts.
-/
import Derived.Test.YtekmbgcijkdkfaaGe
import Derived.Test.YtekmbgcijkdkfaaGi
namespace Go.Proofs.Ytekmbgcijkdkfaa.HeadPutsW
open Go.ChangeShapes Go.WideShapes Go.ChangeAt Go.RowKit
open Bytes8 Blk8 Own8 OwnM LeA LeNum LeP RefA Ob Oc Od Ga Gb Gc Gd Ge Gf Gi
set_option linter.unusedVariables false
set_option linter.unusedSimpArgs false
set_option maxRecDepth 100000

theorem same_yes3 (a b : Option Addr) (l : List Int) (n c d : Nat) (w : World) (ha : Bytes w a l) (hb : Bytes w b l) (hn : l.length = n) :
    Calls Try.prog 18 #[.slice a n c, .slice b n d] w fun e w' => e = .returned (.bool true) ∧ w = w' := same_yes a b l n c d w ha hb hn
theorem rcells_info (h : HD) : (Try.prog.info? 45).map (·.size) = some (h.cells 20).toArray.size := by rw [rheadInfo]; simp [HD.len]
theorem rcells_len (h : HD) : (Try.prog.info? 45).map (·.size) = some (h.cells 20).length := by rw [rheadInfo]; simp [HD.len]
theorem end_plus (h : HD) (d : Int) : endV (HD.plus h d) = endV h ∧ endB (HD.plus h d) = endB h := ⟨rfl, rfl⟩
theorem plus_ok {h : HD} (ok : h.Ok 20) {d : Int} (hd : 0 ≤ d ∧ d ≤ 18446744073709551615) : (HD.plus h d).Ok 21 := ⟨ok.cp, ok.ic, ok.st, ok.I, fun i => by unfold HD.plus; dsimp only; split; exact ok.N i; exact hd, ok.ta, ok.ti, ok.te⟩
theorem whole {w : World} {g : Nat} {T : TypeId} {h : HD} {m : Nat} (hb : Blk w g (h.cells m) T) : w.rangeAt g 0 (h.cells m) := fun j v hj => by rw [Nat.zero_add]; exact hb.cell hj
attribute [local irreducible] HD.cells wpList Code.wp
set_option maxHeartbeats 4000000 in
theorem walk_main (h : HD) (d : Int) (w : World) (ok : h.Ok 20) (hd : 0 ≤ d ∧ d ≤ 18446744073709551615) :
    Calls Try.prog 5 #[.agg (h.cells 20).toArray, .int .u64 d] w fun e w' => e = .returned (.bool true) ∧ Below w.heap.size w w' := by
  have B0 := Lib.hid ((Below.refl w.heap.size w).alloc (Nat.le_refl _) (.cells (h.cells 20).toArray 45))
  have R0 := Lib.hid (show Blk (w.alloc (.cells (h.cells 20).toArray 45)) w.heap.size (h.cells 20) 45 from Blk.new w _ _)
  have okp := plus_ok ok hd
  have HOf := Lib.hid fun (W : World) => of_any h d W
  have HPut := Lib.hid fun (W : World) => hput_any (HD.plus h d) okp W
  have HRb := Lib.hid fun (W : World) => rbytes_any h ok d hd W
  have HE1 := Lib.hid fun (W : World) => end_any (HD.plus h d) okp W
  rw [(end_plus h d).1, (end_plus h d).2] at HE1
  have HE2 := Lib.hid fun (W : World) => rend_any h ok W
  have HLb := Lib.hid (HD.bytes_len (HD.plus h d) 21)
  unfold Owned at HPut HRb
  generalize (HD.plus h d).bytes 21 = LB at *
  go_enter Try.func5, Try.ntmps5
  go_upto_region 4 with (go_at_call 12; ((with_reducible refine (first_any _).mono ?_); rintro e w1 ⟨rfl, hb1⟩; have B1 := Lib.hid (B0.out.trans (hb1.mono B0.out.size)); have R1 := Lib.hid (R0.out.below hb1 R0.out.lt); clear hb1))
  have HL := Lib.hid R1.out.lt
  go_upto_region 5 with (first
    | ((with_reducible apply at_slot 14); refine wpList_load_row rfl 45 (.tmp 2) rfl w.heap.size rfl 45 (h.cells 20).toArray (0, 0) _ R1.out Try.underlying45 rfl (rcells_info h) ?_)
    | (go_at_call 15; ((with_reducible refine (HOf.out _).mono ?_); rintro e w2 ⟨rfl, hb2⟩; have B2 := Lib.hid hb2; clear hb2))
    | (go_at_call 16; ((with_reducible refine (HE1.out _).mono ?_); rintro e w3 ⟨rfl, hb3⟩; have B3a := Lib.hid (B2.out.trans (hb3.mono B2.out.size)); clear hb3)))
  have R3 := Lib.hid (R1.out.below B3a.out HL.out)
  have B3b := Lib.hid (B1.out.trans (B3a.out.mono B1.out.size))
  go_upto_region 6 with (first
    | ((with_reducible apply at_slot 21); refine wpList_load_row rfl 45 (.tmp 2) rfl w.heap.size rfl 45 (h.cells 20).toArray (0, 0) _ R3.out Try.underlying45 rfl (rcells_info h) ?_)
    | (go_at_call 17; ((with_reducible refine (HE2.out _).mono ?_); rintro e w4 ⟨rfl, hb4⟩; have B4a := Lib.hid hb4; clear hb4)))
  have R4 := Lib.hid (R3.out.below B4a.out R3.out.lt)
  have B4 := Lib.hid (B3b.out.trans (B4a.out.mono B3b.out.size))
  have B3 := Lib.hid (Below.refl w4.heap.size w4)
  have HS := Lib.hid fun (W : World) (hW : Below w4.heap.size w4 W) => show (fun W : World => W.rangeAt w.heap.size 0 (h.cells 20)) W from whole (R4.out.below hW R4.out.lt)
  clear R0 R1 R3 B0 B1 B2 B3a B3b B4a HE1 HE2 HL
  generalize endV h = V at *
  generalize endB h = EB at *
  refine wp_region_noPanic ?_
  refine wp_region_held_drew (S := fun W : World => W.rangeAt w.heap.size 0 (h.cells 20)) (by kernel_rfl) (by exact (HS.out _ B3.out.drew)) (fun hHeld => ?_)
  refine wpAnyH_take (i := 0) (oi := ⟨some 25, _, _, _, _, _⟩) (v := ?_) rfl (by kernel_rfl) (by kernel_rfl) (by kernel_rfl) (fun _ _ _ h => h) (Or.inl ⟨by rfl, ?_⟩) (by assumption) ?_
  rotate_left
  · intro W hSw; go_simp; try (with_reducible rfl)
  try simp only [Act.put, List.setIfInBounds_toArray, List.set_cons_zero, List.set_cons_succ]
  refine wpAnyH_take (i := 1) (oi := ⟨some 26, _, _, _, _, _⟩) (v := ?_) rfl (by kernel_rfl) (by kernel_rfl) (by kernel_rfl) (fun _ _ _ h => h) (Or.inl ⟨by rfl, ?_⟩) (by assumption) ?_
  rotate_left
  · intro W hSw; go_simp; try (with_reducible rfl)
  try simp only [Act.put, List.setIfInBounds_toArray, List.set_cons_zero, List.set_cons_succ]
  refine wpAnyH_take (i := 2) (oi := ⟨some 27, _, _, _, _, _⟩) rfl (by kernel_rfl) (by kernel_rfl) (by kernel_rfl) (fun _ _ _ h => h) (yieldsIf_load_mid (by rfl) _ _ rfl _ _ rfl _ _ (fun _ h => h) Try.underlying45 rfl (rcells_len h)) (by assumption) ?_
  try simp only [Act.put, List.setIfInBounds_toArray, List.set_cons_zero, List.set_cons_succ]
  refine wpAnyH_take (i := 3) (oi := ⟨some 28, _, _, _, _, _⟩) (v := ?_) rfl (by kernel_rfl) (by kernel_rfl) (by kernel_rfl) (fun _ _ _ h => h) (Or.inl ⟨by rfl, ?_⟩) (by assumption) ?_
  rotate_left
  · intro W hSw; go_simp; try (with_reducible rfl)
  try simp only [Act.put, List.setIfInBounds_toArray, List.set_cons_zero, List.set_cons_succ]
  refine wpAnyH_take (i := 6) (oi := ⟨some 31, _, _, _, _, _⟩) rfl (by kernel_rfl) (by kernel_rfl) (by kernel_rfl) (fun _ _ _ h => h) (yieldsIf_load_mid (by rfl) _ _ rfl _ _ rfl _ _ (fun _ h => h) Try.underlying45 rfl (rcells_len h)) (by assumption) ?_
  try simp only [Act.put, List.setIfInBounds_toArray, List.set_cons_zero, List.set_cons_succ]
  refine wpAnyH_take (i := 7) (oi := ⟨some 32, _, _, _, _, _⟩) (v := ?_) rfl (by kernel_rfl) (by kernel_rfl) (by kernel_rfl) (fun _ _ _ h => h) (Or.inl ⟨by rfl, ?_⟩) (by assumption) ?_
  rotate_left
  · intro W hSw; go_simp; try (with_reducible rfl)
  try simp only [Act.put, List.setIfInBounds_toArray, List.set_cons_zero, List.set_cons_succ]
  refine wpAnyH_ready (rs := [4]) (by kernel_rfl) (by simp) ?_
  refine AllReadyH.cons (o := ⟨some 29, _, _, _, _, _⟩) rfl (fun K hK => ?_) AllReadyH.nil
  go_simp
  ((with_reducible refine (HOf.out _).mono ?_); rintro e wa ⟨rfl, hba⟩; have Ba := Lib.hid (B3.out.drew.trans (hba.mono B3.out.drew.size)); clear hba)
  try go_wp2_with fail
  refine hK.out _ _ (by exact (HS.out _ Ba.out)) (fun hHeld => ?_)
  clear hK K
  try simp only [Act.put, List.setIfInBounds_toArray, List.set_cons_zero, List.set_cons_succ]
  refine wpAnyH_ready (rs := [5]) (by kernel_rfl) (by simp) ?_
  refine AllReadyH.cons (o := ⟨some 30, _, _, _, _, _⟩) rfl (fun K hK => ?_) AllReadyH.nil
  go_simp
  ((with_reducible refine (HPut.out _).mono ?_); rintro e wb ⟨Ab, cb, rfl, hob, hbb⟩; have Yb := Lib.hid hob.bytes; have Bb := Lib.hid (Ba.out.trans (hbb.mono Ba.out.size)); clear hob hbb)
  try go_wp2_with fail
  refine hK.out _ _ (by exact (HS.out _ Bb.out)) (fun hHeld => ?_)
  clear hK K
  try simp only [Act.put, List.setIfInBounds_toArray, List.set_cons_zero, List.set_cons_succ]
  refine wpAnyH_ready (rs := [8]) (by kernel_rfl) (by simp) ?_
  refine AllReadyH.cons (o := ⟨some 33, _, _, _, _, _⟩) rfl (fun K hK => ?_) AllReadyH.nil
  go_simp
  ((with_reducible refine (HRb.out _).mono ?_); rintro e wc ⟨Ac, cc, rfl, hoc, hbc⟩; have Yc := Lib.hid hoc.bytes; have Yd := Lib.hid (Yb.out.below hbc (Nat.le_refl _)); have Bc := Lib.hid (Bb.out.trans (hbc.mono Bb.out.size)); clear hoc hbc)
  try go_wp2_with fail
  refine hK.out _ _ (by exact (HS.out _ Bc.out)) (fun hHeld => ?_)
  clear hK K
  try simp only [Act.put, List.setIfInBounds_toArray, List.set_cons_zero, List.set_cons_succ]
  refine wpAnyH_ready (rs := [9]) (by kernel_rfl) (by simp) ?_
  refine AllReadyH.cons (o := ⟨some 34, _, _, _, _, _⟩) rfl (fun K hK => ?_) AllReadyH.nil
  go_simp
  ((with_reducible refine (same_yes3 Ab Ac _ 272 cb cc _ Yd.out Yc.out HLb.out).mono ?_); rintro e w' ⟨rfl, rfl⟩)
  try go_wp2_with fail
  refine hK.out _ _ (by exact (HS.out _ Bc.out)) (fun hHeld => ?_)
  clear hK K
  try simp only [Act.put, List.setIfInBounds_toArray, List.set_cons_zero, List.set_cons_succ]
  refine wpAnyH_take (i := 10) (oi := ⟨some 35, _, _, _, _, _⟩) (v := ?_) rfl (by kernel_rfl) (by kernel_rfl) (by kernel_rfl) (fun _ _ _ h => h) (Or.inl ⟨by rfl, ?_⟩) (by assumption) ?_
  rotate_left
  · intro W hSw; go_simp; try (with_reducible rfl)
  try simp only [Act.put, List.setIfInBounds_toArray, List.set_cons_zero, List.set_cons_succ]
  refine wpAnyH_take (i := 11) (oi := ⟨some 36, _, _, _, _, _⟩) (v := ?_) rfl (by kernel_rfl) (by kernel_rfl) (by kernel_rfl) (fun _ _ _ h => h) (Or.inl ⟨by rfl, ?_⟩) (by assumption) ?_
  rotate_left
  · intro W hSw; go_simp; try (with_reducible rfl)
  try simp only [Act.put, List.setIfInBounds_toArray, List.set_cons_zero, List.set_cons_succ]
  refine wpAnyH_take (i := 12) (oi := ⟨some 37, _, _, _, _, _⟩) (v := ?_) rfl (by kernel_rfl) (by kernel_rfl) (by kernel_rfl) (fun _ _ _ h => h) (Or.inl ⟨by rfl, ?_⟩) (by assumption) ?_
  rotate_left
  · intro W hSw; go_simp; try (with_reducible rfl)
  try simp only [Act.put, List.setIfInBounds_toArray, List.set_cons_zero, List.set_cons_succ]
  refine wpAnyH_take (i := 13) (oi := ⟨some 38, _, _, _, _, _⟩) (v := ?_) rfl (by kernel_rfl) (by kernel_rfl) (by kernel_rfl) (fun _ _ _ h => h) (Or.inl ⟨by rfl, ?_⟩) (by assumption) ?_
  rotate_left
  · intro W hSw; go_simp; try (with_reducible rfl)
  try simp only [Act.put, List.setIfInBounds_toArray, List.set_cons_zero, List.set_cons_succ]
  refine wpAnyH_take (i := 14) (oi := ⟨some 39, _, _, _, _, _⟩) (v := ?_) rfl (by kernel_rfl) (by kernel_rfl) (by kernel_rfl) (fun _ _ _ h => h) (Or.inl ⟨by rfl, ?_⟩) (by assumption) ?_
  rotate_left
  · intro W hSw; go_simp; try (with_reducible rfl)
  try simp only [Act.put, List.setIfInBounds_toArray, List.set_cons_zero, List.set_cons_succ]
  refine wpAnyH_take (i := 15) (oi := ⟨some 40, _, _, _, _, _⟩) (v := ?_) rfl (by kernel_rfl) (by kernel_rfl) (by kernel_rfl) (fun _ _ _ h => h) (Or.inl ⟨by rfl, ?_⟩) (by assumption) ?_
  rotate_left
  · intro W hSw; go_simp; try (with_reducible rfl)
  try simp only [Act.put, List.setIfInBounds_toArray, List.set_cons_zero, List.set_cons_succ]
  refine wpAnyH_take (i := 16) (oi := ⟨some 41, _, _, _, _, _⟩) (v := ?_) rfl (by kernel_rfl) (by kernel_rfl) (by kernel_rfl) (fun _ _ _ h => h) (Or.inl ⟨by rfl, ?_⟩) (by assumption) ?_
  rotate_left
  · intro W hSw; go_simp; try (with_reducible rfl)
  try simp only [Act.put, List.setIfInBounds_toArray, List.set_cons_zero, List.set_cons_succ]
  refine wpAnyH_take (i := 17) (oi := ⟨some 42, _, _, _, _, _⟩) (v := ?_) rfl (by kernel_rfl) (by kernel_rfl) (by kernel_rfl) (fun _ _ _ h => h) (Or.inl ⟨by rfl, ?_⟩) (by assumption) ?_
  rotate_left
  · intro W hSw; go_simp; try (with_reducible rfl)
  try simp only [Act.put, List.setIfInBounds_toArray, List.set_cons_zero, List.set_cons_succ]
  refine wpAnyH_take (i := 18) (oi := ⟨some 43, _, _, _, _, _⟩) (v := ?_) rfl (by kernel_rfl) (by kernel_rfl) (by kernel_rfl) (fun _ _ _ h => h) (Or.inl ⟨by rfl, ?_⟩) (by assumption) ?_
  rotate_left
  · intro W hSw; go_simp; try (with_reducible rfl)
  try simp only [Act.put, List.setIfInBounds_toArray, List.set_cons_zero, List.set_cons_succ]
  refine wpAnyH_take (i := 19) (oi := ⟨some 44, _, _, _, _, _⟩) (v := ?_) rfl (by kernel_rfl) (by kernel_rfl) (by kernel_rfl) (fun _ _ _ h => h) (Or.inl ⟨by rfl, ?_⟩) (by assumption) ?_
  rotate_left
  · intro W hSw; go_simp; try (with_reducible rfl)
  try simp only [Act.put, List.setIfInBounds_toArray, List.set_cons_zero, List.set_cons_succ]
  refine wpAnyH_take (i := 20) (oi := ⟨some 45, _, _, _, _, _⟩) (v := ?_) rfl (by kernel_rfl) (by kernel_rfl) (by kernel_rfl) (fun _ _ _ h => h) (Or.inl ⟨by rfl, ?_⟩) (by assumption) ?_
  rotate_left
  · intro W hSw; go_simp; try (with_reducible rfl)
  try simp only [Act.put, List.setIfInBounds_toArray, List.set_cons_zero, List.set_cons_succ]
  refine wpAnyH_take (i := 21) (oi := ⟨some 4, _, _, _, _, _⟩) (v := ?_) rfl (by kernel_rfl) (by kernel_rfl) (by kernel_rfl) (fun _ _ _ h => h) (Or.inl ⟨by rfl, ?_⟩) (by assumption) ?_
  rotate_left
  · intro W hSw; go_simp; try (with_reducible rfl)
  try simp only [Act.put, List.setIfInBounds_toArray, List.set_cons_zero, List.set_cons_succ]
  refine wpAnyH_done (by kernel_rfl) ?_ _
  refine NoPanic.normal ?_
  go_wp2
  go_ret
  exact ⟨ret_bool (by simp), B4.out.trans (Bc.out.mono B4.out.size)⟩
theorem walk (h : HD) (d : Int) (w : World) (ok : h.Ok 20) (hd : (Lit.int .u64 d).wf = true) :
    Calls Try.prog 5 #[.agg (h.cells 20).toArray, .int .u64 d] w fun e w' => e = .returned (.bool true) ∧ Below w.heap.size w w' := walk_main h d w ok (bounds_u64 hd)
end Go.Proofs.Ytekmbgcijkdkfaa.HeadPutsW
