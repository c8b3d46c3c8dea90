/-
  Texts beneath the proof, one behind the other.
-/
import Derived.BigRegion
import Derived.Test.YtldkmobncmfodaaQ29
import Derived.Test.YtldkmobncmfodaaQ5

/-
  The program's Read of an image: whole, with bytes behind it, cut.
-/
namespace Go.Proofs.Ytldkmobncmfodaa.Nv
open Go.ChangeShapes Go.WideShapes Go.ChangeAt Go.RowKit
open Bytes8 Blk8 Own8 OwnM OwnA OwnE LeA LeNum LeB LeP Ob Oc Od Ga Gb Gc Gd Gf Gi Gj Gk Gl Gm Ma Mh Na Ns Nt Nu
open Go1 (hcode rhd hread_any HTold bytes_take magicB)
set_option linter.unusedVariables false
set_option linter.unusedSimpArgs false
set_option maxRecDepth 100000

theorem read_img {m : Mk} (h : Img m) (r : List Int) (A : Option Addr) (n c : Nat) (w : World) (hb : Bytes w A (imgB m ++ r)) (hL : (imgB m ++ r).length = n) (hn : n ≤ 1000000) (hc : n ≤ c) :
    Calls Try.prog 9 #[.slice A n c] w (HTold (imgH m) 0 w) := by
  have h1 := hread_any A (imgB m ++ r) n c w hb hL hn hc
  have hN : m.b.length ≤ n := by rw [← hL, List.length_append, imgB_len h]; omega
  have hc0 := img_hcode h r n hN
  have hr : rhd (imgB m ++ r) n = hdOf (imgB m ++ r) := if_pos hc0
  rw [hr, hc0] at h1
  refine h1.mono fun e w' ⟨he, hb'⟩ => ⟨?_, hb'⟩
  rw [he, (img_says h r).cells]
theorem img_short {m : Mk} (h : Img m) (k : Nat) (hk : k < m.b.length) : hcode ((imgB m).take k) k = if k < 272 then 22 else 2 := by
  by_cases h1 : k < 272
  · rw [if_pos h1]
    exact if_pos h1
  · rw [if_neg h1]
    obtain ⟨l1, l2, l3⟩ := h.lens
    obtain ⟨e1, e2⟩ := img_end h
    have e : (imgB m).take k = (imgH m).bytes 21 ++ (m.b.drop 272).take (k - 272) := by
      unfold imgB
      rw [List.take_append, List.take_of_length_le (by rw [HD.bytes_len]; omega), HD.bytes_len]
    have hs := hd_back (imgH m) (imgH_ok h) (by show 0 ≤ (1 : Int) ∧ (1 : Int) < 256; decide) ((m.b.drop 272).take (k - 272))
    unfold Go1.hcode
    rw [if_neg h1, e, magic_back, if_neg (by simp), hs.fcode]
    have h0 := (imgH_N m 0 (by decide)).trans (if_neg (by decide))
    have hN1 := (imgH_N m 1 (by decide)).trans (if_pos rfl)
    rw [h.hg.n0] at h0
    have hfl : flB (imgH m).ic = false := by
      show flB m.h.ic = false
      rcases h.hg.ic with e | e <;> rw [e] <;> decide +kernel
    have hsb : stB (imgH m).st = true := rfl
    unfold Gm.fcode
    rw [e1, e2, h0, hN1, hfl, hsb, if_neg (by decide), if_neg (by decide), if_neg (by omega), if_pos (by right; omega)]
theorem read_cut {m : Mk} (h : Img m) (k : Nat) (hk : k < m.b.length) (A : Option Addr) (c : Nat) (w : World) (hb : Bytes w A ((imgB m).take k)) (hc : k ≤ c) :
    Calls Try.prog 9 #[.slice A k c] w (HTold hd0 (if k < 272 then 22 else 2) w) := by
  have hl := imgB_len h
  have h3 := h.lens
  have hL : ((imgB m).take k).length = k := by rw [List.length_take, hl]; omega
  have h1 := hread_any A ((imgB m).take k) k c w hb hL (by omega) hc
  have hs := img_short h k hk
  have hr : rhd ((imgB m).take k) k = hd0 := if_neg (by rw [hs]; split <;> decide)
  rw [hr, hs] at h1
  exact h1
end Go.Proofs.Ytldkmobncmfodaa.Nv

/-
  The program's view of a journal, opened: of nothing, of an image; the chapter's example of layer 10.
-/
namespace Go.Proofs.Ytldkmobncmfodaa.Ra
open Go.ChangeShapes Go.WideShapes Go.ChangeAt Go.RowKit
open Bytes8 Blk8 Own8 OwnM OwnE LeA LeNum LeP Rows2 Ob Oc Od Ga Gb Gc Gd Gf Gi Gj Numb Ma Mb Mh Na Ns Nt Nu Nv
open Go1 (HTold)
set_option linter.unusedVariables false
set_option linter.unusedSimpArgs false
set_option maxRecDepth 100000

theorem hcells_len (h : HD) : (Try.prog.info? 38).map (·.size) = some (h.cells 21).length := by rw [headInfo]; simp [HD.len]
theorem whole {w : World} {g : Nat} {T : TypeId} {h : HD} {m : Nat} (hb : Blk w g (h.cells m) T) : w.rangeAt g 0 (h.cells m) := fun j v hj => by rw [Nat.zero_add]; exact hb.cell hj
theorem cut_hu (A : Option Addr) (len cap hi : Nat) (h2 : hi ≤ cap) (hh : hi ≤ 1000000) (w : World) :
    (Instr.slice 28 (.slice A len cap) none (some (.int .u64 (hi : Int))) none).run Try.prog w = .ok (.slice (cutA A cap 0) hi cap) w := by
  have ht : Try.prog.underlying 28 = some (.slice (Try.prog.elem 28)) := by rw [elem8]; exact Try.underlying28
  rw [run_slice_h w 28 A len cap ht .u64 hi (by omega) (by omega), elem8, sizeof8]
  unfold sliced cutA
  by_cases hc : cap = 0
  · simp [hc]
  · simp [hc]
/-- A view's cells. -/
def viewC (h : HD) (b : Value) : List Value := h.cells 21 ++ [b]
theorem view_built (h : HD) (b : Value) (A : Option Addr) (n c : Nat) (e : b = .slice A n c) : Try.prog.built 45 [(0, .agg (h.cells 21).toArray), (1, b)] = some (viewC h b).toArray := by subst e; kernel_rfl
def bldV (parts : Array (Nat × Value)) : Sem Value := Instr.build 45 parts
theorem bldV_fold (parts : Array (Nat × Value)) : Instr.build 45 parts = bldV parts := rfl
theorem build_view (h : HD) (A : Option Addr) (n c : Nat) (w : World) : (bldV #[(0, .agg (h.cells 21).toArray), (1, .slice A n c)]).run Try.prog w = .ok (.agg (viewC h (.slice A n c)).toArray) w := by
  unfold bldV
  exact run_build w _ _ _ (view_built h _ A n c rfl)
attribute [local irreducible] HD.cells wpList Code.wp
attribute [local go_sem ↓] bldV_fold
set_option maxHeartbeats 4000000 in
theorem open_nil (w : World) : Calls Try.prog 6 #[.slice none 0 0] w fun e w' => e = .returned (.tuple #[.pointer none, .int .i64 22]) ∧ Below w.heap.size w w' := by
  have HR := Lib.hid fun (W : World) => read_short none 0 0 W (by decide)
  go_enter Try.func6, Try.ntmps6
  go_wp2_with (first
    | (go_at_call 9; ((refine (HR.out _).mono ?_); rintro e w1 ⟨rfl, hb1⟩; have B1 := Lib.hid hb1; clear hb1))
    | ((with_reducible apply at_store (.tmp 4) (.tmp 11)); refine wpList_store_row rfl 38 (.tmp 4) (.tmp 11) rfl w1.heap.size (hd0.cells 21).toArray rfl rfl 38 Try.zeroCells38 (heap_alloc_new w1 _) (cells_info _) zeros_size (HD.one _ 21) ?_)
    | fail)
  have B2 := Lib.hid (show Below w.heap.size w ((w1.alloc (.cells Try.zeroCells38 38)).setRow w1.heap.size (hd0.cells 21).toArray) from below_setRow (B1.out.alloc B1.out.size _) B1.out.size _)
  go_ret2
  exact ⟨rfl, B2.out⟩
/-- A view of an image. -/
def Viewed (m : Mk) (w : World) (e : Ending) (w' : World) : Prop := ∃ (gv : Nat) (A : Option Addr) (c : Nat), e = .returned (.tuple #[.pointer (some ⟨gv, 0, none⟩), .int .i64 0]) ∧ w.heap.size ≤ gv ∧ Blk w' gv (viewC (imgH m) (.slice A m.b.length c)) 45 ∧ Bytes w' A (imgB m) ∧ Below w.heap.size w w'
set_option maxHeartbeats 4000000 in
theorem open_img {m : Mk} (h : Img m) (A : Option Addr) (n c : Nat) (w : World) (hn : m.b.length = n) (hb : Bytes w A (imgB m)) (hc : n ≤ c) : Calls Try.prog 6 #[.slice A n c] w (Viewed m w) := by
  obtain ⟨l1, l2, l3⟩ := h.lens
  have hLB := imgB_len h
  have hend := img_end h
  have hok := imgH_ok h
  have R1 := Lib.hid (by have k := read_img h [] A n c w (by rw [List.append_nil]; exact hb) (by rw [List.append_nil, hLB]; exact hn) (by omega) hc; exact k)
  unfold HTold at R1
  have HE := Lib.hid fun (W : World) => end_any (imgH m) hok W
  rw [hend.1, hend.2, hn] at HE
  have HB := Lib.hid hb
  unfold Viewed
  rw [hn] at l1 l2 l3 hLB ⊢
  have HLB := Lib.hid hLB
  clear hLB hend hok h hb hn
  go_enter Try.func6, Try.ntmps6
  go_upto_region 4 with (first
    | (go_at_call 9; ((refine R1.out.mono ?_); rintro e w1 ⟨rfl, hb1⟩; have B1 := Lib.hid hb1; clear hb1))
    | ((with_reducible apply at_store (.tmp 4) (.tmp 11)); refine wpList_store_row rfl 38 (.tmp 4) (.tmp 11) rfl w1.heap.size ((imgH m).cells 21).toArray rfl rfl 38 Try.zeroCells38 (heap_alloc_new w1 _) (cells_info _) zeros_size (HD.one _ 21) ?_)
    | fail)
  have R2 := Lib.hid (show Blk ((w1.alloc (.cells Try.zeroCells38 38)).setRow w1.heap.size ((imgH m).cells 21).toArray) w1.heap.size ((imgH m).cells 21) 38 from setRow_heap _ _ _ _ _ (0, 0) (heap_alloc_new w1 _))
  have B2 := Lib.hid (show Below w.heap.size w ((w1.alloc (.cells Try.zeroCells38 38)).setRow w1.heap.size ((imgH m).cells 21).toArray) from below_setRow (B1.out.alloc B1.out.size _) B1.out.size _)
  generalize (w1.alloc (.cells Try.zeroCells38 38)).setRow w1.heap.size ((imgH m).cells 21).toArray = w2 at *
  generalize w1.heap.size = s4 at *
  clear R1 B1
  go_upto_region 5 with (first
    | ((with_reducible apply at_slot 17); refine wpList_load_row rfl 38 (.tmp 4) rfl s4 rfl 38 ((imgH m).cells 21).toArray (0, 0) _ R2.out Try.underlying38 rfl (cells_info _) ?_)
    | (go_at_call 10; ((refine (HE.out _).mono ?_); rintro e w4 ⟨rfl, hb4⟩; have B4 := Lib.hid (B2.out.trans (hb4.mono B2.out.size)); have R4 := Lib.hid (R2.out.below hb4 R2.out.lt); clear hb4))
    | fail)
  have D4 := Lib.hid (show Below w4.heap.size w4 w4.drew from (Below.refl w4.heap.size w4).drew)
  have HS := Lib.hid fun (W : World) (hW : Below w4.heap.size w4 W) => show (fun W : World => W.rangeAt s4 0 ((imgH m).cells 21)) W from whole (R4.out.below hW R4.out.lt)
  have hcut := fun W : World => cut_hu A n c n hc (by omega) W
  have HBw := Lib.hid (show Bytes w4.drew (cutA A c 0) (imgB m) from by
    have k := Bytes.cut ((HB.out.below B4.out (Nat.le_refl _)).below D4.out (Nat.le_refl _)) c 0 n (by rw [HLB.out]; exact hc)
    rw [List.drop_zero, List.take_of_length_le (by rw [HLB.out]; exact Nat.le_refl _)] at k
    exact k)
  have HCl := Lib.hid fun (W : World) (hW : Bytes W (cutA A c 0) (imgB m)) => Cl8.clone_any (cutA A c 0) (imgB m) n c W hW HLB.out (by omega)
  have hbld := fun (A' : Option Addr) (c' : Nat) (W : World) => build_view (imgH m) A' n c' W
  unfold Cl8.Made at HCl
  clear HE R2 B2 HB HLB hc
  refine wp_region_noPanic ?_
  refine wp_region_held_drew (S := fun W : World => W.rangeAt s4 0 ((imgH m).cells 21)) (by kernel_rfl) (by exact (HS.out _ D4.out)) (fun hHeld => ?_)
  refine wpAnyH_take (i := 0) (oi := ⟨some 21, _, _, _, _, _⟩) rfl (by kernel_rfl) (by kernel_rfl) (by kernel_rfl) (fun _ _ _ h => h) (yieldsIf_load_mid (by rfl) _ _ rfl _ _ rfl _ _ (fun _ h => h) Try.underlying38 rfl (hcells_len _)) (by assumption) ?_
  try simp only [Act.put, List.setIfInBounds_toArray, List.set_cons_zero, List.set_cons_succ]
  refine wpAnyH_take (i := 1) (oi := ⟨some 22, _, _, _, _, _⟩) (v := ?_) rfl (by kernel_rfl) (by kernel_rfl) (by kernel_rfl) (fun _ _ _ h => h) (Or.inl ⟨by rfl, ?_⟩) (by assumption) ?_
  rotate_left
  · intro W hSw; go_simp; try (with_reducible rfl)
  try simp only [Act.put, List.setIfInBounds_toArray, List.set_cons_zero, List.set_cons_succ]
  refine wpAnyH_take (i := 2) (oi := ⟨some 23, _, _, _, _, _⟩) (v := ?_) rfl (by kernel_rfl) (by kernel_rfl) (by kernel_rfl) (fun _ _ _ h => h) (Or.inl ⟨by rfl, ?_⟩) (by assumption) ?_
  rotate_left
  · intro W hSw; go_simp; try (with_reducible rfl)
  try simp only [Act.put, List.setIfInBounds_toArray, List.set_cons_zero, List.set_cons_succ]
  refine wpAnyH_take (i := 3) (oi := ⟨some 24, _, _, _, _, _⟩) (v := ?_) rfl (by kernel_rfl) (by kernel_rfl) (by kernel_rfl) (fun _ _ _ h => h) (Or.inl ⟨by rfl, ?_⟩) (by assumption) ?_
  rotate_left
  · intro W hSw; go_simp; try (with_reducible rfl)
  try simp only [Act.put, List.setIfInBounds_toArray, List.set_cons_zero, List.set_cons_succ]
  refine wpAnyH_ready (rs := [4]) (by kernel_rfl) (by simp) ?_
  refine AllReadyH.cons (o := ⟨some 25, _, _, _, _, _⟩) rfl (fun K hK => ?_) AllReadyH.nil
  go_simp
  ((refine (HCl.out _ HBw.out).mono ?_); rintro e w5 ⟨A5, c5, rfl, hby5, hb5⟩; have B5 := Lib.hid (D4.out.trans hb5); have HB5 := Lib.hid hby5; clear hb5 hby5)
  try go_wp2_with fail
  refine hK.out _ _ (by exact (HS.out _ B5.out)) (fun hHeld => ?_)
  clear hK K
  try simp only [Act.put, List.setIfInBounds_toArray, List.set_cons_zero, List.set_cons_succ]
  refine wpAnyH_take (i := 5) (oi := ⟨some 26, _, _, _, _, _⟩) (v := ?_) rfl (by kernel_rfl) (by kernel_rfl) (by kernel_rfl) (fun _ _ _ h => h) (Or.inl ⟨by rfl, ?_⟩) (by assumption) ?_
  rotate_left
  · intro W hSw; go_simp; try (with_reducible rfl)
  try simp only [Act.put, List.setIfInBounds_toArray, List.set_cons_zero, List.set_cons_succ]
  refine wpAnyH_ready (rs := [6]) (by kernel_rfl) (by simp) ?_
  refine AllReadyH.cons (o := ⟨some 27, _, _, _, _, _⟩) rfl (fun K hK => ?_) AllReadyH.nil
  go_simp
  skip
  try go_wp2_with fail
  refine hK.out _ _ (by exact (HS.out _ (B5.out.alloc B5.out.size _))) (fun hHeld => ?_)
  clear hK K
  try simp only [Act.put, List.setIfInBounds_toArray, List.set_cons_zero, List.set_cons_succ]
  refine wpAnyH_take (i := 7) (oi := ⟨some 2, _, _, _, _, _⟩) (v := ?_) rfl (by kernel_rfl) (by kernel_rfl) (by kernel_rfl) (fun _ _ _ h => h) (Or.inl ⟨by rfl, ?_⟩) (by assumption) ?_
  rotate_left
  · intro W hSw; go_simp; try (with_reducible rfl)
  try simp only [Act.put, List.setIfInBounds_toArray, List.set_cons_zero, List.set_cons_succ]
  refine wpAnyH_take (i := 8) (oi := ⟨some 3, _, _, _, _, _⟩) (v := ?_) rfl (by kernel_rfl) (by kernel_rfl) (by kernel_rfl) (fun _ _ _ h => h) (Or.inl ⟨by rfl, ?_⟩) (by assumption) ?_
  rotate_left
  · intro W hSw; go_simp; try (with_reducible rfl)
  try simp only [Act.put, List.setIfInBounds_toArray, List.set_cons_zero, List.set_cons_succ]
  refine wpAnyH_done (by kernel_rfl) ?_ _
  refine NoPanic.normal ?_
  go_wp2
  go_ret2
  exact ⟨_, _, _, rfl, Nat.le_trans B4.out.size B5.out.size, Blk.new w5 _ _, HB5.out.below ((Below.refl _ _).alloc (Nat.le_refl _) _) (Nat.le_refl _), B4.out.trans ((B5.out.alloc B5.out.size _).mono B4.out.size)⟩
theorem ints_three (w : World) (x y z : Int) (hx : (Lit.int .i64 x).wf = true) (hy : (Lit.int .i64 y).wf = true) (hz : (Lit.int .i64 z).wf = true) : InInts .i64 (w.alloc (.cells #[.int .i64 x, .int .i64 y, .int .i64 z] 3)) (some ⟨w.heap.size, 0, none⟩) 3 (fun i => if i = 0 then x else if i = 1 then y else z) := fun i hi => by
  have h := Blk.new w [.int .i64 x, .int .i64 y, .int .i64 z] 3
  have hi3 : i = 0 ∨ i = 1 ∨ i = 2 := by omega
  refine ⟨w.heap.size, 0, rfl, h.lt, ?_, ?_⟩
  · rw [Nat.zero_add]
    rcases hi3 with rfl | rfl | rfl <;> exact h.cell rfl
  · rcases hi3 with rfl | rfl | rfl
    · exact hx
    · exact hy
    · exact hz
end Go.Proofs.Ytldkmobncmfodaa.Ra

/-
  The program's link: how many items an array has; of no entries no array is read; the chapter's examples.
-/
namespace Go.Proofs.Ytldkmobncmfodaa.Lk
open Go.ChangeShapes Go.WideShapes Go.ChangeAt Go.RowKit
open Bytes8 Blk8 Own8 OwnM OwnE LeA LeNum LeP Rows2 Ob Oc Od Ga Gb Gc Gd Gf Gi Gj Numb Ma Mb Mh Na Ns Nt Nu Nv Ra
set_option linter.unusedVariables false
set_option linter.unusedSimpArgs false
set_option maxRecDepth 100000

/-- How many items the i-th array has, up to the sixth. -/
def rp (i : Nat) : Nat := 4 * 2 ^ i
theorem rp_succ (i : Nat) : rp (i + 1) = rp i * 2 := by unfold rp; rw [Nat.pow_succ]; omega
theorem rp_lt {i : Nat} (h : i < 6) : rp i < 256 := by
  unfold rp
  rcases i with _ | _ | _ | _ | _ | _ | i
  all_goals first | decide | omega
theorem rp_zero : ((rp 0 : Nat) : Int) = 4 := rfl
theorem rp_six : rp 6 = 256 := rfl
theorem rp_le {i : Nat} (h : i ≤ 6) : rp i ≤ 256 := by
  rcases Nat.lt_or_ge i 6 with h1 | h1
  · exact Nat.le_of_lt (rp_lt h1)
  · have : i = 6 := by omega
    subst this; exact Nat.le_refl _
def roomP (k : Int) : Int := if k < 0 then 0 else (rp (min k.toNat 6) : Nat)
theorem room_three : roomP 3 = 32 := rfl
def natOf : Value → Nat
  | .int _ z => z.toNat
  | _ => 0
attribute [local irreducible] rp HD.cells wpList Code.wp
set_option maxHeartbeats 2000000 in
theorem room_any (k : Int) (hk : k ≤ 9223372036854775807) (w : World) : Calls Try.prog 5 #[.int .i64 k] w fun e w' => e = .returned (.int .i64 (roomP k)) ∧ w = w' := by
  unfold roomP
  by_cases hneg : k < 0
  · rw [if_pos hneg]
    have d : decide (k < 0) = true := by simpa using hneg
    go_enter Try.func5, Try.ntmps5
    go_wp2
    go_ret
    exact ⟨rfl, rfl⟩
  · rw [if_neg hneg]
    have d : decide (k < 0) = false := by simpa using hneg
    obtain ⟨K, rfl⟩ : ∃ K : Nat, k = (K : Int) := ⟨k.toNat, by omega⟩
    obtain ⟨M, hM⟩ : ∃ M, M = min (K : Int).toNat 6 := ⟨_, rfl⟩
    rw [← hM]
    have HM := Lib.hid hM
    clear hM
    clear hneg
    have hK : (K : Int) ≤ 9223372036854775807 := hk
    clear hk
    go_enter Try.func5, Try.ntmps5
    go_upto_region 4 with fail
    go_loopw [0, 3] (fun a b wr => w = wr ∧ ∃ i x : Nat, i ≤ 6 ∧ i + x = K ∧ a = .int .i64 (x : Int) ∧ b = .int .i64 ((rp i : Nat) : Int)) (fun a _ _ => natOf a)
    case atStart => exact ⟨rfl, 0, K, by omega, by omega, rfl, by rw [rp_zero]⟩
    case round =>
      obtain ⟨rfl, i, x, hi, hx, rfl, rfl⟩ := hrel
      by_cases h1 : 0 < x
      · have d1 : decide ((x : Int) > 0) = true := by simpa using h1
        by_cases h2 : i < 6
        · have h3 := rp_lt h2
          have d2 : decide (((rp i : Nat) : Int) < 256) = true := by simp; omega
          have hw : IntKind.i64.wrap (((rp i : Nat) : Int) * 2) = ((rp (i + 1) : Nat) : Int) := by rw [rp_succ, IntKind.wrap_i64]; omega
          have hw2 : IntKind.i64.wrap ((x : Int) - 1) = ((x - 1 : Nat) : Int) := by rw [IntKind.wrap_i64]; omega
          go_wp2
          go_roundw
          case rel => exact ⟨trivial, i + 1, x - 1, by omega, by omega, rfl, rfl⟩
          case measure => simp [natOf]; omega
        · have h6 : i = 6 := by omega
          have hx6 : i + x = K := hx
          have d2 : decide (((rp i : Nat) : Int) < 256) = false := by subst h6; rw [rp_six]; decide
          have d3 : decide (((rp i : Nat) : Int) ≤ 256) = true := by subst h6; rw [rp_six]; decide
          have hmn : min ((rp i : Nat) : Int) 256 = ((rp i : Nat) : Int) := by subst h6; rw [rp_six]; decide
          have hng : ¬ (256 : Int) < ((rp i : Nat) : Int) := by subst h6; rw [rp_six]; decide
          have hlt : ¬ ((rp i : Nat) : Int) < 256 := by subst h6; rw [rp_six]; decide
          have hle : ((rp i : Nat) : Int) ≤ 256 := by subst h6; rw [rp_six]; decide
          clear h6
          go_wp2
          go_ret
          exact ⟨by rw [show M = i from by have := HM.out; omega]; rfl, rfl⟩
      · have d1 : decide ((x : Int) > 0) = false := by simpa using h1
        have hle : ((rp i : Nat) : Int) ≤ 256 := by have := rp_le hi; omega
        have hmn : min ((rp i : Nat) : Int) 256 = ((rp i : Nat) : Int) := by omega
        have hng : ¬ (256 : Int) < ((rp i : Nat) : Int) := by omega
        go_wp2
        go_ret
        exact ⟨by rw [show M = i from by have := HM.out; omega]; rfl, rfl⟩
theorem view_head {w : World} {gv : Nat} {h : HD} {b : Value} (hv : Blk w gv (viewC h b) 45) : w.rangeAt gv 0 (h.cells 21) := fun j x hj => by
  rw [Nat.zero_add]
  refine hv.cell ?_
  unfold viewC
  rw [List.getElem?_append_left (List.getElem?_eq_some_iff.1 hj).1]
  exact hj
set_option maxHeartbeats 2000000 in
theorem vhead_any {gv : Nat} {h : HD} {b : Value} (w : World) (hv : Blk w gv (viewC h b) 45) : Calls Try.prog 14 #[.pointer (some ⟨gv, 0, none⟩)] w fun e w' => e = .returned (.agg (h.cells 21).toArray) ∧ Below w.heap.size w w' := by
  have b1 := Lib.hid ((Below.refl w.heap.size w).alloc (Nat.le_refl _) (.cells Try.zeroCells38 38))
  have HR := Lib.hid (view_head (hv.below b1.out hv.lt))
  have Z := Lib.hid (heap_alloc_new w (.cells Try.zeroCells38 38))
  clear hv
  go_enter Try.func14, Try.ntmps14
  go_wp2_with (first
    | ((with_reducible apply at_slot 6); refine wpList_load_mid rfl 38 (.tmp 5) rfl gv 0 rfl (h.cells 21) _ HR.out Try.underlying38 rfl (hcells_len _) ?_)
    | ((with_reducible apply at_store (.tmp 2) (.tmp 6)); refine wpList_store_row rfl 38 (.tmp 2) (.tmp 6) rfl w.heap.size (h.cells 21).toArray rfl rfl 38 Try.zeroCells38 Z.out (cells_info _) zeros_size (HD.one _ 21) ?_)
    | fail)
  refine bodyPost_ret (v := .agg (h.cells 21).toArray) (by exact results_cell_row Try.results14 _ _ w.heap.size 38 _ (0, 0) _ rfl (setRow_heap _ w.heap.size _ _ _ (0, 0) Z.out) Try.underlying38 rfl (cells_info _)) rfl ?_
  exact ⟨rfl, below_setRow b1.out (Nat.le_refl _) _⟩
set_option maxHeartbeats 2000000 in
theorem gather_none (gv : Nat) (at_ c1 c2 : Int) (w : World) : Calls Try.prog 15 #[.pointer (some ⟨gv, 0, none⟩), .slice none 0 0, .int .u64 0, .int .u64 at_, .agg #[.int .i64 c1, .int .i64 c2]] w fun e w' => e = .returned (.tuple #[.slice none 0 0, .int .i64 0]) ∧ Below w.heap.size w w' := by
  go_enter Try.func15, Try.ntmps15
  go_wp2
  refine bodyPost_ret (v := .tuple #[.slice none 0 0, .int .i64 0]) (by simp [results, Try.results15, go_sem]) rfl ?_
  exact ⟨rfl, ((((((Below.refl w.heap.size w).alloc (Nat.le_refl _) _).alloc (by simp <;> omega) _).alloc (by simp <;> omega) _).alloc (by simp <;> omega) _).alloc (by simp <;> omega) _).alloc (by simp <;> omega) _⟩
set_option maxHeartbeats 2000000 in
theorem entries_none {gv : Nat} {h : HD} {b : Value} (w : World) (hv : Blk w gv (viewC h b) 45) (h8 : h.N 8 = 0) : Calls Try.prog 8 #[.pointer (some ⟨gv, 0, none⟩)] w fun e w' => e = .returned (.tuple #[.slice none 0 0, .int .i64 0]) ∧ Below w.heap.size w w' := by
  have HH := Lib.hid (vhead_any w hv)
  clear hv
  go_enter Try.func8, Try.ntmps8
  go_upto_region 2 with (first
    | (go_at_call 14; (refine HH.out.mono ?_); rintro e w1 ⟨rfl, hb1⟩; have B1 := Lib.hid hb1; clear hb1)
    | ((with_reducible apply at_store (.tmp 4) (.tmp 6)); refine wpList_store_row rfl 38 (.tmp 4) (.tmp 6) rfl w1.heap.size (h.cells 21).toArray rfl rfl 38 Try.zeroCells38 (heap_alloc_new w1 _) (cells_info _) zeros_size (HD.one _ 21) ?_)
    | fail)
  have R2 := Lib.hid (show Blk ((w1.alloc (.cells Try.zeroCells38 38)).setRow w1.heap.size (h.cells 21).toArray) w1.heap.size (h.cells 21) 38 from setRow_heap _ _ _ _ _ (0, 0) (heap_alloc_new w1 _))
  have B2 := Lib.hid (show Below w.heap.size w ((w1.alloc (.cells Try.zeroCells38 38)).setRow w1.heap.size (h.cells 21).toArray) from below_setRow (B1.out.alloc B1.out.size _) B1.out.size _)
  generalize (w1.alloc (.cells Try.zeroCells38 38)).setRow w1.heap.size (h.cells 21).toArray = w2 at *
  generalize w1.heap.size = s4 at *
  have c75 : w2.cell? ⟨s4, 75, none⟩ = some (.int .u64 0) := by have k := R2.out.cell (h.get_N 21 8 (by decide)); rw [h8] at k; exact k
  have c78 : w2.cell? ⟨s4, 78, none⟩ = some (.int .u64 (h.N 11)) := R2.out.cell (h.get_N 21 11 (by decide))
  clear HH B1
  go_wp2_with (first
    | (go_at_call 15; (refine (gather_none _ _ _ _ _).mono ?_); rintro e w3 ⟨rfl, hb3⟩; have B3 := Lib.hid (B2.out.trans (hb3.mono B2.out.size)); clear hb3)
    | fail)
  go_ret2
  exact ⟨rfl, B3.out⟩
set_option maxHeartbeats 2000000 in
theorem first_link (w : World) : Calls Try.prog 4 #[] w fun e w' => e = .returned (.bool true) ∧ Below w.heap.size w w' := by
  have HI := Lib.hid (image_n none 0 0 (fun _ => 0) 0 w (fun i hi => absurd hi (Nat.not_lt_zero i)) (by decide) (by decide))
  unfold ImagedN at HI
  have r3 := room_three
  have HRm := Lib.hid fun (W : World) => room_any 3 (by decide) W
  rw [r3] at HRm
  go_enter Try.func4, Try.ntmps4
  go_upto_region 2 with (first
    | (go_at_call 7; ((refine HI.out.mono ?_); rintro e w2 ⟨A, c, m, n, rfl, hg2, ho2, hb2⟩; have HG := Lib.hid hg2; have B2 := Lib.hid hb2; have HOp := Lib.hid (open_img hg2.img A m.b.length c w2 rfl ho2.bytes (own_cap ho2).1); clear hg2 ho2 hb2; unfold Viewed at HOp))
    | (go_at_call 6; ((refine HOp.out.mono ?_); rintro e w3 ⟨gv, A3, c3, rfl, hgv, hv3, hby3, hb3⟩; have B3 := Lib.hid (B2.out.trans (hb3.mono B2.out.size)); have HE := Lib.hid (entries_none w3 hv3 (by rw [imgH_N m 8 (by decide), if_neg (by decide), HG.out.cnt]; have := HG.out.le; omega)); clear hgv hv3 hby3 hb3))
    | fail)
  go_wp2_with (first
    | (go_at_call 8; ((refine HE.out.mono ?_); rintro e w4 ⟨rfl, hb4⟩; have B4 := Lib.hid (B3.out.trans (hb4.mono B3.out.size)); clear hb4))
    | (go_at_call 5; ((refine (HRm.out _).mono ?_); rintro e w5 ⟨rfl, rfl⟩))
    | fail)
  go_ret
  exact ⟨rfl, B4.out⟩
end Go.Proofs.Ytldkmobncmfodaa.Lk

/-
  The walk of LinkRooms.
-/
namespace Go.Proofs.Ytldkmobncmfodaa.LinkRoomsW
open Go.ChangeShapes Go.WideShapes Go.ChangeAt Go.RowKit
open Bytes8 Blk8 OwnE Numb Ra Lk
set_option linter.unusedVariables false
set_option linter.unusedSimpArgs false
set_option maxRecDepth 100000

theorem room_neg (k : Int) (h : k < 0) : roomP k = 0 := by unfold roomP; rw [if_pos h]
theorem room_big (k : Int) (h : 6 ≤ k) : roomP k = 256 := by
  unfold roomP
  rw [if_neg (by omega), show min k.toNat 6 = 6 by omega]
  rfl
attribute [local irreducible] roomP wpList Code.wp
theorem walk_0 (w : World) : Calls Try.prog 3 #[.int .i64 0] w fun e w' => e = .returned (.bool true) ∧ Below w.heap.size w w' := by
  have ra : roomP 0 = 4 := by unfold roomP; decide
  go_enter Try.func3, Try.ntmps3
  go_wp2_with (first
    | (go_at_call 4; ((refine (first_link _).mono ?_); rintro e w1 ⟨rfl, hb1⟩; have B1 := Lib.hid hb1; clear hb1))
    | (go_at_call 5; ((refine (room_any _ (by omega) _).mono ?_); rintro e w5 ⟨rfl, rfl⟩))
    | fail)
  go_ret
  exact ⟨rfl, B1.out⟩
theorem walk_1 (w : World) : Calls Try.prog 3 #[.int .i64 1] w fun e w' => e = .returned (.bool true) ∧ Below w.heap.size w w' := by
  have ra : roomP 1 = 8 := by unfold roomP; decide
  have rb : roomP 0 = 4 := by unfold roomP; decide
  go_enter Try.func3, Try.ntmps3
  go_wp2_with (first
    | (go_at_call 4; ((refine (first_link _).mono ?_); rintro e w1 ⟨rfl, hb1⟩; have B1 := Lib.hid hb1; clear hb1))
    | (go_at_call 5; ((refine (room_any _ (by omega) _).mono ?_); rintro e w5 ⟨rfl, rfl⟩))
    | fail)
  go_ret
  exact ⟨rfl, B1.out⟩
theorem walk_2 (w : World) : Calls Try.prog 3 #[.int .i64 2] w fun e w' => e = .returned (.bool true) ∧ Below w.heap.size w w' := by
  have ra : roomP 2 = 16 := by unfold roomP; decide
  have rc : roomP 1 = 8 := by unfold roomP; decide
  go_enter Try.func3, Try.ntmps3
  go_wp2_with (first
    | (go_at_call 4; ((refine (first_link _).mono ?_); rintro e w1 ⟨rfl, hb1⟩; have B1 := Lib.hid hb1; clear hb1))
    | (go_at_call 5; ((refine (room_any _ (by omega) _).mono ?_); rintro e w5 ⟨rfl, rfl⟩))
    | fail)
  go_ret
  exact ⟨rfl, B1.out⟩
theorem walk_3 (w : World) : Calls Try.prog 3 #[.int .i64 3] w fun e w' => e = .returned (.bool true) ∧ Below w.heap.size w w' := by
  have ra : roomP 3 = 32 := by unfold roomP; decide
  have rb : roomP 2 = 16 := by unfold roomP; decide
  go_enter Try.func3, Try.ntmps3
  go_wp2_with (first
    | (go_at_call 4; ((refine (first_link _).mono ?_); rintro e w1 ⟨rfl, hb1⟩; have B1 := Lib.hid hb1; clear hb1))
    | (go_at_call 5; ((refine (room_any _ (by omega) _).mono ?_); rintro e w5 ⟨rfl, rfl⟩))
    | fail)
  go_ret
  exact ⟨rfl, B1.out⟩
theorem walk_4 (w : World) : Calls Try.prog 3 #[.int .i64 4] w fun e w' => e = .returned (.bool true) ∧ Below w.heap.size w w' := by
  have ra : roomP 4 = 64 := by unfold roomP; decide
  have rc : roomP 3 = 32 := by unfold roomP; decide
  go_enter Try.func3, Try.ntmps3
  go_wp2_with (first
    | (go_at_call 4; ((refine (first_link _).mono ?_); rintro e w1 ⟨rfl, hb1⟩; have B1 := Lib.hid hb1; clear hb1))
    | (go_at_call 5; ((refine (room_any _ (by omega) _).mono ?_); rintro e w5 ⟨rfl, rfl⟩))
    | fail)
  go_ret
  exact ⟨rfl, B1.out⟩
theorem walk_5 (w : World) : Calls Try.prog 3 #[.int .i64 5] w fun e w' => e = .returned (.bool true) ∧ Below w.heap.size w w' := by
  have ra : roomP 5 = 128 := by unfold roomP; decide
  have rb : roomP 4 = 64 := by unfold roomP; decide
  go_enter Try.func3, Try.ntmps3
  go_wp2_with (first
    | (go_at_call 4; ((refine (first_link _).mono ?_); rintro e w1 ⟨rfl, hb1⟩; have B1 := Lib.hid hb1; clear hb1))
    | (go_at_call 5; ((refine (room_any _ (by omega) _).mono ?_); rintro e w5 ⟨rfl, rfl⟩))
    | fail)
  go_ret
  exact ⟨rfl, B1.out⟩
set_option maxHeartbeats 2000000 in
theorem walk_neg (k : Int) (h : k < 0) (w : World) : Calls Try.prog 3 #[.int .i64 k] w fun e w' => e = .returned (.bool true) ∧ Below w.heap.size w w' := by
  have ra := room_neg k h
  have d1 : decide (k < 0) = true := by simpa using h
  go_enter Try.func3, Try.ntmps3
  go_wp2_with (first
    | (go_at_call 4; ((refine (first_link _).mono ?_); rintro e w1 ⟨rfl, hb1⟩; have B1 := Lib.hid hb1; clear hb1))
    | (go_at_call 5; ((refine (room_any _ (by omega) _).mono ?_); rintro e w5 ⟨rfl, rfl⟩))
    | fail)
  go_ret
  exact ⟨rfl, B1.out⟩
set_option maxHeartbeats 2000000 in
theorem walk_big (K : Nat) (h : 6 ≤ K) (hK : (K : Int) ≤ 9223372036854775807) (w : World) : Calls Try.prog 3 #[.int .i64 (K : Int)] w fun e w' => e = .returned (.bool true) ∧ Below w.heap.size w w' := by
  have ra := room_big (K : Int) (by omega)
  have d1 : decide ((K : Int) < 0) = false := by simp
  have d2 : decide ((K : Int) < 6) = false := by simp; omega
  have d3 : ((K : Int) != 0) = true := by simp; omega
  have d4 : decide ((K : Int) > 5) = true := by simp; omega
  have d5 : decide ((5 : Int) < K) = true := by simp; omega
  have d6 : ((K : Int) == 0) = false := by simp; omega
  go_enter Try.func3, Try.ntmps3
  have hq : IntKind.i64.wrap ((K : Int).tdiv 2) = ((K / 2 : Nat) : Int) := by rw [IntKind.wrap_i64, Int.tdiv_eq_ediv_of_nonneg (by omega)]; omega
  have hq2 : IntKind.i64.wrap (((K / 2 : Nat) : Int) * 2) = ((K / 2 * 2 : Nat) : Int) := by rw [IntKind.wrap_i64]; omega
  have rb := room_big ((K / 2 * 2 : Nat) : Int) (by omega)
  have hb9 : ((K / 2 * 2 : Nat) : Int) ≤ 9223372036854775807 := by omega
  go_upto_region 7 with (first
    | (go_at_call 4; ((refine (first_link _).mono ?_); rintro e w1 ⟨rfl, hb1⟩; have B1 := Lib.hid hb1; clear hb1))
    | (go_at_call 5; ((refine (room_any _ (by omega) _).mono ?_); rintro e w5 ⟨rfl, rfl⟩))
    | fail)
  go_upto_region 8 with (first
    | (go_at_call 5; ((refine (room_any _ hb9 _).mono ?_); rintro e w5 ⟨rfl, rfl⟩))
    | fail)
  go_wp2
  go_ret
  refine ⟨?_, B1.out⟩
  show Ending.returned (Value.bool (decide (roomP ((K : Int) / 2 * 2) ≤ 256))) = _
  rw [room_big _ (by omega)]
  rfl
theorem walk (k : Int) (w : World) (hk : (Lit.int .i64 k).wf = true) : Calls Try.prog 3 #[.int .i64 k] w fun e w' => e = .returned (.bool true) ∧ Below w.heap.size w w' := by
  have hk2 : k ≤ 9223372036854775807 := by
    simp [Lit.wf, IntKind.min, IntKind.max, IntKind.signed, IntKind.bits] at hk
    omega
  by_cases h1 : k < 0
  · exact walk_neg k h1 w
  · by_cases h2 : 6 ≤ k
    · obtain ⟨K, rfl⟩ : ∃ K : Nat, k = (K : Int) := ⟨k.toNat, by omega⟩
      exact walk_big K (by omega) hk2 w
    · have h3 : k = 0 ∨ k = 1 ∨ k = 2 ∨ k = 3 ∨ k = 4 ∨ k = 5 := by omega
      rcases h3 with rfl | rfl | rfl | rfl | rfl | rfl
      · exact walk_0 w
      · exact walk_1 w
      · exact walk_2 w
      · exact walk_3 w
      · exact walk_4 w
      · exact walk_5 w
end Go.Proofs.Ytldkmobncmfodaa.LinkRoomsW
