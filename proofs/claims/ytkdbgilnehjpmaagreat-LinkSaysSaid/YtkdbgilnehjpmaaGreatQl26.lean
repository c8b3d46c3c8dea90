/-
  Texts beneath the proof, one behind the other.
-/
import Derived.BigRegion
import Derived.Laws.Bits64
import Derived.Laws.BitsAllLaws
import Derived.Recover
import Derived.Defers
import Derived.WalkSmall
import Derived.Test.YtkdbgilnehjpmaaGreatQl25
import Derived.Test.YtkdbgilnehjpmaaGreatQl4
import Derived.Test.YtkdbgilnehjpmaaGreatQl1
import Derived.Test.YtkdbgilnehjpmaaGreatQl2
import Derived.Test.YtkdbgilnehjpmaaGreatQl7
/-
  The program's Read of an image: whole, with bytes behind it, cut.
-/
namespace Go.Proofs.YtkdbgilnehjpmaaGreat.Nv
open Go.ChangeShapes Go.WideShapes Go.ChangeAt Go.RowKit
open Bytes8 Blk8 Own8 OwnM OwnA OwnE LeA LeNum LeB LeP Ob Oc Od Ga Gb Gc Gd Gf Gi Gj Gk Gl Gm Ma Mh Na Ns Nt Nu
open Go1 (hcode rhd hread_any HTold bytes_take magicB)
set_option linter.unusedVariables false
set_option linter.unusedSimpArgs false
set_option maxRecDepth 100000
theorem read_img {m : Mk} (h : Img m) (r : List Int) (A : Option Addr) (n c : Nat) (w : World) (hb : Bytes w A (imgB m ++ r)) (hL : (imgB m ++ r).length = n) (hn : n ≤ 1000000) (hc : n ≤ c) :
    Calls Tryz.prog 57 #[.slice A n c] w (HTold (imgH m) 0 w) := by
  have h1 := hread_any A (imgB m ++ r) n c w hb hL hn hc
  have hN : m.b.length ≤ n := by rw [← hL, List.length_append, imgB_len h]; omega
  have hc0 := img_hcode h r n hN
  have hr : rhd (imgB m ++ r) n = hdOf (imgB m ++ r) := if_pos hc0
  rw [hr, hc0] at h1
  refine h1.mono fun e w' ⟨he, hb'⟩ => ⟨?_, hb'⟩
  rw [he, (img_says h r).cells]
end Go.Proofs.YtkdbgilnehjpmaaGreat.Nv
/-
  The program's view of a journal, opened: of nothing, of an image; the chapter's example of layer 10.
-/
namespace Go.Proofs.YtkdbgilnehjpmaaGreat.Ra
open Go.ChangeShapes Go.WideShapes Go.ChangeAt Go.RowKit
open Bytes8 Blk8 Own8 OwnM OwnE LeA LeNum LeP Rows2 Ob Oc Od Ga Gb Gc Gd Gf Gi Gj Numb Ma Mb Mh Na Ns Nt Nu Nv
open Go1 (HTold)
set_option linter.unusedVariables false
set_option linter.unusedSimpArgs false
set_option maxRecDepth 100000
theorem hcells_len (h : HD) : (Tryz.prog.info? 59).map (·.size) = some (h.cells 21).length := by rw [headInfo]; simp [HD.len]
theorem whole {w : World} {g : Nat} {T : TypeId} {h : HD} {m : Nat} (hb : Blk w g (h.cells m) T) : w.rangeAt g 0 (h.cells m) := fun j v hj => by rw [Nat.zero_add]; exact hb.cell hj
theorem cut_hu (A : Option Addr) (len cap hi : Nat) (h2 : hi ≤ cap) (hh : hi ≤ 1000000) (w : World) :
    (Instr.slice 25 (.slice A len cap) none (some (.int .u64 (hi : Int))) none).run Tryz.prog w = .ok (.slice (cutA A cap 0) hi cap) w := by
  have ht : Tryz.prog.underlying 25 = some (.slice (Tryz.prog.elem 25)) := by rw [elem8]; exact Tryz.underlying25
  rw [run_slice_h w 25 A len cap ht .u64 hi (by omega) (by omega), elem8, sizeof8]
  unfold sliced cutA
  by_cases hc : cap = 0
  · simp [hc]
  · simp [hc]
/-- A view's cells. -/
def viewC (h : HD) (b : Value) : List Value := h.cells 21 ++ [b]
theorem view_built (h : HD) (b : Value) (A : Option Addr) (n c : Nat) (e : b = .slice A n c) : Tryz.prog.built 114 [(0, .agg (h.cells 21).toArray), (1, b)] = some (viewC h b).toArray := by subst e; kernel_rfl
def bldV (parts : Array (Nat × Value)) : Sem Value := Instr.build 114 parts
theorem bldV_fold (parts : Array (Nat × Value)) : Instr.build 114 parts = bldV parts := rfl
theorem build_view (h : HD) (A : Option Addr) (n c : Nat) (w : World) : (bldV #[(0, .agg (h.cells 21).toArray), (1, .slice A n c)]).run Tryz.prog w = .ok (.agg (viewC h (.slice A n c)).toArray) w := by
  unfold bldV
  exact run_build w _ _ _ (view_built h _ A n c rfl)
attribute [local irreducible] HD.cells wpList Code.wp
attribute [local go_sem ↓] bldV_fold
/-- A view of an image. -/
def Viewed (m : Mk) (w : World) (e : Ending) (w' : World) : Prop := ∃ (gv : Nat) (A : Option Addr) (c : Nat), e = .returned (.tuple #[.pointer (some ⟨gv, 0, none⟩), .int .i64 0]) ∧ w.heap.size ≤ gv ∧ Blk w' gv (viewC (imgH m) (.slice A m.b.length c)) 114 ∧ Bytes w' A (imgB m) ∧ Below w.heap.size w w'
set_option maxHeartbeats 4000000 in
theorem open_img {m : Mk} (h : Img m) (A : Option Addr) (n c : Nat) (w : World) (hn : m.b.length = n) (hb : Bytes w A (imgB m)) (hc : n ≤ c) : Calls Tryz.prog 15 #[.slice A n c] w (Viewed m w) := by
  obtain ⟨l1, l2, l3⟩ := h.lens
  have hLB := imgB_len h
  have hend := img_end h
  have hok := imgH_ok h
  have R1 := Lib.hid (by have k := read_img h [] A n c w (by rw [List.append_nil]; exact hb) (by rw [List.append_nil, hLB]; exact hn) (by omega) hc; exact k)
  unfold HTold at R1
  have HE := Lib.hid fun (W : World) => end_any (imgH m) hok W
  rw [hend.1, hend.2, hn] at HE
  have HB := Lib.hid hb
  unfold Viewed
  rw [hn] at l1 l2 l3 hLB ⊢
  have HLB := Lib.hid hLB
  clear hLB hend hok h hb hn
  go_enter Tryz.func15, Tryz.ntmps15
  go_upto_region 4 with (first
    | (go_at_call 57; ((refine R1.out.mono ?_); rintro e w1 ⟨rfl, hb1⟩; have B1 := Lib.hid hb1; clear hb1))
    | ((with_reducible apply at_store (.tmp 4) (.tmp 11)); refine wpList_store_row rfl 59 (.tmp 4) (.tmp 11) rfl w1.heap.size ((imgH m).cells 21).toArray rfl rfl 59 Tryz.zeroCells59 (heap_alloc_new w1 _) (cells_info _) zeros_size (HD.one _ 21) ?_)
    | fail)
  have R2 := Lib.hid (show Blk ((w1.alloc (.cells Tryz.zeroCells59 59)).setRow w1.heap.size ((imgH m).cells 21).toArray) w1.heap.size ((imgH m).cells 21) 59 from setRow_heap _ _ _ _ _ (0, 0) (heap_alloc_new w1 _))
  have B2 := Lib.hid (show Below w.heap.size w ((w1.alloc (.cells Tryz.zeroCells59 59)).setRow w1.heap.size ((imgH m).cells 21).toArray) from below_setRow (B1.out.alloc B1.out.size _) B1.out.size _)
  generalize (w1.alloc (.cells Tryz.zeroCells59 59)).setRow w1.heap.size ((imgH m).cells 21).toArray = w2 at *
  generalize w1.heap.size = s4 at *
  clear R1 B1
  go_upto_region 5 with (first
    | ((with_reducible apply at_slot 17); refine wpList_load_row rfl 59 (.tmp 4) rfl s4 rfl 59 ((imgH m).cells 21).toArray (0, 0) _ R2.out Tryz.underlying59 rfl (cells_info _) ?_)
    | (go_at_call 58; ((refine (HE.out _).mono ?_); rintro e w4 ⟨rfl, hb4⟩; have B4 := Lib.hid (B2.out.trans (hb4.mono B2.out.size)); have R4 := Lib.hid (R2.out.below hb4 R2.out.lt); clear hb4))
    | fail)
  have D4 := Lib.hid (show Below w4.heap.size w4 w4.drew from (Below.refl w4.heap.size w4).drew)
  have HS := Lib.hid fun (W : World) (hW : Below w4.heap.size w4 W) => show (fun W : World => W.rangeAt s4 0 ((imgH m).cells 21)) W from whole (R4.out.below hW R4.out.lt)
  have hcut := fun W : World => cut_hu A n c n hc (by omega) W
  have HBw := Lib.hid (show Bytes w4.drew (cutA A c 0) (imgB m) from by
    have k := Bytes.cut ((HB.out.below B4.out (Nat.le_refl _)).below D4.out (Nat.le_refl _)) c 0 n (by rw [HLB.out]; exact hc)
    rw [List.drop_zero, List.take_of_length_le (by rw [HLB.out]; exact Nat.le_refl _)] at k
    exact k)
  have HCl := Lib.hid fun (W : World) (hW : Bytes W (cutA A c 0) (imgB m)) => Cl8.clone_any (cutA A c 0) (imgB m) n c W hW HLB.out (by omega)
  have hbld := fun (A' : Option Addr) (c' : Nat) (W : World) => build_view (imgH m) A' n c' W
  unfold Cl8.Made at HCl
  clear HE R2 B2 HB HLB hc
  refine wp_region_noPanic ?_
  refine wp_region_held_drew (S := fun W : World => W.rangeAt s4 0 ((imgH m).cells 21)) (by kernel_rfl) (by exact (HS.out _ D4.out)) (fun hHeld => ?_)
  refine wpAnyH_take (i := 0) (oi := ⟨some 21, _, _, _, _, _⟩) rfl (by kernel_rfl) (by kernel_rfl) (by kernel_rfl) (fun _ _ _ h => h) (yieldsIf_load_mid (by rfl) _ _ rfl _ _ rfl _ _ (fun _ h => h) Tryz.underlying59 rfl (hcells_len _)) (by assumption) ?_
  try simp only [Act.put, List.setIfInBounds_toArray, List.set_cons_zero, List.set_cons_succ]
  refine wpAnyH_take (i := 1) (oi := ⟨some 22, _, _, _, _, _⟩) (v := ?_) rfl (by kernel_rfl) (by kernel_rfl) (by kernel_rfl) (fun _ _ _ h => h) (Or.inl ⟨by rfl, ?_⟩) (by assumption) ?_
  rotate_left
  · intro W hSw; go_simp; try (with_reducible rfl)
  try simp only [Act.put, List.setIfInBounds_toArray, List.set_cons_zero, List.set_cons_succ]
  refine wpAnyH_take (i := 2) (oi := ⟨some 23, _, _, _, _, _⟩) (v := ?_) rfl (by kernel_rfl) (by kernel_rfl) (by kernel_rfl) (fun _ _ _ h => h) (Or.inl ⟨by rfl, ?_⟩) (by assumption) ?_
  rotate_left
  · intro W hSw; go_simp; try (with_reducible rfl)
  try simp only [Act.put, List.setIfInBounds_toArray, List.set_cons_zero, List.set_cons_succ]
  refine wpAnyH_take (i := 3) (oi := ⟨some 24, _, _, _, _, _⟩) (v := ?_) rfl (by kernel_rfl) (by kernel_rfl) (by kernel_rfl) (fun _ _ _ h => h) (Or.inl ⟨by rfl, ?_⟩) (by assumption) ?_
  rotate_left
  · intro W hSw; go_simp; try (with_reducible rfl)
  try simp only [Act.put, List.setIfInBounds_toArray, List.set_cons_zero, List.set_cons_succ]
  refine wpAnyH_ready (rs := [4]) (by kernel_rfl) (by simp) ?_
  refine AllReadyH.cons (o := ⟨some 25, _, _, _, _, _⟩) rfl (fun K hK => ?_) AllReadyH.nil
  go_simp
  ((refine (HCl.out _ HBw.out).mono ?_); rintro e w5 ⟨A5, c5, rfl, hby5, hb5⟩; have B5 := Lib.hid (D4.out.trans hb5); have HB5 := Lib.hid hby5; clear hb5 hby5)
  try go_wp2_with fail
  refine hK.out _ _ (by exact (HS.out _ B5.out)) (fun hHeld => ?_)
  clear hK K
  try simp only [Act.put, List.setIfInBounds_toArray, List.set_cons_zero, List.set_cons_succ]
  refine wpAnyH_take (i := 5) (oi := ⟨some 26, _, _, _, _, _⟩) (v := ?_) rfl (by kernel_rfl) (by kernel_rfl) (by kernel_rfl) (fun _ _ _ h => h) (Or.inl ⟨by rfl, ?_⟩) (by assumption) ?_
  rotate_left
  · intro W hSw; go_simp; try (with_reducible rfl)
  try simp only [Act.put, List.setIfInBounds_toArray, List.set_cons_zero, List.set_cons_succ]
  refine wpAnyH_ready (rs := [6]) (by kernel_rfl) (by simp) ?_
  refine AllReadyH.cons (o := ⟨some 27, _, _, _, _, _⟩) rfl (fun K hK => ?_) AllReadyH.nil
  go_simp
  skip
  try go_wp2_with fail
  refine hK.out _ _ (by exact (HS.out _ (B5.out.alloc B5.out.size _))) (fun hHeld => ?_)
  clear hK K
  try simp only [Act.put, List.setIfInBounds_toArray, List.set_cons_zero, List.set_cons_succ]
  refine wpAnyH_take (i := 7) (oi := ⟨some 2, _, _, _, _, _⟩) (v := ?_) rfl (by kernel_rfl) (by kernel_rfl) (by kernel_rfl) (fun _ _ _ h => h) (Or.inl ⟨by rfl, ?_⟩) (by assumption) ?_
  rotate_left
  · intro W hSw; go_simp; try (with_reducible rfl)
  try simp only [Act.put, List.setIfInBounds_toArray, List.set_cons_zero, List.set_cons_succ]
  refine wpAnyH_take (i := 8) (oi := ⟨some 3, _, _, _, _, _⟩) (v := ?_) rfl (by kernel_rfl) (by kernel_rfl) (by kernel_rfl) (fun _ _ _ h => h) (Or.inl ⟨by rfl, ?_⟩) (by assumption) ?_
  rotate_left
  · intro W hSw; go_simp; try (with_reducible rfl)
  try simp only [Act.put, List.setIfInBounds_toArray, List.set_cons_zero, List.set_cons_succ]
  refine wpAnyH_done (by kernel_rfl) ?_ _
  refine NoPanic.normal ?_
  go_wp2
  go_ret2
  exact ⟨_, _, _, rfl, Nat.le_trans B4.out.size B5.out.size, Blk.new w5 _ _, HB5.out.below ((Below.refl _ _).alloc (Nat.le_refl _) _) (Nat.le_refl _), B4.out.trans ((B5.out.alloc B5.out.size _).mono B4.out.size)⟩
end Go.Proofs.YtkdbgilnehjpmaaGreat.Ra
/-
  The program's link: how many items an array has; of no entries no array is read; the chapter's examples.
-/
namespace Go.Proofs.YtkdbgilnehjpmaaGreat.Lk
open Go.ChangeShapes Go.WideShapes Go.ChangeAt Go.RowKit
open Bytes8 Blk8 Own8 OwnM OwnE LeA LeNum LeP Rows2 Ob Oc Od Ga Gb Gc Gd Gf Gi Gj Numb Ma Mb Mh Na Ns Nt Nu Nv Ra
set_option linter.unusedVariables false
set_option linter.unusedSimpArgs false
set_option maxRecDepth 100000
/-- How many items the i-th array has, up to the sixth. -/
def rp (i : Nat) : Nat := 4 * 2 ^ i
theorem rp_succ (i : Nat) : rp (i + 1) = rp i * 2 := by unfold rp; rw [Nat.pow_succ]; omega
theorem rp_lt {i : Nat} (h : i < 6) : rp i < 256 := by
  unfold rp
  rcases i with _ | _ | _ | _ | _ | _ | i
  all_goals first | decide | omega
theorem rp_zero : ((rp 0 : Nat) : Int) = 4 := rfl
theorem rp_six : rp 6 = 256 := rfl
theorem rp_le {i : Nat} (h : i ≤ 6) : rp i ≤ 256 := by
  rcases Nat.lt_or_ge i 6 with h1 | h1
  · exact Nat.le_of_lt (rp_lt h1)
  · have : i = 6 := by omega
    subst this; exact Nat.le_refl _
def roomP (k : Int) : Int := if k < 0 then 0 else (rp (min k.toNat 6) : Nat)
theorem room_three : roomP 3 = 32 := rfl
def natOf : Value → Nat
  | .int _ z => z.toNat
  | _ => 0
attribute [local irreducible] rp HD.cells wpList Code.wp
set_option maxHeartbeats 2000000 in
theorem room_any (k : Int) (hk : k ≤ 9223372036854775807) (w : World) : Calls Tryz.prog 51 #[.int .i64 k] w fun e w' => e = .returned (.int .i64 (roomP k)) ∧ w = w' := by
  unfold roomP
  by_cases hneg : k < 0
  · rw [if_pos hneg]
    have d : decide (k < 0) = true := by simpa using hneg
    go_enter Tryz.func51, Tryz.ntmps51
    go_wp2
    go_ret
    exact ⟨rfl, rfl⟩
  · rw [if_neg hneg]
    have d : decide (k < 0) = false := by simpa using hneg
    obtain ⟨K, rfl⟩ : ∃ K : Nat, k = (K : Int) := ⟨k.toNat, by omega⟩
    obtain ⟨M, hM⟩ : ∃ M, M = min (K : Int).toNat 6 := ⟨_, rfl⟩
    rw [← hM]
    have HM := Lib.hid hM
    clear hM
    clear hneg
    have hK : (K : Int) ≤ 9223372036854775807 := hk
    clear hk
    go_enter Tryz.func51, Tryz.ntmps51
    go_upto_region 4 with fail
    go_loopw [0, 3] (fun a b wr => w = wr ∧ ∃ i x : Nat, i ≤ 6 ∧ i + x = K ∧ a = .int .i64 (x : Int) ∧ b = .int .i64 ((rp i : Nat) : Int)) (fun a _ _ => natOf a)
    case atStart => exact ⟨rfl, 0, K, by omega, by omega, rfl, by rw [rp_zero]⟩
    case round =>
      obtain ⟨rfl, i, x, hi, hx, rfl, rfl⟩ := hrel
      by_cases h1 : 0 < x
      · have d1 : decide ((x : Int) > 0) = true := by simpa using h1
        by_cases h2 : i < 6
        · have h3 := rp_lt h2
          have d2 : decide (((rp i : Nat) : Int) < 256) = true := by simp; omega
          have hw : IntKind.i64.wrap (((rp i : Nat) : Int) * 2) = ((rp (i + 1) : Nat) : Int) := by rw [rp_succ, IntKind.wrap_i64]; omega
          have hw2 : IntKind.i64.wrap ((x : Int) - 1) = ((x - 1 : Nat) : Int) := by rw [IntKind.wrap_i64]; omega
          go_wp2
          go_roundw
          case rel => exact ⟨trivial, i + 1, x - 1, by omega, by omega, rfl, rfl⟩
          case measure => simp [natOf]; omega
        · have h6 : i = 6 := by omega
          have hx6 : i + x = K := hx
          have d2 : decide (((rp i : Nat) : Int) < 256) = false := by subst h6; rw [rp_six]; decide
          have d3 : decide (((rp i : Nat) : Int) ≤ 256) = true := by subst h6; rw [rp_six]; decide
          have hmn : min ((rp i : Nat) : Int) 256 = ((rp i : Nat) : Int) := by subst h6; rw [rp_six]; decide
          have hng : ¬ (256 : Int) < ((rp i : Nat) : Int) := by subst h6; rw [rp_six]; decide
          have hlt : ¬ ((rp i : Nat) : Int) < 256 := by subst h6; rw [rp_six]; decide
          have hle : ((rp i : Nat) : Int) ≤ 256 := by subst h6; rw [rp_six]; decide
          clear h6
          go_wp2
          go_ret
          exact ⟨by rw [show M = i from by have := HM.out; omega]; rfl, rfl⟩
      · have d1 : decide ((x : Int) > 0) = false := by simpa using h1
        have hle : ((rp i : Nat) : Int) ≤ 256 := by have := rp_le hi; omega
        have hmn : min ((rp i : Nat) : Int) 256 = ((rp i : Nat) : Int) := by omega
        have hng : ¬ (256 : Int) < ((rp i : Nat) : Int) := by omega
        go_wp2
        go_ret
        exact ⟨by rw [show M = i from by have := HM.out; omega]; rfl, rfl⟩
theorem view_head {w : World} {gv : Nat} {h : HD} {b : Value} (hv : Blk w gv (viewC h b) 114) : w.rangeAt gv 0 (h.cells 21) := fun j x hj => by
  rw [Nat.zero_add]
  refine hv.cell ?_
  unfold viewC
  rw [List.getElem?_append_left (List.getElem?_eq_some_iff.1 hj).1]
  exact hj
set_option maxHeartbeats 2000000 in
theorem vhead_any {gv : Nat} {h : HD} {b : Value} (w : World) (hv : Blk w gv (viewC h b) 114) : Calls Tryz.prog 26 #[.pointer (some ⟨gv, 0, none⟩)] w fun e w' => e = .returned (.agg (h.cells 21).toArray) ∧ Below w.heap.size w w' := by
  have b1 := Lib.hid ((Below.refl w.heap.size w).alloc (Nat.le_refl _) (.cells Tryz.zeroCells59 59))
  have HR := Lib.hid (view_head (hv.below b1.out hv.lt))
  have Z := Lib.hid (heap_alloc_new w (.cells Tryz.zeroCells59 59))
  clear hv
  go_enter Tryz.func26, Tryz.ntmps26
  go_wp2_with (first
    | ((with_reducible apply at_slot 6); refine wpList_load_mid rfl 59 (.tmp 5) rfl gv 0 rfl (h.cells 21) _ HR.out Tryz.underlying59 rfl (hcells_len _) ?_)
    | ((with_reducible apply at_store (.tmp 2) (.tmp 6)); refine wpList_store_row rfl 59 (.tmp 2) (.tmp 6) rfl w.heap.size (h.cells 21).toArray rfl rfl 59 Tryz.zeroCells59 Z.out (cells_info _) zeros_size (HD.one _ 21) ?_)
    | fail)
  refine bodyPost_ret (v := .agg (h.cells 21).toArray) (by exact results_cell_row Tryz.results26 _ _ w.heap.size 59 _ (0, 0) _ rfl (setRow_heap _ w.heap.size _ _ _ (0, 0) Z.out) Tryz.underlying59 rfl (cells_info _)) rfl ?_
  exact ⟨rfl, below_setRow b1.out (Nat.le_refl _) _⟩
set_option maxHeartbeats 2000000 in
theorem gather_none (gv : Nat) (at_ c1 c2 : Int) (w : World) : Calls Tryz.prog 107 #[.pointer (some ⟨gv, 0, none⟩), .slice none 0 0, .int .u64 0, .int .u64 at_, .agg #[.int .i64 c1, .int .i64 c2]] w fun e w' => e = .returned (.tuple #[.slice none 0 0, .int .i64 0]) ∧ Below w.heap.size w w' := by
  go_enter Tryz.func107, Tryz.ntmps107
  go_wp2
  refine bodyPost_ret (v := .tuple #[.slice none 0 0, .int .i64 0]) (by simp [results, Tryz.results107, go_sem]) rfl ?_
  exact ⟨rfl, ((((((Below.refl w.heap.size w).alloc (Nat.le_refl _) _).alloc (by simp <;> omega) _).alloc (by simp <;> omega) _).alloc (by simp <;> omega) _).alloc (by simp <;> omega) _).alloc (by simp <;> omega) _⟩
set_option maxHeartbeats 2000000 in
theorem entries_none {gv : Nat} {h : HD} {b : Value} (w : World) (hv : Blk w gv (viewC h b) 114) (h8 : h.N 8 = 0) : Calls Tryz.prog 47 #[.pointer (some ⟨gv, 0, none⟩)] w fun e w' => e = .returned (.tuple #[.slice none 0 0, .int .i64 0]) ∧ Below w.heap.size w w' := by
  have HH := Lib.hid (vhead_any w hv)
  clear hv
  go_enter Tryz.func47, Tryz.ntmps47
  go_upto_region 2 with (first
    | (go_at_call 26; (refine HH.out.mono ?_); rintro e w1 ⟨rfl, hb1⟩; have B1 := Lib.hid hb1; clear hb1)
    | ((with_reducible apply at_store (.tmp 4) (.tmp 6)); refine wpList_store_row rfl 59 (.tmp 4) (.tmp 6) rfl w1.heap.size (h.cells 21).toArray rfl rfl 59 Tryz.zeroCells59 (heap_alloc_new w1 _) (cells_info _) zeros_size (HD.one _ 21) ?_)
    | fail)
  have R2 := Lib.hid (show Blk ((w1.alloc (.cells Tryz.zeroCells59 59)).setRow w1.heap.size (h.cells 21).toArray) w1.heap.size (h.cells 21) 59 from setRow_heap _ _ _ _ _ (0, 0) (heap_alloc_new w1 _))
  have B2 := Lib.hid (show Below w.heap.size w ((w1.alloc (.cells Tryz.zeroCells59 59)).setRow w1.heap.size (h.cells 21).toArray) from below_setRow (B1.out.alloc B1.out.size _) B1.out.size _)
  generalize (w1.alloc (.cells Tryz.zeroCells59 59)).setRow w1.heap.size (h.cells 21).toArray = w2 at *
  generalize w1.heap.size = s4 at *
  have c75 : w2.cell? ⟨s4, 75, none⟩ = some (.int .u64 0) := by have k := R2.out.cell (h.get_N 21 8 (by decide)); rw [h8] at k; exact k
  have c78 : w2.cell? ⟨s4, 78, none⟩ = some (.int .u64 (h.N 11)) := R2.out.cell (h.get_N 21 11 (by decide))
  clear HH B1
  go_wp2_with (first
    | (go_at_call 107; (refine (gather_none _ _ _ _ _).mono ?_); rintro e w3 ⟨rfl, hb3⟩; have B3 := Lib.hid (B2.out.trans (hb3.mono B2.out.size)); clear hb3)
    | fail)
  go_ret2
  exact ⟨rfl, B3.out⟩
set_option maxHeartbeats 2000000 in
theorem first_link (w : World) : Calls Tryz.prog 46 #[] w fun e w' => e = .returned (.bool true) ∧ Below w.heap.size w w' := by
  have HI := Lib.hid (image_n none 0 0 (fun _ => 0) 0 w (fun i hi => absurd hi (Nat.not_lt_zero i)) (by decide) (by decide))
  unfold ImagedN at HI
  have r3 := room_three
  have HRm := Lib.hid fun (W : World) => room_any 3 (by decide) W
  rw [r3] at HRm
  go_enter Tryz.func46, Tryz.ntmps46
  go_upto_region 2 with (first
    | (go_at_call 14; ((refine HI.out.mono ?_); rintro e w2 ⟨A, c, m, n, rfl, hg2, ho2, hb2⟩; have HG := Lib.hid hg2; have B2 := Lib.hid hb2; have HOp := Lib.hid (open_img hg2.img A m.b.length c w2 rfl ho2.bytes (own_cap ho2).1); clear hg2 ho2 hb2; unfold Viewed at HOp))
    | (go_at_call 15; ((refine HOp.out.mono ?_); rintro e w3 ⟨gv, A3, c3, rfl, hgv, hv3, hby3, hb3⟩; have B3 := Lib.hid (B2.out.trans (hb3.mono B2.out.size)); have HE := Lib.hid (entries_none w3 hv3 (by rw [imgH_N m 8 (by decide), if_neg (by decide), HG.out.cnt]; have := HG.out.le; omega)); clear hgv hv3 hby3 hb3))
    | fail)
  go_wp2_with (first
    | (go_at_call 47; ((refine HE.out.mono ?_); rintro e w4 ⟨rfl, hb4⟩; have B4 := Lib.hid (B3.out.trans (hb4.mono B3.out.size)); clear hb4))
    | (go_at_call 51; ((refine (HRm.out _).mono ?_); rintro e w5 ⟨rfl, rfl⟩))
    | fail)
  go_ret
  exact ⟨rfl, B4.out⟩
end Go.Proofs.YtkdbgilnehjpmaaGreat.Lk
/-
  The statements' Spoil: bytes turned in a copy.
-/
namespace Go.Proofs.YtkdbgilnehjpmaaGreat.Vg
open Go.ChangeShapes Go.WideShapes Go.ChangeAt Go.RowKit
open Bytes8 Blk8 Own8 OwnM OwnE Rows2 Numb
set_option linter.unusedVariables false
set_option linter.unusedSimpArgs false
set_option maxRecDepth 100000
theorem xor8 {x y : Int} (hx : 0 ≤ x ∧ x < 256) (hy : 0 ≤ y ∧ y < 256) : 0 ≤ bits .xor .u8 x y ∧ bits .xor .u8 x y < 256 := by
  obtain ⟨a, rfl⟩ : ∃ a : Nat, x = (a : Int) := ⟨x.toNat, by omega⟩
  obtain ⟨b, rfl⟩ : ∃ b : Nat, y = (b : Int) := ⟨y.toNat, by omega⟩
  rw [u8_xor_nat a b (by omega) (by omega)]
  have := Nat.xor_lt_two_pow (n := 8) (x := a) (y := b) (by omega) (by omega)
  omega
theorem own_cell {w : World} {base g n c : Nat} {l : List Int} (h : Own w base (some ⟨g, 0, none⟩) n c l) (i : Nat) (hi : i < n) : w.cell? ⟨g, i, none⟩ = some (.int .u8 (l.getD i 0)) := by
  obtain ⟨b, off, e, _, hc⟩ := h.bytes.2 i (by rw [h.2.1]; exact hi)
  injection e with e
  injection e with e1 e2
  subst e1 e2
  rw [Nat.zero_add] at hc
  exact hc
theorem own_fz {w : World} {base g n c : Nat} {l : List Int} (h : Own w base (some ⟨g, 0, none⟩) n c l) (i : Nat) (hi : i < n) : w.frozen? ⟨g, i, none⟩ = false := by
  rcases h.2.2.2.2 with ⟨h1, h2⟩ | ⟨k, cap, cur, h1, h2, h3, h4⟩
  · cases h1
  · injection h1 with e1 e2 e3
    injection e1 with e1
    injection e1 with e1
    subst e1
    simp [World.frozen?, h3]
theorem own_set {w : World} {base g n c : Nat} {l : List Int} (h : Own w base (some ⟨g, 0, none⟩) n c l) (i : Nat) {x : Int} (h0 : 0 ≤ x) (h1 : x < 256) : Own (w.setCell ⟨g, i, none⟩ (.int .u8 x)) base (some ⟨g, 0, none⟩) n c (l.set i x) := by
  refine ⟨h.1.set i h0 h1, by rw [List.length_set]; exact h.2.1, by simpa using h.2.2.1, ?_⟩
  have := (h.2.2.2.stored i (.int .u8 x)).1
  rw [List.map_set]
  exact this
def natOf : Value → Nat
  | .int _ z => z.toNat
  | _ => 0
attribute [local irreducible] wpList Code.wp
set_option maxHeartbeats 4000000 in
theorem spoil_any (A : Option Addr) (n c : Nat) (l : List Int) (P : Option Addr) (k kc : Nat) (f : Nat → Int) (y : Int) (w : World) (hb : Bytes w A l) (hL : l.length = n) (hn : n ≤ 1000000) (hI : InInts .i64 w P k f) (hk : k ≤ 1000) (hy : 0 ≤ y ∧ y < 256) :
    Calls Tryz.prog 13 #[.slice A n c, .slice P k kc, .int .u8 y] w fun e w' => ∃ A2 c2 l2, e = .returned (.slice A2 n c2) ∧ l2.length = n ∧ Own w' w.heap.size A2 n c2 l2 ∧ Below w.heap.size w w' := by
  have HB := Lib.hid (Cl8.bytes_any A l n c w hb hL hn)
  have HI := Lib.hid hI
  clear hb hI
  go_enter Tryz.func13, Tryz.ntmps13
  go_upto_region 3 with (first
    | (go_at_call 55; (refine HB.out.mono ?_); rintro e w1 ⟨A2, c2, rfl, ho1, hb1⟩; have HO := Lib.hid ho1; have B1 := Lib.hid hb1; clear ho1 hb1)
    | fail)
  clear HB
  go_loopw [8] (fun i wr => ∃ (j : Nat) (l2 : List Int), j ≤ k ∧ i = .int .i64 (j : Int) ∧ Hid (l2.length = n) ∧ Hid (Own wr w.heap.size A2 n c2 l2) ∧ Hid (Below w.heap.size w wr)) (fun i _ => k - natOf i)
  case atStart => exact ⟨0, l, Nat.zero_le _, rfl, Lib.hid hL, HO, B1⟩
  case round =>
    obtain ⟨j, l2, hj, rfl, HL2, HO2, HB2⟩ := hrel
    clear HO B1
    by_cases hlt : j < k
    · have d1 : decide ((j : Int) < (k : Int)) = true := by simp; omega
      by_cases h0 : 0 < n
      · have d2 : decide ((n : Int) > 0) = true := by simp; omega
        have hIj := (HI.out.below HB2.out) j hlt
        obtain ⟨bI, oI, rfl, hbI, hcI, _⟩ := hIj
        obtain ⟨q, hqn, hqb⟩ := below_nat (f j) (n : Int) (by omega)
        have HNum := Lib.hid fun (W : World) => number_nat (f j) (n : Int) q W (by omega) (by omega) hqn.out
        clear hqn
        have hq : q < n := by omega
        generalize f j = fj at *
        obtain ⟨g, rfl⟩ : ∃ g, A2 = some ⟨g, 0, none⟩ := by
          rcases HO2.out.2.2.2.2 with ⟨h1, h2⟩ | ⟨g, cap, cur, h1, h2, h3, h4⟩
          · injection h1 with e1 e2 e3; omega
          · injection h1 with e1 e2 e3; exact ⟨g, e1⟩
        have cq := own_cell HO2.out q hq
        have fq := own_fz HO2.out q hq
        have hx : 0 ≤ l2.getD q 0 ∧ l2.getD q 0 < 256 := by
          rw [List.getD_eq_getElem?_getD, List.getElem?_eq_getElem (by rw [HL2.out]; exact hq)]
          exact HO2.out.1 _ (List.getElem_mem _)
        have hxy := xor8 hx hy
        have HS := Lib.hid (own_set HO2.out q hxy.1 hxy.2)
        have hlt9 := (HO2.out.lt g rfl).1
        have HBs := Lib.hid (HB2.out.setCell (p := ⟨g, q, none⟩) hlt9 (.int .u8 (bits .xor .u8 (l2.getD q 0) y)))
        have hwj : IntKind.i64.wrap ((j : Int) + 1) = ((j + 1 : Nat) : Int) := by rw [IntKind.wrap_i64]; omega
        have hj0 : (0 : Int) ≤ (j : Int) := by omega
        have hjk : (j : Int) < (k : Int) := by omega
        have hq0 : (0 : Int) ≤ (q : Int) := by omega
        have hqn : (q : Int) < (n : Int) := by omega
        clear hx hxy
        generalize l2.getD q 0 = x2 at *
        go_wp2_with (first
          | (go_at_call 56; (refine (HNum.out _).mono ?_); rintro e w3 ⟨rfl, rfl⟩)
          | fail)
        go_roundw
        case rel => exact ⟨j + 1, l2.set q (bits .xor .u8 x2 y), by omega, rfl, Lib.hid (by rw [List.length_set]; exact HL2.out), HS, HBs⟩
        case measure => simp [natOf]; omega
      · have d2 : decide ((n : Int) > 0) = false := by simp; omega
        go_wp2
        go_ret
        exact ⟨A2, c2, l2, rfl, HL2.out, HO2.out, HB2.out⟩
    · have d1 : decide ((j : Int) < (k : Int)) = false := by simp; omega
      go_wp2
      go_ret
      exact ⟨A2, c2, l2, rfl, HL2.out, HO2.out, HB2.out⟩
end Go.Proofs.YtkdbgilnehjpmaaGreat.Vg
/-
  How the program's reading halts: need; from.
-/
namespace Go.Proofs.YtkdbgilnehjpmaaGreat.Rc
open Go.ChangeShapes Go.WideShapes Go.ChangeAt Go.RowKit
open Bytes8 Blk8 Own8 OwnM OwnE LeA LeNum LeP Rows2 Ob Oc Od Ga Gb Gc Gd Gf Gi Gj Ra
set_option linter.unusedVariables false
set_option linter.unusedSimpArgs false
set_option maxRecDepth 100000
/-- A halt with a code. -/
abbrev haltE (c : Int) : PanicEntry := { v := .iface 208 (.int .i64 c), recovered := false }
attribute [local irreducible] wpList Code.wp
theorem need_yes (c : Int) (w : World) : Calls Tryz.prog 121 #[.bool true, .int .i64 c] w fun e w' => e = .returned (.tuple #[]) ∧ w = w' := by
  go_enter Tryz.func121, Tryz.ntmps121
  go_wp2
  go_end0
  exact ⟨rfl, rfl⟩
theorem need_no (c : Int) (w : World) : Calls Tryz.prog 121 #[.bool false, .int .i64 c] w fun e w' => e = .panicked [haltE c] ∧ w = w' := by
  go_enter Tryz.func121, Tryz.ntmps121
  go_wp2
  exact ⟨rfl, rfl, rfl⟩
/-- A view in memory: a head, bytes. -/
structure ViewAt (w : World) (gv : Nat) (h : HD) (A : Option Addr) (n c : Nat) (l : List Int) : Prop where
  blk : Blk w gv (viewC h (.slice A n c)) 114
  by_ : Bytes w A l
  len : l.length = n
  cap : n ≤ c
  big : n ≤ 1000000
  ok : h.Ok 21
theorem ViewAt.below {w w' : World} {gv : Nat} {h : HD} {A : Option Addr} {n c : Nat} {l : List Int} (v : ViewAt w gv h A n c l) (hb : Below w.heap.size w w') : ViewAt w' gv h A n c l :=
  ⟨v.blk.below hb v.blk.lt, v.by_.below hb (Nat.le_refl _), v.len, v.cap, v.big, v.ok⟩
theorem view_N (h : HD) (b : Value) (i : Nat) (hi : i < 21) : (viewC h b)[67 + i]? = some (.int .u64 (h.N i)) := by
  unfold viewC
  rw [List.getElem?_append_left (by rw [HD.len]; omega)]
  exact h.get_N 21 i hi
theorem view_b (h : HD) (b : Value) : (viewC h b)[91]? = some b := by
  unfold viewC
  rw [List.getElem?_append_right (by rw [HD.len]; omega), HD.len]
  rfl
theorem vend_any {gv : Nat} {h : HD} {A : Option Addr} {n c : Nat} {l : List Int} (w : World) (v : ViewAt w gv h A n c l) : Calls Tryz.prog 19 #[.pointer (some ⟨gv, 0, none⟩)] w fun e w' => e = .returned (.int .u64 (n : Int)) ∧ w = w' := by
  have c91 := v.blk.cell (view_b _ _)
  have hn := v.big
  have hw : IntKind.u64.wrap (n : Int) = (n : Int) := by rw [IntKind.wrap_u64]; omega
  clear v
  go_enter Tryz.func19, Tryz.ntmps19
  go_wp2
  go_ret
  exact ⟨rfl, rfl⟩
theorem from_yes {gv : Nat} {h : HD} {A : Option Addr} {n c : Nat} {l : List Int} (at_ : Int) (w : World) (v : ViewAt w gv h A n c l) (h1 : h.N 0 ≤ at_) (h2 : at_ < (n : Int)) : Calls Tryz.prog 106 #[.pointer (some ⟨gv, 0, none⟩), .int .u64 at_] w fun e w' => e = .returned (.slice A n c) ∧ w = w' := by
  have c91 := v.blk.cell (view_b _ _)
  have c67 : w.cell? ⟨gv, 67, none⟩ = some (.int .u64 (h.N 0)) := v.blk.cell (view_N _ _ 0 (by decide))
  have HE := Lib.hid (vend_any w v)
  have HN := Lib.hid (need_yes 2)
  have d1 : decide (h.N 0 ≤ at_) = true := by simpa using h1
  have d2 : decide (at_ < (n : Int)) = true := by simpa using h2
  clear v
  go_enter Tryz.func106, Tryz.ntmps106
  go_wp2_with (first
    | (go_at_call 19; (refine HE.out.mono ?_); rintro e w1 ⟨rfl, rfl⟩)
    | (go_at_call 121; (refine (HN.out _).mono ?_); rintro e w1 ⟨rfl, rfl⟩)
    | fail)
  go_ret
  exact ⟨rfl, rfl⟩
theorem from_no {gv : Nat} {h : HD} {A : Option Addr} {n c : Nat} {l : List Int} (at_ : Int) (w : World) (v : ViewAt w gv h A n c l) (h1 : ¬ (h.N 0 ≤ at_ ∧ at_ < (n : Int))) : Calls Tryz.prog 106 #[.pointer (some ⟨gv, 0, none⟩), .int .u64 at_] w fun e w' => e = .panicked [haltE 2] ∧ w = w' := by
  have c91 := v.blk.cell (view_b _ _)
  have c67 : w.cell? ⟨gv, 67, none⟩ = some (.int .u64 (h.N 0)) := v.blk.cell (view_N _ _ 0 (by decide))
  have HE := Lib.hid (vend_any w v)
  have HN := Lib.hid (need_no 2)
  clear v
  by_cases h3 : h.N 0 ≤ at_
  · have d1 : decide (h.N 0 ≤ at_) = true := by simpa using h3
    have d2 : decide (at_ < (n : Int)) = false := by simp; omega
    have d3 : ¬ at_ < (n : Int) := by omega
    clear h1
    go_enter Tryz.func106, Tryz.ntmps106
    go_wp2_with (first
      | (go_at_call 19; (refine HE.out.mono ?_); rintro e w1 ⟨rfl, rfl⟩)
      | (go_at_call 121; (refine (HN.out _).mono ?_); rintro e w1 ⟨rfl, rfl⟩)
      | fail)
    exact ⟨rfl, rfl, rfl⟩
  · have d1 : decide (h.N 0 ≤ at_) = false := by simpa using h3
    clear h1
    go_enter Tryz.func106, Tryz.ntmps106
    go_wp2_with (first
      | (go_at_call 121; (refine (HN.out _).mono ?_); rintro e w1 ⟨rfl, rfl⟩)
      | fail)
    exact ⟨rfl, rfl, rfl⟩
end Go.Proofs.YtkdbgilnehjpmaaGreat.Rc
/-
  How the program's asked catches a halt.
-/
namespace Go.Proofs.YtkdbgilnehjpmaaGreat.Rd
open Go.ChangeShapes Go.WideShapes Go.ChangeAt Go.RowKit
open Bytes8 Blk8 Own8 OwnM OwnE LeA LeNum LeP Rows2 Ob Oc Od Ga Gb Gc Gd Gf Gi Gj Oi Oj Ok7 Ra Rc
set_option linter.unusedVariables false
set_option linter.unusedSimpArgs false
set_option maxRecDepth 100000
theorem caught_idle (g3 : Nat) (w : World) : CallsD Tryz.prog 165 #[.pointer (some ⟨g3, 0, none⟩)] .returning w fun e u' w' => e = .returned (.tuple #[]) ∧ u' = .returning ∧ w' = w := by
  refine callsD_of_wpS Tryz.func165 rfl fun c₀ cs hu => ?_
  apply wpS_seq
  apply wpS_region
  simp [wpOpsS, go_sem, recoverD, hu, Tryz.ntmps165, Exit.thenS]
  refine wpS_of_wp ?_
  go_wp2
  cases c₀
  simp_all [bodyPostS, results, Tryz.results165]
set_option maxHeartbeats 2000000 in
theorem caught_halt (g3 : Nat) (c y : Int) (older : List PanicEntry) (w : World) (h : Blk w g3 [.int .i64 y] 3) : CallsD Tryz.prog 165 #[.pointer (some ⟨g3, 0, none⟩)] (.panicking ({ v := .iface 208 (.int .i64 c), recovered := false } :: older)) w fun e u' w' => e = .returned (.tuple #[]) ∧ u' = .panicking ({ v := .iface 208 (.int .i64 c), recovered := true } :: older) ∧ w' = w.setCell ⟨g3, 0, none⟩ (.int .i64 c) := by
  have c0 := h.cell (i := 0) rfl
  have z0 := h.frozen 0
  have hta : ∀ w : World, (Instr.typeAssert (.iface 208 (.int .i64 c)) 20 208 true).run Tryz.prog w = .ok (.tuple #[.int .i64 c, .bool true]) w := fun _ => by kernel_rfl
  refine callsD_of_wpS Tryz.func165 rfl fun c₀ cs hu => ?_
  apply wpS_seq
  apply wpS_region
  simp [wpOpsS, go_sem, recoverD, hu, Tryz.ntmps165, Exit.thenS]
  refine wpS_of_wp ?_
  go_wp2
  cases c₀
  simp_all [bodyPostS, results, Tryz.results165]
abbrev dz : Array Value := #[.int .u64 0, .int .u64 0, .int .u64 0, .int .u64 0, .int .u64 0, .int .u64 0, .slice none 0 0]
/-- Bytes lie in no block of other cells. -/
theorem bytes_apart {w : World} {A : Option Addr} {l : List Int} {s : Nat} (h : Bytes w A l) (hs : w.heap[s]? = some (.cells dz 92 (0, 0))) (cs : Array Value) : Bytes (w.setRow s cs) A l := by
  refine ⟨h.1, fun i hi => ?_⟩
  obtain ⟨b, off, e, hb, hc⟩ := h.2 i hi
  have hne : b ≠ s := by
    intro he
    subst he
    rw [World.cell?, hs] at hc
    dsimp only at hc
    have hk : dz[off + i]? = some (.int .u8 (l.getD i 0)) := by simpa using hc
    have hlt : off + i < 7 := by
      rcases Nat.lt_or_ge (off + i) 7 with h1 | h1
      · exact h1
      · rw [Array.getElem?_eq_none (by simpa using h1)] at hk; cases hk
    generalize off + i = k at *
    rcases k with _ | _ | _ | _ | _ | _ | _ | k
    all_goals first | (simp at hk) | omega
  exact ⟨b, off, e, by simpa using hb, (World.cell?_of_block (setRow_other w s b cs hne)).trans hc⟩
attribute [local irreducible] wpList Code.wp
theorem got_no (a b c d e f : Int) (A : Option Addr) (n k : Nat) (cd : Int) (h0 : cd ≠ 0) (w : World) : Calls Tryz.prog 166 #[dataV a b c d e f A n k, .int .i64 cd] w fun e w' => e = .panicked [haltE cd] ∧ Below w.heap.size w w' := by
  have HN := Lib.hid (need_no cd)
  have d0 : (cd == 0) = false := by simpa using h0
  have b2 := Lib.hid (((Below.refl w.heap.size w).alloc (Nat.le_refl _) (.cells #[.int .u64 a, .int .u64 b, .int .u64 c, .int .u64 d, .int .u64 e, .int .u64 f, .slice A n k] 92)).alloc (by simp) (.cells dz 92))
  go_enter Tryz.func166, Tryz.ntmps166
  go_wp2_with (first
    | (go_at_call 121; (refine (HN.out _).mono ?_); rintro e w1 ⟨rfl, rfl⟩)
    | fail)
  exact ⟨rfl, rfl, b2.out⟩
theorem got_yes (a b c d e f : Int) (A : Option Addr) (n k : Nat) (w : World) : Calls Tryz.prog 166 #[dataV a b c d e f A n k, .int .i64 0] w fun e' w' => e' = .returned (dataV a b c d e f A n k) ∧ Below w.heap.size w w' := by
  have HN := Lib.hid (need_yes 0)
  go_enter Tryz.func166, Tryz.ntmps166
  go_wp2_with (first
    | (go_at_call 121; (refine (HN.out _).mono ?_); rintro e w1 ⟨rfl, rfl⟩)
    | fail)
  refine bodyPost_ret (v := dataV a b c d e f A n k) (by exact results_cell_row Tryz.results166 _ _ (w.heap.size + 1) 92 _ (0, 0) _ rfl (heap_alloc2_new w _ _) Tryz.underlying92 rfl (by kernel_rfl)) rfl ?_
  exact ⟨rfl, ((Below.refl w.heap.size w).alloc (Nat.le_refl _) _).alloc (by simp) _⟩
/-- The code of an object Data at a place of a view. -/
def dcode (h : HD) (l : List Int) (n a : Nat) : Int := if h.N 0 ≤ (a : Int) ∧ a < n then bcode l a 1 6 else 2
theorem vdata_out {gv : Nat} {h : HD} {A : Option Addr} {n c : Nat} {l : List Int} (a : Nat) (w : World) (v : ViewAt w gv h A n c l) (h1 : ¬ (h.N 0 ≤ (a : Int) ∧ a < n)) :
    Calls Tryz.prog 101 #[.pointer (some ⟨gv, 0, none⟩), .int .u64 (a : Int)] w fun e w' => e = .panicked [haltE 2] ∧ Below w.heap.size w w' := by
  have HF := Lib.hid (from_no (a : Int) _ (v.below ((Below.refl _ _).alloc (Nat.le_refl _) (.cells dz 92))) (by omega))
  have b1 := Lib.hid ((Below.refl w.heap.size w).alloc (Nat.le_refl _) (.cells dz 92))
  clear v h1
  go_enter Tryz.func101, Tryz.ntmps101
  go_wp2_with (first
    | (go_at_call 106; (refine HF.out.mono ?_); rintro e w1 ⟨rfl, rfl⟩)
    | fail)
  exact ⟨rfl, rfl, b1.out⟩
theorem vdata_in {gv : Nat} {h : HD} {A : Option Addr} {n c : Nat} {l : List Int} (a : Nat) (w : World) (v : ViewAt w gv h A n c l) (hcm : c ≤ maxLen) (h1 : h.N 0 ≤ (a : Int) ∧ a < n) :
    Calls Tryz.prog 101 #[.pointer (some ⟨gv, 0, none⟩), .int .u64 (a : Int)] w fun e w' => Below w.heap.size w w' ∧
      ((bcode l a 1 6 ≠ 0 ∧ e = .panicked [haltE (bcode l a 1 6)]) ∨ (bcode l a 1 6 = 0 ∧ ∃ A' m' c', e = .returned (dataV (bnum l a 1 6 0) (bnum l a 1 6 1) (bnum l a 1 6 2) (bnum l a 1 6 3) (bnum l a 1 6 4) (bnum l a 1 6 5) A' m' c') ∧ Bytes w' A' (bpay l a 1 6) ∧ (bpay l a 1 6).length = m' ∧ Cap w.heap.size A' m' c')) := by
  have v1 := v.below ((Below.refl _ _).alloc (Nat.le_refl _) (.cells dz 92))
  have HF := Lib.hid (from_yes (a : Int) _ v1 h1.1 (by omega))
  have HR := Lib.hid (readData_n A l n c a _ v1.by_ v1.len v1.big v1.cap hcm (by have := v.big; omega))
  have b1 := Lib.hid ((Below.refl w.heap.size w).alloc (Nat.le_refl _) (.cells dz 92))
  have Z1 := Lib.hid (heap_alloc_new w (.cells dz 92))
  have s1 := Lib.hid (show w.heap.size < (w.alloc (.cells dz 92)).heap.size by simp)
  unfold DataTold2 at HR
  generalize bnum l a 1 6 0 = x0 at *
  generalize bnum l a 1 6 1 = x1 at *
  generalize bnum l a 1 6 2 = x2 at *
  generalize bnum l a 1 6 3 = x3 at *
  generalize bnum l a 1 6 4 = x4 at *
  generalize bnum l a 1 6 5 = x5 at *
  generalize bcode l a 1 6 = cd at *
  generalize bpay l a 1 6 = pl at *
  clear v v1 h1
  by_cases hz : cd = 0
  · subst hz
    go_enter Tryz.func101, Tryz.ntmps101
    go_wp2_with (first
      | (go_at_call 106; (refine HF.out.mono ?_); rintro e w1 ⟨rfl, rfl⟩)
      | (go_at_call 167; (refine HR.out.mono ?_); rintro e w2 ⟨A2, m2, c2, rfl, hb2, hy2, hl2, hm2⟩; have B2 := Lib.hid hb2; have HY2 := Lib.hid hy2; clear hb2 hy2)
      | (go_at_call 166; (refine (got_yes x0 x1 x2 x3 x4 x5 A2 m2 c2 w2).mono ?_); rintro e w3 ⟨rfl, hb3⟩; have B3 := Lib.hid (B2.out.trans (hb3.mono B2.out.size)); have HY3 := Lib.hid (HY2.out.below hb3 (Nat.le_refl _)); have Z3 := Lib.hid ((B3.out.block _ s1.out).trans Z1.out); clear hb3)
      | ((with_reducible apply at_store (.tmp 4) (.tmp 12)); refine wpList_store_row rfl 92 (.tmp 4) (.tmp 12) rfl w.heap.size #[.int .u64 x0, .int .u64 x1, .int .u64 x2, .int .u64 x3, .int .u64 x4, .int .u64 x5, .slice A2 m2 c2] rfl rfl 92 dz Z3.out (by kernel_rfl) rfl (by simp [Value.oneCell']) ?_)
      | fail)
    refine bodyPost_ret (v := dataV x0 x1 x2 x3 x4 x5 A2 m2 c2) (by exact results_cell_row Tryz.results101 _ _ w.heap.size 92 _ (0, 0) _ rfl (setRow_heap _ w.heap.size _ _ _ (0, 0) Z3.out) Tryz.underlying92 rfl (by kernel_rfl)) rfl ?_
    have b4 := below_setRow (B := w.heap.size) (b1.out.trans (B3.out.mono b1.out.size)) (Nat.le_refl _) #[.int .u64 x0, .int .u64 x1, .int .u64 x2, .int .u64 x3, .int .u64 x4, .int .u64 x5, .slice A2 m2 c2]
    exact ⟨b4, .inr ⟨trivial, A2, m2, c2, rfl, bytes_apart HY3.out Z3.out _, hl2, hm2.mono (Nat.le_of_lt s1.out)⟩⟩
  · go_enter Tryz.func101, Tryz.ntmps101
    go_wp2_with (first
      | (go_at_call 106; (refine HF.out.mono ?_); rintro e w1 ⟨rfl, rfl⟩)
      | (go_at_call 167; (refine HR.out.mono ?_); rintro e w2 ⟨A2, m2, c2, rfl, hb2, hy2, hl2, hm2⟩; have B2 := Lib.hid (b1.out.trans (hb2.mono b1.out.size)); clear hb2 hy2)
      | (go_at_call 166; (refine (got_no x0 x1 x2 x3 x4 x5 A2 m2 c2 cd hz w2).mono ?_); rintro e w3 ⟨rfl, hb3⟩; have B3 := Lib.hid (B2.out.trans (hb3.mono B2.out.size)); clear hb3)
      | fail)
    exact ⟨rfl, B3.out, .inl ⟨hz, rfl⟩⟩
end Go.Proofs.YtkdbgilnehjpmaaGreat.Rd
