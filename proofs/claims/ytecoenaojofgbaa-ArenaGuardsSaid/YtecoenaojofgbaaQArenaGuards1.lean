/-
  Texts beneath the proof, one behind the other.
-/
import Derived.Recover
import Derived.Defers
import Derived.BigRegion
import Derived.Deep.RegionHeld3
import Derived.Deep.CutBlock
import Derived.Lib.BoundsPanic
import Derived.Test.YtecoenaojofgbaaQ13
import Derived.Test.YtecoenaojofgbaaQ5
import Derived.Test.YtecoenaojofgbaaQ30

/-
  The program's Guard; the law's function that it is handed.
-/
namespace Go.Proofs.Ytecoenaojofgbaa.Rb
open Go.ChangeShapes Go.WideShapes Go.ChangeAt Go.RowKit
open Bytes8 Blk8 OwnE Numb
set_option linter.unusedVariables false
set_option linter.unusedSimpArgs false
set_option maxRecDepth 100000

theorem catch_idle (w : World) : CallsD Try.prog 26 #[] .returning w fun e u' w' => e = .returned (.tuple #[]) ∧ u' = .returning ∧ w' = w := by
  refine callsD_of_wpS Try.func26 rfl fun c₀ cs hu => ?_
  apply wpS_region
  cases c₀
  simp_all [wpOpsS, go_sem, recoverD, Try.ntmps26, bodyPostS, results, Try.results26]
theorem catch_panic (v : Value) (older : List PanicEntry) (w : World) : CallsD Try.prog 26 #[] (.panicking ({ v := v, recovered := false } :: older)) w fun e u' w' => e = .returned (.tuple #[]) ∧ u' = .panicking ({ v := v, recovered := true } :: older) ∧ w' = w := by
  refine callsD_of_wpS Try.func26 rfl fun c₀ cs hu => ?_
  apply wpS_region
  simp [wpOpsS, go_sem, recoverD, hu, Try.ntmps26, bodyPostS, results, Try.results26]
theorem guard_nil (w : World) : Calls Try.prog 15 #[.nilFunc] w fun e w' => e = .returned (.bool true) ∧ w = w' := by
  have hnil : ∀ w : World, (binOp BinOp.eql 1 .nilFunc .nilFunc).run Try.prog w = .ok (.bool true) w := fun _ => by kernel_rfl
  go_enter_defers Try.func15, Try.ntmps15
  go_wp2
  simp [bodyPostD, Leaves, settle, results, Try.results15, go_sem]
theorem fn_eq (p q r : Value) (w : World) : (binOp BinOp.eql 1 (.func (.func 16) #[] #[p, q, r]) .nilFunc).run Try.prog w = .ok (.bool false) w := by kernel_rfl
theorem guard_ends (p q r : Value) (R : World → Prop) (w : World) (HC : Calls Try.prog 16 #[p, q, r] w fun e w' => e = .returned (.tuple #[]) ∧ R w') :
    Calls Try.prog 15 #[.func (.func 16) #[] #[p, q, r]] w fun e w' => e = .returned (.bool true) ∧ R w' := by
  have hnil := fn_eq p q r
  have HH := Lib.hid HC
  clear HC
  go_enter_defers Try.func15, Try.ntmps15
  go_wp2_with (first
    | (go_at_call 16; (refine HH.out.mono ?_); rintro e w1 ⟨rfl, hr⟩)
    | fail)
  refine leaves_cons (f := 26) (args := #[]) (by simp) (by simp [go_sem]) ?_
  refine (catch_idle _).mono ?_
  rintro e u' w'' ⟨rfl, rfl, rfl⟩
  simp [Leaves, settle, results, Try.results15, go_sem]
  exact hr
theorem guard_halts (p q r : Value) (R : World → Prop) (w : World) (HC : Calls Try.prog 16 #[p, q, r] w fun e w' => (∃ v, e = .panicked [{ v := v, recovered := false }]) ∧ R w') :
    Calls Try.prog 15 #[.func (.func 16) #[] #[p, q, r]] w fun e w' => e = .returned (.bool false) ∧ R w' := by
  have hnil := fn_eq p q r
  have HH := Lib.hid HC
  clear HC
  go_enter_defers Try.func15, Try.ntmps15
  go_wp2_with (first
    | (go_at_call 16; (refine HH.out.mono ?_); rintro e w1 ⟨⟨v, rfl⟩, hr⟩)
    | fail)
  refine leaves_cons (f := 26) (args := #[]) (by simp) (by simp [go_sem]) ?_
  refine (catch_panic v [] _).mono ?_
  rintro e u' w'' ⟨rfl, rfl, rfl⟩
  simp [Leaves, settle, results, Try.results15, go_sem]
  exact hr
/-- What the law's function leaves: whether it ends; how deep it came. -/
def Ran (g3 g7 n ka : Nat) (w : World) (B : Nat) (e : Ending) (w' : World) : Prop :=
  ((ka < n ∧ e = .returned (.tuple #[])) ∨ (n ≤ ka ∧ ∃ v, e = .panicked [{ v := v, recovered := false }])) ∧ Blk w' g3 [.int .i64 (ka : Int)] 3 ∧ Blk w' g7 [.int .i64 ((min ka n : Nat) + 1 : Int)] 3 ∧ Below B w w'
attribute [local irreducible] wpList Code.wp
set_option maxHeartbeats 4000000 in
theorem inner_any (g3 g7 g6 gl n ka B : Nat) (vs : List Value) (w : World) (h3 : Blk w g3 [.int .i64 (ka : Int)] 3) (h7 : Blk w g7 [.int .i64 0] 3) (h6 : Blk w g6 [.slice (some ⟨gl, 0, none⟩) n n] 22) (hl : Blk w gl vs 3) (hn : vs.length = n) (hv : ∀ v ∈ vs, ∃ x : Int, v = .int .i64 x)
    (h1 : g3 ≠ g7 ∧ g3 ≠ gl ∧ g6 ≠ g7 ∧ g6 ≠ gl ∧ g7 ≠ gl) (hB : B ≤ g7 ∧ B ≤ gl) (hk : ka < 40) (hn30 : n < 30) :
    Calls Try.prog 16 #[.pointer (some ⟨g3, 0, none⟩), .pointer (some ⟨g7, 0, none⟩), .pointer (some ⟨g6, 0, none⟩)] w (Ran g3 g7 n ka w B) := by
  have H3 := Lib.hid h3
  have H7 := Lib.hid h7
  have H6 := Lib.hid h6
  have HL := Lib.hid hl
  have HV := Lib.hid hv
  have HB0 := Lib.hid (Below.refl B w)
  clear h3 h7 h6 hl hv
  obtain ⟨n1, n2, n3, n4, n5⟩ := h1
  go_enter Try.func16, Try.ntmps16
  go_wp2
  go_loopw [3] (fun a3 wr => ∃ (i : Nat) (us : List Value), a3 = .int .i64 (i : Int) ∧ i ≤ ka + 1 ∧ i ≤ n ∧ us.length = n ∧ Hid (Blk wr g3 [.int .i64 (ka : Int)] 3 ∧ Blk wr g7 [.int .i64 (i : Int)] 3 ∧ Blk wr g6 [.slice (some ⟨gl, 0, none⟩) n n] 22 ∧ Blk wr gl us 3 ∧ (∀ v ∈ us, ∃ x : Int, v = .int .i64 x) ∧ Below B w wr)) (fun a3 _ => ka + 1 - (intOf a3).toNat)
  case atStart => exact ⟨0, vs, rfl, Nat.zero_le _, Nat.zero_le _, hn, Lib.hid ⟨H3.out, H7.out, H6.out, HL.out, HV.out, HB0.out⟩⟩
  case round =>
    obtain ⟨i, us, rfl, hi1, hi2, hus, hm⟩ := hrel
    have c3 := hm.out.1.cell (i := 0) rfl
    have c7 := hm.out.2.1.cell (i := 0) rfl
    have z7 := hm.out.2.1.frozen 0
    have c6 := hm.out.2.2.1.cell (i := 0) rfl
    by_cases hle : i ≤ ka
    · have d1 : decide ((i : Int) ≤ (ka : Int)) = true := by simp; omega
      have d2 : (i : Int) ≤ (ka : Int) := by omega
      have hw1 : IntKind.i64.wrap ((i : Int) + 1) = (i : Int) + 1 := by rw [IntKind.wrap_i64]; omega
      go_upto_region 4 with fail
      have c6b : (wr.setCell ⟨g7, 0, none⟩ (.int .i64 ((i : Int) + 1))).cell? ⟨g6, 0, none⟩ = some (.slice (some ⟨gl, 0, none⟩) n n) := (hm.out.2.2.1.far (p := ⟨g7, 0, none⟩) n3 _).cell (i := 0) rfl
      have R7 := Lib.hid (show Blk (wr.setCell ⟨g7, 0, none⟩ (.int .i64 ((i : Int) + 1))) g7 [.int .i64 ((i : Int) + 1)] 3 from hm.out.2.1.set_ 0 _)
      have R3 := Lib.hid (hm.out.1.far (p := ⟨g7, 0, none⟩) n1 (.int .i64 ((i : Int) + 1)))
      have R6 := Lib.hid (hm.out.2.2.1.far (p := ⟨g7, 0, none⟩) n3 (.int .i64 ((i : Int) + 1)))
      have RL := Lib.hid (hm.out.2.2.2.1.far (p := ⟨g7, 0, none⟩) (fun e => n5 e.symm) (.int .i64 ((i : Int) + 1)))
      have RB := Lib.hid (hm.out.2.2.2.2.2.setCell (p := ⟨g7, 0, none⟩) hB.1 (.int .i64 ((i : Int) + 1)))
      have HU := Lib.hid hm.out.2.2.2.2.1
      generalize wr.setCell ⟨g7, 0, none⟩ (.int .i64 ((i : Int) + 1)) = w5 at *
      clear c3 c7 z7 c6 d1 hm
      have htm : (i : Int).tmod 40 = (i : Int) := Int.tmod_eq_of_lt (by omega) (by omega)
      by_cases hin : i < n
      · obtain ⟨x, hx⟩ := HU.out us[i] (List.getElem_mem (by omega))
        have cl : w5.cell? ⟨gl, i, none⟩ = some (.int .i64 x) := RL.out.cell (by rw [List.getElem?_eq_getElem (by omega), hx])
        have zl := RL.out.frozen i
        have dlt : (i : Int) < (n : Int) := by omega
        go_wp2_with fail
        go_roundw
        case rel => exact ⟨i + 1, us.set i (.int .i64 (wrap64 (x + 1))), by go_num, by omega, by omega, by rw [List.length_set]; exact hus, Lib.hid ⟨R3.out.far (p := ⟨gl, i, none⟩) n2 _, R7.out.far (p := ⟨gl, i, none⟩) n5 _, R6.out.far (p := ⟨gl, i, none⟩) n4 _, RL.out.set_ i _, fun v hv => by
          rcases List.mem_or_eq_of_mem_set hv with h | h
          · exact HU.out v h
          · exact ⟨_, h⟩, RB.out.setCell (p := ⟨gl, i, none⟩) hB.2 _⟩⟩
        case measure => simp [intOf]; omega
      · have dge : ¬ (i : Int) < (n : Int) := by omega
        have hin2 : i = n := by omega
        have hem : (i : Int) % 40 = (i : Int) := by omega
        have hbp := fun (W : World) => Lib.run_boundsPanic_index (α := Value) Try.prog (i : Int) (n : Int) W (by omega) (by omega)
        have e1 : ((min ka n : Nat) + 1 : Int) = (i : Int) + 1 := by rw [Nat.min_eq_right (by omega)]; omega
        have HE1 := Lib.hid e1
        have HIn := Lib.hid hin2
        clear e1 hin2
        go_wp2_with fail
        exact ⟨rfl, .inr ⟨by have := HIn.out; omega, _, rfl⟩, R3.out.drew, by rw [HE1.out]; exact R7.out.drew, RB.out.drew⟩
    · have d1 : decide ((i : Int) ≤ (ka : Int)) = false := by simp; omega
      have d2 : ¬ (i : Int) ≤ (ka : Int) := by omega
      have e1 : ((min ka n : Nat) + 1 : Int) = (i : Int) := by rw [Nat.min_eq_left (by omega)]; omega
      have HE1 := Lib.hid e1
      clear e1
      go_wp2
      go_end0
      exact ⟨.inl ⟨by omega, rfl⟩, hm.out.1, by rw [HE1.out]; exact hm.out.2.1, hm.out.2.2.2.2.2⟩
end Go.Proofs.Ytecoenaojofgbaa.Rb

/-
  The program's view of a journal, opened: of nothing, of an image; the chapter's example of layer 10.
-/
namespace Go.Proofs.Ytecoenaojofgbaa.Ra
open Go.ChangeShapes Go.WideShapes Go.ChangeAt Go.RowKit
open Bytes8 Blk8 Own8 OwnM OwnE LeA LeNum LeP Rows2 Ob Oc Od Ga Gb Gc Gd Gf Gi Gj Numb Ma Mb Mh Na Ns Nt Nu Nv
open Go1 (HTold)
set_option linter.unusedVariables false
set_option linter.unusedSimpArgs false
set_option maxRecDepth 100000

theorem hcells_len (h : HD) : (Try.prog.info? 31).map (·.size) = some (h.cells 21).length := by rw [headInfo]; simp [HD.len]
theorem whole {w : World} {g : Nat} {T : TypeId} {h : HD} {m : Nat} (hb : Blk w g (h.cells m) T) : w.rangeAt g 0 (h.cells m) := fun j v hj => by rw [Nat.zero_add]; exact hb.cell hj
theorem cut_hu (A : Option Addr) (len cap hi : Nat) (h2 : hi ≤ cap) (hh : hi ≤ 1000000) (w : World) :
    (Instr.slice 23 (.slice A len cap) none (some (.int .u64 (hi : Int))) none).run Try.prog w = .ok (.slice (cutA A cap 0) hi cap) w := by
  have ht : Try.prog.underlying 23 = some (.slice (Try.prog.elem 23)) := by rw [elem8]; exact Try.underlying23
  rw [run_slice_h w 23 A len cap ht .u64 hi (by omega) (by omega), elem8, sizeof8]
  unfold sliced cutA
  by_cases hc : cap = 0
  · simp [hc]
  · simp [hc]
/-- A view's cells. -/
def viewC (h : HD) (b : Value) : List Value := h.cells 21 ++ [b]
theorem view_built (h : HD) (b : Value) (A : Option Addr) (n c : Nat) (e : b = .slice A n c) : Try.prog.built 94 [(0, .agg (h.cells 21).toArray), (1, b)] = some (viewC h b).toArray := by subst e; kernel_rfl
def bldV (parts : Array (Nat × Value)) : Sem Value := Instr.build 94 parts
theorem bldV_fold (parts : Array (Nat × Value)) : Instr.build 94 parts = bldV parts := rfl
theorem build_view (h : HD) (A : Option Addr) (n c : Nat) (w : World) : (bldV #[(0, .agg (h.cells 21).toArray), (1, .slice A n c)]).run Try.prog w = .ok (.agg (viewC h (.slice A n c)).toArray) w := by
  unfold bldV
  exact run_build w _ _ _ (view_built h _ A n c rfl)
attribute [local irreducible] HD.cells wpList Code.wp
attribute [local go_sem ↓] bldV_fold
set_option maxHeartbeats 4000000 in
theorem open_nil (w : World) : Calls Try.prog 25 #[.slice none 0 0] w fun e w' => e = .returned (.tuple #[.pointer none, .int .i64 22]) ∧ Below w.heap.size w w' := by
  have HR := Lib.hid fun (W : World) => read_short none 0 0 W (by decide)
  go_enter Try.func25, Try.ntmps25
  go_wp2_with (first
    | (go_at_call 8; ((refine (HR.out _).mono ?_); rintro e w1 ⟨rfl, hb1⟩; have B1 := Lib.hid hb1; clear hb1))
    | ((with_reducible apply at_store (.tmp 4) (.tmp 11)); refine wpList_store_row rfl 31 (.tmp 4) (.tmp 11) rfl w1.heap.size (hd0.cells 21).toArray rfl rfl 31 Try.zeroCells31 (heap_alloc_new w1 _) (cells_info _) zeros_size (HD.one _ 21) ?_)
    | fail)
  have B2 := Lib.hid (show Below w.heap.size w ((w1.alloc (.cells Try.zeroCells31 31)).setRow w1.heap.size (hd0.cells 21).toArray) from below_setRow (B1.out.alloc B1.out.size _) B1.out.size _)
  go_ret2
  exact ⟨rfl, B2.out⟩
/-- A view of an image. -/
def Viewed (m : Mk) (w : World) (e : Ending) (w' : World) : Prop := ∃ (gv : Nat) (A : Option Addr) (c : Nat), e = .returned (.tuple #[.pointer (some ⟨gv, 0, none⟩), .int .i64 0]) ∧ w.heap.size ≤ gv ∧ Blk w' gv (viewC (imgH m) (.slice A m.b.length c)) 94 ∧ Bytes w' A (imgB m) ∧ Below w.heap.size w w'
set_option maxHeartbeats 4000000 in
theorem open_img {m : Mk} (h : Img m) (A : Option Addr) (n c : Nat) (w : World) (hn : m.b.length = n) (hb : Bytes w A (imgB m)) (hc : n ≤ c) : Calls Try.prog 25 #[.slice A n c] w (Viewed m w) := by
  obtain ⟨l1, l2, l3⟩ := h.lens
  have hLB := imgB_len h
  have hend := img_end h
  have hok := imgH_ok h
  have R1 := Lib.hid (by have k := read_img h [] A n c w (by rw [List.append_nil]; exact hb) (by rw [List.append_nil, hLB]; exact hn) (by omega) hc; exact k)
  unfold HTold at R1
  have HE := Lib.hid fun (W : World) => end_any (imgH m) hok W
  rw [hend.1, hend.2, hn] at HE
  have HB := Lib.hid hb
  unfold Viewed
  rw [hn] at l1 l2 l3 hLB ⊢
  have HLB := Lib.hid hLB
  clear hLB hend hok h hb hn
  go_enter Try.func25, Try.ntmps25
  go_upto_region 4 with (first
    | (go_at_call 8; ((refine R1.out.mono ?_); rintro e w1 ⟨rfl, hb1⟩; have B1 := Lib.hid hb1; clear hb1))
    | ((with_reducible apply at_store (.tmp 4) (.tmp 11)); refine wpList_store_row rfl 31 (.tmp 4) (.tmp 11) rfl w1.heap.size ((imgH m).cells 21).toArray rfl rfl 31 Try.zeroCells31 (heap_alloc_new w1 _) (cells_info _) zeros_size (HD.one _ 21) ?_)
    | fail)
  have R2 := Lib.hid (show Blk ((w1.alloc (.cells Try.zeroCells31 31)).setRow w1.heap.size ((imgH m).cells 21).toArray) w1.heap.size ((imgH m).cells 21) 31 from setRow_heap _ _ _ _ _ (0, 0) (heap_alloc_new w1 _))
  have B2 := Lib.hid (show Below w.heap.size w ((w1.alloc (.cells Try.zeroCells31 31)).setRow w1.heap.size ((imgH m).cells 21).toArray) from below_setRow (B1.out.alloc B1.out.size _) B1.out.size _)
  generalize (w1.alloc (.cells Try.zeroCells31 31)).setRow w1.heap.size ((imgH m).cells 21).toArray = w2 at *
  generalize w1.heap.size = s4 at *
  clear R1 B1
  go_upto_region 5 with (first
    | ((with_reducible apply at_slot 17); refine wpList_load_row rfl 31 (.tmp 4) rfl s4 rfl 31 ((imgH m).cells 21).toArray (0, 0) _ R2.out Try.underlying31 rfl (cells_info _) ?_)
    | (go_at_call 10; ((refine (HE.out _).mono ?_); rintro e w4 ⟨rfl, hb4⟩; have B4 := Lib.hid (B2.out.trans (hb4.mono B2.out.size)); have R4 := Lib.hid (R2.out.below hb4 R2.out.lt); clear hb4))
    | fail)
  have D4 := Lib.hid (show Below w4.heap.size w4 w4.drew from (Below.refl w4.heap.size w4).drew)
  have HS := Lib.hid fun (W : World) (hW : Below w4.heap.size w4 W) => show (fun W : World => W.rangeAt s4 0 ((imgH m).cells 21)) W from whole (R4.out.below hW R4.out.lt)
  have hcut := fun W : World => cut_hu A n c n hc (by omega) W
  have HBw := Lib.hid (show Bytes w4.drew (cutA A c 0) (imgB m) from by
    have k := Bytes.cut ((HB.out.below B4.out (Nat.le_refl _)).below D4.out (Nat.le_refl _)) c 0 n (by rw [HLB.out]; exact hc)
    rw [List.drop_zero, List.take_of_length_le (by rw [HLB.out]; exact Nat.le_refl _)] at k
    exact k)
  have HCl := Lib.hid fun (W : World) (hW : Bytes W (cutA A c 0) (imgB m)) => Cl8.clone_any (cutA A c 0) (imgB m) n c W hW HLB.out (by omega)
  have hbld := fun (A' : Option Addr) (c' : Nat) (W : World) => build_view (imgH m) A' n c' W
  unfold Cl8.Made at HCl
  clear HE R2 B2 HB HLB hc
  refine wp_region_noPanic ?_
  refine wp_region_held_drew (S := fun W : World => W.rangeAt s4 0 ((imgH m).cells 21)) (by kernel_rfl) (by exact (HS.out _ D4.out)) (fun hHeld => ?_)
  refine wpAnyH_take (i := 0) (oi := ⟨some 21, _, _, _, _, _⟩) rfl (by kernel_rfl) (by kernel_rfl) (by kernel_rfl) (fun _ _ _ h => h) (yieldsIf_load_mid (by rfl) _ _ rfl _ _ rfl _ _ (fun _ h => h) Try.underlying31 rfl (hcells_len _)) (by assumption) ?_
  try simp only [Act.put, List.setIfInBounds_toArray, List.set_cons_zero, List.set_cons_succ]
  refine wpAnyH_take (i := 1) (oi := ⟨some 22, _, _, _, _, _⟩) (v := ?_) rfl (by kernel_rfl) (by kernel_rfl) (by kernel_rfl) (fun _ _ _ h => h) (Or.inl ⟨by rfl, ?_⟩) (by assumption) ?_
  rotate_left
  · intro W hSw; go_simp; try (with_reducible rfl)
  try simp only [Act.put, List.setIfInBounds_toArray, List.set_cons_zero, List.set_cons_succ]
  refine wpAnyH_take (i := 2) (oi := ⟨some 23, _, _, _, _, _⟩) (v := ?_) rfl (by kernel_rfl) (by kernel_rfl) (by kernel_rfl) (fun _ _ _ h => h) (Or.inl ⟨by rfl, ?_⟩) (by assumption) ?_
  rotate_left
  · intro W hSw; go_simp; try (with_reducible rfl)
  try simp only [Act.put, List.setIfInBounds_toArray, List.set_cons_zero, List.set_cons_succ]
  refine wpAnyH_take (i := 3) (oi := ⟨some 24, _, _, _, _, _⟩) (v := ?_) rfl (by kernel_rfl) (by kernel_rfl) (by kernel_rfl) (fun _ _ _ h => h) (Or.inl ⟨by rfl, ?_⟩) (by assumption) ?_
  rotate_left
  · intro W hSw; go_simp; try (with_reducible rfl)
  try simp only [Act.put, List.setIfInBounds_toArray, List.set_cons_zero, List.set_cons_succ]
  refine wpAnyH_ready (rs := [4]) (by kernel_rfl) (by simp) ?_
  refine AllReadyH.cons (o := ⟨some 25, _, _, _, _, _⟩) rfl (fun K hK => ?_) AllReadyH.nil
  go_simp
  ((refine (HCl.out _ HBw.out).mono ?_); rintro e w5 ⟨A5, c5, rfl, hby5, hb5⟩; have B5 := Lib.hid (D4.out.trans hb5); have HB5 := Lib.hid hby5; clear hb5 hby5)
  try go_wp2_with fail
  refine hK.out _ _ (by exact (HS.out _ B5.out)) (fun hHeld => ?_)
  clear hK K
  try simp only [Act.put, List.setIfInBounds_toArray, List.set_cons_zero, List.set_cons_succ]
  refine wpAnyH_take (i := 5) (oi := ⟨some 26, _, _, _, _, _⟩) (v := ?_) rfl (by kernel_rfl) (by kernel_rfl) (by kernel_rfl) (fun _ _ _ h => h) (Or.inl ⟨by rfl, ?_⟩) (by assumption) ?_
  rotate_left
  · intro W hSw; go_simp; try (with_reducible rfl)
  try simp only [Act.put, List.setIfInBounds_toArray, List.set_cons_zero, List.set_cons_succ]
  refine wpAnyH_ready (rs := [6]) (by kernel_rfl) (by simp) ?_
  refine AllReadyH.cons (o := ⟨some 27, _, _, _, _, _⟩) rfl (fun K hK => ?_) AllReadyH.nil
  go_simp
  skip
  try go_wp2_with fail
  refine hK.out _ _ (by exact (HS.out _ (B5.out.alloc B5.out.size _))) (fun hHeld => ?_)
  clear hK K
  try simp only [Act.put, List.setIfInBounds_toArray, List.set_cons_zero, List.set_cons_succ]
  refine wpAnyH_take (i := 7) (oi := ⟨some 2, _, _, _, _, _⟩) (v := ?_) rfl (by kernel_rfl) (by kernel_rfl) (by kernel_rfl) (fun _ _ _ h => h) (Or.inl ⟨by rfl, ?_⟩) (by assumption) ?_
  rotate_left
  · intro W hSw; go_simp; try (with_reducible rfl)
  try simp only [Act.put, List.setIfInBounds_toArray, List.set_cons_zero, List.set_cons_succ]
  refine wpAnyH_take (i := 8) (oi := ⟨some 3, _, _, _, _, _⟩) (v := ?_) rfl (by kernel_rfl) (by kernel_rfl) (by kernel_rfl) (fun _ _ _ h => h) (Or.inl ⟨by rfl, ?_⟩) (by assumption) ?_
  rotate_left
  · intro W hSw; go_simp; try (with_reducible rfl)
  try simp only [Act.put, List.setIfInBounds_toArray, List.set_cons_zero, List.set_cons_succ]
  refine wpAnyH_done (by kernel_rfl) ?_ _
  refine NoPanic.normal ?_
  go_wp2
  go_ret2
  exact ⟨_, _, _, rfl, Nat.le_trans B4.out.size B5.out.size, Blk.new w5 _ _, HB5.out.below ((Below.refl _ _).alloc (Nat.le_refl _) _) (Nat.le_refl _), B4.out.trans ((B5.out.alloc B5.out.size _).mono B4.out.size)⟩
theorem ints_three (w : World) (x y z : Int) (hx : (Lit.int .i64 x).wf = true) (hy : (Lit.int .i64 y).wf = true) (hz : (Lit.int .i64 z).wf = true) : InInts .i64 (w.alloc (.cells #[.int .i64 x, .int .i64 y, .int .i64 z] 3)) (some ⟨w.heap.size, 0, none⟩) 3 (fun i => if i = 0 then x else if i = 1 then y else z) := fun i hi => by
  have h := Blk.new w [.int .i64 x, .int .i64 y, .int .i64 z] 3
  have hi3 : i = 0 ∨ i = 1 ∨ i = 2 := by omega
  refine ⟨w.heap.size, 0, rfl, h.lt, ?_, ?_⟩
  · rw [Nat.zero_add]
    rcases hi3 with rfl | rfl | rfl <;> exact h.cell rfl
  · rcases hi3 with rfl | rfl | rfl
    · exact hx
    · exact hy
    · exact hz
set_option maxHeartbeats 4000000 in
theorem first_arena (w : World) : Calls Try.prog 14 #[] w fun e w' => e = .returned (.bool true) ∧ Below w.heap.size w w' := by
  have HN := Lib.hid fun (W : World) => open_nil W
  have HI := Lib.hid fun (W : World) => image_made (some ⟨W.heap.size, 0, none⟩) 3 3 _ 2 _ (ints_three W 1 2 3 (by decide) (by decide) (by decide)) (by decide) (by decide)
  unfold Imaged at HI
  go_enter Try.func14, Try.ntmps14
  go_upto_region 2 with (first
    | (go_at_call 25; ((refine (HN.out _).mono ?_); rintro e w1 ⟨rfl, hb1⟩; have B1 := Lib.hid hb1; clear hb1))
    | fail)
  go_upto_region 3 with (first
    | (go_at_call 7; ((refine (HI.out _).mono ?_); rintro e w2 ⟨A, c, m, rfl, hg2, ho2, hb2⟩; have HG := Lib.hid hg2; have HO := Lib.hid ho2; have B2 := Lib.hid (B1.out.trans ((((Below.refl _ _).alloc (Nat.le_refl _) _).trans (hb2.mono (by simp))).mono B1.out.size)); have HOp := Lib.hid (open_img hg2.img A m.b.length c w2 rfl ho2.bytes (own_cap ho2).1); clear hg2 ho2 hb2; unfold Viewed at HOp))
    | (go_at_call 25; ((refine HOp.out.mono ?_); rintro e w3 ⟨gv, A3, c3, rfl, hgv, hv3, hby3, hb3⟩; have B3 := Lib.hid (B2.out.trans (hb3.mono B2.out.size)); clear hgv hv3 hby3 hb3))
    | fail)
  go_wp2
  go_ret
  exact ⟨rfl, B3.out⟩
end Go.Proofs.Ytecoenaojofgbaa.Ra

/-
  The walk of ArenaGuards.
-/
namespace Go.Proofs.Ytecoenaojofgbaa.ArenaGuardsW
open Go.ChangeShapes Go.WideShapes Go.ChangeAt Go.RowKit
open Bytes8 Blk8 OwnE Numb Ra Rb
set_option linter.unusedVariables false
set_option linter.unusedSimpArgs false
set_option maxRecDepth 100000

theorem info_int : (Try.prog.info? 3).map (fun i => (i.zero, i.size, i.bytes)) = some (some (.int .i64 0), 1, 8) := by kernel_rfl
theorem make_ints (n : Nat) (hn : n ≤ 1000) (w : World) : (Instr.makeSlice 22 (.int .i64 (n : Int)) (.int .i64 (n : Int))).run Try.prog w = .ok (.slice (some ⟨w.heap.size, 0, none⟩) n n) (w.alloc (.cells (List.replicate n (Value.int .i64 0)).toArray 3)) := by
  obtain ⟨i, hi, hzz⟩ := Option.map_eq_some_iff.1 info_int
  simp only [Prod.mk.injEq] at hzz
  obtain ⟨hz, hs, hb⟩ := hzz
  have h := run_make_row (P := Try.prog) 22 3 i (.int .i64 0) Try.underlying22 hi hz hs rfl .i64 .i64 n (by rw [hb]; omega) (by omega) w
  have e : madeCells #[Value.int .i64 0] n = (List.replicate n (Value.int .i64 0)).toArray := by
    apply Array.ext'
    rw [toList_madeCells_one]
  rw [e] at h
  exact h
attribute [local irreducible] wpList Code.wp
set_option maxHeartbeats 4000000 in
theorem walk (nn aa : Int) (w : World) (h1 : (Lit.int .i64 nn).wf = true) (h2 : (Lit.int .i64 aa).wf = true) :
    Calls Try.prog 5 #[.int .i64 nn, .int .i64 aa] w fun e w' => e = .returned (.bool true) ∧ Below w.heap.size w w' := by
  obtain ⟨n, hn, hn30⟩ := below_nat nn 30 (by decide)
  have HNn := Lib.hid fun (W : World) => number_nat nn 30 n W (by decide) (by decide) hn.out
  obtain ⟨ka, hka, hk40⟩ := below_nat aa 40 (by decide)
  have HNk := Lib.hid fun (W : World) => number_nat aa 40 ka W (by decide) (by decide) hka.out
  clear hn hka h1 h2
  have hn30 : n < 30 := by omega
  have hk40 : ka < 40 := by omega
  have b0 := Lib.hid ((Below.refl w.heap.size w).alloc (Nat.le_refl _) (.cells #[.int .i64 aa] 3))
  have R0 := Lib.hid (show Blk (w.alloc (.cells #[.int .i64 aa] 3)) w.heap.size [.int .i64 aa] 3 from Blk.new w _ _)
  have hfn : ∀ (fn : Fn) (first cap : Array Value) (w : World), (Instr.makeFunc fn first cap).run Try.prog w = .ok (.func fn first cap) w := fun _ _ _ _ => rfl
  go_enter Try.func5, Try.ntmps5
  go_upto_region 5 with (first
    | (go_at_call 14; ((refine (first_arena _).mono ?_); rintro e w1 ⟨rfl, hb1⟩; have B1 := Lib.hid (b0.out.trans (hb1.mono b0.out.size)); have R1 := Lib.hid (R0.out.below hb1 R0.out.lt); clear hb1))
    | (go_at_call 11; ((with_reducible refine (HNn.out _).mono ?_); rintro e w' ⟨rfl, rfl⟩))
    | fail)
  have c0 := R1.out.cell (i := 0) rfl
  have z0 := R1.out.frozen 0
  have hl0 := R1.out.lt
  go_upto_region 6 with (first
    | (go_at_call 11; ((with_reducible refine (HNk.out _).mono ?_); rintro e w' ⟨rfl, rfl⟩))
    | fail)
  have R2 := Lib.hid (show Blk (w1.setCell ⟨w.heap.size, 0, none⟩ (.int .i64 (ka : Int))) w.heap.size [.int .i64 (ka : Int)] 3 from R1.out.set_ 0 _)
  have B2 := Lib.hid (B1.out.setCell (p := ⟨w.heap.size, 0, none⟩) (Nat.le_refl _) (.int .i64 (ka : Int)))
  generalize w1.setCell ⟨w.heap.size, 0, none⟩ (.int .i64 (ka : Int)) = w2 at *
  have hl2 := R2.out.lt
  clear c0 z0 R1 B1 HNn HNk
  have hmk := fun W : World => make_ints n (by omega) W
  go_upto_region 8 with fail
  have ea : (List.replicate n (Value.int .i64 0)).toArray = Array.replicate n (Value.int .i64 0) := List.toArray_replicate n _
  have hms : min ka n ≤ n := Nat.min_le_right _ _
  have S0 : ((w2.alloc (.cells (Array.replicate n (Value.int .i64 0)) 3)).alloc (.cells #[.slice (some ⟨w2.heap.size, 0, none⟩) n n] 22)).heap.size = w2.heap.size + 1 + 1 := by simp only [World.alloc, Array.size_push]
  have S1 : (w2.alloc (.cells (Array.replicate n (Value.int .i64 0)) 3)).heap.size = w2.heap.size + 1 := by simp only [World.alloc, Array.size_push]
  have RL := Lib.hid (((show Blk (w2.alloc (.cells (Array.replicate n (Value.int .i64 0)) 3)) w2.heap.size (List.replicate n (Value.int .i64 0)) 3 from ea ▸ Blk.new w2 (List.replicate n (Value.int .i64 0)) 3).alloc (.cells #[.slice (some ⟨w2.heap.size, 0, none⟩) n n] 22)).alloc (.cells #[.int .i64 0] 3))
  have R6 := Lib.hid ((Blk.new_at (w2.alloc (.cells (Array.replicate n (Value.int .i64 0)) 3)) [.slice (some ⟨w2.heap.size, 0, none⟩) n n] 22 _ S1).alloc (.cells #[.int .i64 0] 3))
  have R7 := Lib.hid (Blk.new_at ((w2.alloc (.cells (Array.replicate n (Value.int .i64 0)) 3)).alloc (.cells #[.slice (some ⟨w2.heap.size, 0, none⟩) n n] 22)) [.int .i64 0] 3 _ S0)
  have R3 := Lib.hid (((R2.out.alloc (.cells (Array.replicate n (Value.int .i64 0)) 3)).alloc (.cells #[.slice (some ⟨w2.heap.size, 0, none⟩) n n] 22)).alloc (.cells #[.int .i64 0] 3))
  have B3 := Lib.hid (((B2.out.alloc (Nat.le_of_lt hl2) (.cells (Array.replicate n (Value.int .i64 0)) 3)).alloc (by rw [S1]; omega) (.cells #[.slice (some ⟨w2.heap.size, 0, none⟩) n n] 22)).alloc (by rw [S0]; omega) (.cells #[.int .i64 0] 3))
  generalize (((w2.alloc (.cells (Array.replicate n (Value.int .i64 0)) 3)).alloc (.cells #[.slice (some ⟨w2.heap.size, 0, none⟩) n n] 22)).alloc (.cells #[.int .i64 0] 3)) = w3 at *
  have IN := inner_any w.heap.size (w2.heap.size + 1 + 1) (w2.heap.size + 1) w2.heap.size n ka w.heap.size (List.replicate n (Value.int .i64 0)) w3 R3.out R7.out R6.out RL.out (List.length_replicate ..) (fun v hv => ⟨0, (List.mem_replicate.1 hv).2⟩) ⟨by omega, by omega, by omega, by omega, by omega⟩ ⟨by omega, by omega⟩ hk40 hn30
  have HG0 : (Calls Try.prog 15 #[.func (.func 16) #[] #[.pointer (some ⟨w.heap.size, 0, none⟩), .pointer (some ⟨w2.heap.size + 1 + 1, 0, none⟩), .pointer (some ⟨w2.heap.size + 1, 0, none⟩)]] w3 fun e w' => e = .returned (.bool (decide ((ka : Int) < (n : Int)))) ∧ (Blk w' w.heap.size [.int .i64 (ka : Int)] 3 ∧ Blk w' (w2.heap.size + 1 + 1) [.int .i64 ((min ka n : Nat) + 1 : Int)] 3 ∧ Below w.heap.size w3 w')) := by
    by_cases hkn : ka < n
    · have e : decide ((ka : Int) < (n : Int)) = true := by simp; omega
      rw [e]
      refine guard_ends _ _ _ _ _ (IN.mono ?_)
      rintro e w' ⟨h | h, hr⟩
      · exact ⟨h.2, hr⟩
      · exact absurd h.1 (by omega)
    · have e : decide ((ka : Int) < (n : Int)) = false := by simp; omega
      rw [e]
      refine guard_halts _ _ _ _ _ (IN.mono ?_)
      rintro e w' ⟨h | h, hr⟩
      · exact absurd h.1 hkn
      · exact ⟨h.2, hr⟩
  have HG := Lib.hid HG0
  clear HG0 IN R7 R6 RL R3
  go_upto_region 9 with (first
    | (go_at_call 15; ((with_reducible refine HG.out.mono ?_); rintro e w4 ⟨rfl, r3, r7, r4⟩; have B4 := Lib.hid (B3.out.trans r4); have R3 := Lib.hid r3; have R7 := Lib.hid r7; clear r3 r7 r4))
    | fail)
  have c3 := R3.out.cell (i := 0) rfl
  have c7 := R7.out.cell (i := 0) rfl
  go_wp2_with (first
    | (go_at_call 15; ((with_reducible refine (guard_nil _).mono ?_); rintro e w5 ⟨rfl, rfl⟩))
    | fail)
  all_goals first
    | (exfalso; omega)
    | (go_ret; exact ⟨rfl, B4.out⟩)
end Go.Proofs.Ytecoenaojofgbaa.ArenaGuardsW
