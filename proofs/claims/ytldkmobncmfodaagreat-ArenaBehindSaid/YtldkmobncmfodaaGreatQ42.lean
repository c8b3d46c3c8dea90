/-
  Texts beneath the proof, one behind the other.
-/
import Derived.Recover
import Derived.Defers
import Derived.Test.YtldkmobncmfodaaGreatQ40
import Derived.Test.YtldkmobncmfodaaGreatQ41
import Derived.Test.YtldkmobncmfodaaGreatQ22
import Derived.Test.YtldkmobncmfodaaGreatQ28
import Derived.Test.YtldkmobncmfodaaGreatQ37
import Derived.Test.YtldkmobncmfodaaGreatQ7

/-
  The program's View.hashed: an object Data whose hash is right.
-/
namespace Go.Proofs.YtldkmobncmfodaaGreat.Rk
open Go.ChangeShapes Go.WideShapes Go.ChangeAt Go.RowKit
open Bytes8 Blk8 Own8 OwnM OwnE LeA LeNum LeP Rows2 Ob Oc Od Ga Gb Gc Gd Gf Gi Gj Oi Oj Ok7 Np Sg Ra Rc Rd Re Rj
set_option linter.unusedVariables false
set_option linter.unusedSimpArgs false
set_option maxRecDepth 100000

/-- The code of an object Data whose hash is asked for, too. -/
def hcode9 (h : HD) (l : List Int) (n a : Nat) : Int := if dcode h l n a ≠ 0 then dcode h l n a else if bnum l a 1 6 0 = ofS (keyB h.ic) (idL h.I) (bpay l a 1 6) then 0 else 9
theorem bpay_le (l : List Int) (a : Nat) (k : Int) (n : Nat) : (bpay l a k n).length ≤ l.length := by
  unfold bpay
  split
  · rw [List.length_drop]
    unfold bodyL
    rw [List.length_take, List.length_drop]
    omega
  · exact Nat.zero_le _
attribute [local irreducible] wpList Code.wp ofS bnum bpay bcode
set_option maxHeartbeats 4000000 in
theorem hashed_any {gv : Nat} {h : HD} {A : Option Addr} {n c : Nat} {l : List Int} (a : Nat) (w : World) (v : ViewAt w gv h A n c l) (hcm : c ≤ maxLen) (h8 : n ≤ 800000) :
    Calls Tryz.prog 75 #[.pointer (some ⟨gv, 0, none⟩), .int .u64 (a : Int)] w fun e w' => Below w.heap.size w w' ∧ ReadD w.heap.size l a (hcode9 h l n a) e w' := by
  have b1 := Lib.hid ((Below.refl w.heap.size w).alloc (Nat.le_refl _) (.cells dz 113))
  have v1 := v.below b1.out
  have HV := Lib.hid (vdata_any a _ v1 hcm)
  have HH := Lib.hid fun (A2 : Option Addr) (m2 c2 : Nat) (B : Nat) (W : World) (hW : Below w.heap.size w W) (hb : Bytes W A2 (bpay l a 1 6)) (hL : (bpay l a 1 6).length = m2) (hcp : Cap B A2 m2 c2) => vhash_any A2 (bpay l a 1 6) m2 c2 W (v.below hW) hb hL (by have h1 := bpay_le l a 1 6; have h2 := v.len; omega) hcp.2.1 hcp.2.2.1
  have Z1 := Lib.hid (heap_alloc_new w (.cells dz 113))
  have s1 := Lib.hid (show w.heap.size < (w.alloc (.cells dz 113)).heap.size by simp)
  unfold ReadD at HV ⊢
  unfold hcode9
  generalize ofS (keyB h.ic) (idL h.I) (bpay l a 1 6) = y0 at *
  generalize bnum l a 1 6 0 = x0 at *
  generalize bnum l a 1 6 1 = x1 at *
  generalize bnum l a 1 6 2 = x2 at *
  generalize bnum l a 1 6 3 = x3 at *
  generalize bnum l a 1 6 4 = x4 at *
  generalize bnum l a 1 6 5 = x5 at *
  generalize dcode h l n a = cd at *
  generalize bpay l a 1 6 = pl at *
  clear v v1
  by_cases hz : cd = 0
  · subst hz
    rw [if_neg (by decide)]
    obtain ⟨cc, hcc⟩ : ∃ c : Int, c = if x0 = y0 then 0 else 9 := ⟨_, rfl⟩
    rw [← hcc]
    have HCC := Lib.hid hcc
    clear hcc
    go_enter Tryz.func75, Tryz.ntmps75
    go_upto_region 2 with (first
      | (go_at_call 108; (refine HV.out.mono ?_); rintro e w2 ⟨hb2, ⟨hne, _⟩ | ⟨_, A2, m2, c2', rfl, hy2, hl2, hm2⟩⟩; (exact absurd rfl hne); have B2 := Lib.hid (b1.out.trans (hb2.mono b1.out.size)); have HY2 := Lib.hid hy2; have Z2 := Lib.hid ((hb2.block _ s1.out).trans Z1.out); have SZ2 := Lib.hid (show w.heap.size < w2.heap.size from Nat.lt_of_lt_of_le s1.out hb2.size); clear hb2 hy2)
      | ((with_reducible apply at_store (.tmp 5) (.tmp 8)); refine wpList_store_row rfl 113 (.tmp 5) (.tmp 8) rfl w2.heap.size #[.int .u64 x0, .int .u64 x1, .int .u64 x2, .int .u64 x3, .int .u64 x4, .int .u64 x5, .slice A2 m2 c2'] rfl rfl 113 dz (heap_alloc_new w2 _) (by kernel_rfl) rfl (by simp [Value.oneCell']) ?_)
      | fail)
    have R3 := Lib.hid (show Blk ((w2.alloc (.cells dz 113)).setRow w2.heap.size #[.int .u64 x0, .int .u64 x1, .int .u64 x2, .int .u64 x3, .int .u64 x4, .int .u64 x5, .slice A2 m2 c2']) w2.heap.size [.int .u64 x0, .int .u64 x1, .int .u64 x2, .int .u64 x3, .int .u64 x4, .int .u64 x5, .slice A2 m2 c2'] 113 from setRow_heap _ _ _ _ _ (0, 0) (heap_alloc_new w2 _))
    have B23 := Lib.hid (show Below w2.heap.size w2 ((w2.alloc (.cells dz 113)).setRow w2.heap.size #[.int .u64 x0, .int .u64 x1, .int .u64 x2, .int .u64 x3, .int .u64 x4, .int .u64 x5, .slice A2 m2 c2']) from below_setRow ((Below.refl _ _).alloc (Nat.le_refl _) _) (Nat.le_refl _) _)
    generalize (w2.alloc (.cells dz 113)).setRow w2.heap.size #[.int .u64 x0, .int .u64 x1, .int .u64 x2, .int .u64 x3, .int .u64 x4, .int .u64 x5, .slice A2 m2 c2'] = w3 at *
    have B3 := Lib.hid (B2.out.trans (B23.out.mono B2.out.size))
    have HY3 := Lib.hid (HY2.out.below B23.out (Nat.le_refl _))
    have Z3 := Lib.hid ((B23.out.block _ SZ2.out).trans Z2.out)
    have Z3s := Lib.hid (show w.heap.size < w3.drew.heap.size from Nat.lt_of_lt_of_le SZ2.out B23.out.size)
    have HS := Lib.hid (HH.out A2 m2 c2' _ w3.drew B3.out.drew HY3.out.drew hl2 hm2)
    have Sd := Lib.hid (show w3.drew.cell? ⟨w2.heap.size, 0, none⟩ = some (.int .u64 x0) ∧ w3.drew.cell? ⟨w2.heap.size, 6, none⟩ = some (.slice A2 m2 c2') from ⟨R3.out.drew.cell (i := 0) rfl, R3.out.drew.cell (i := 6) rfl⟩)
    have HCp := Lib.hid (hm2.mono (Nat.le_of_lt s1.out))
    generalize w2.heap.size = s5 at *
    clear HV HH hm2 B2 HY2 Z2 SZ2 B23
    by_cases he : x0 = y0
    · have hcc := HCC.out
      rw [if_pos he] at hcc
      have HC0 := Lib.hid hcc
      clear hcc
      have d : (x0 == y0) = true := by simpa using he
      refine wp_region_held_drew (S := fun W : World => W.cell? ⟨s5, 0, none⟩ = some (.int .u64 x0) ∧ W.cell? ⟨s5, 6, none⟩ = some (.slice A2 m2 c2')) (by kernel_rfl) (by exact Sd.out) (fun hHeld => ?_)
      refine wpAnyH_take (i := 0) (oi := ⟨some 9, _, _, _, _, _⟩) (v := ?_) rfl (by kernel_rfl) (by kernel_rfl) (by kernel_rfl) (fun _ _ _ h => h) (Or.inl ⟨by rfl, ?_⟩) (by assumption) ?_
      rotate_left
      · intro W hSw; obtain ⟨x0, x1⟩ := hSw; go_simp; try (with_reducible rfl)
      try simp only [Act.put, List.setIfInBounds_toArray, List.set_cons_zero, List.set_cons_succ]
      refine wpAnyH_take (i := 1) (oi := ⟨some 10, _, _, _, _, _⟩) (v := ?_) rfl (by kernel_rfl) (by kernel_rfl) (by kernel_rfl) (fun _ _ _ h => h) (Or.inl ⟨by rfl, ?_⟩) (by assumption) ?_
      rotate_left
      · intro W hSw; obtain ⟨x0, x1⟩ := hSw; go_simp; try (with_reducible rfl)
      try simp only [Act.put, List.setIfInBounds_toArray, List.set_cons_zero, List.set_cons_succ]
      refine wpAnyH_take (i := 2) (oi := ⟨some 11, _, _, _, _, _⟩) (v := ?_) rfl (by kernel_rfl) (by kernel_rfl) (by kernel_rfl) (fun _ _ _ h => h) (Or.inl ⟨by rfl, ?_⟩) (by assumption) ?_
      rotate_left
      · intro W hSw; obtain ⟨x0, x1⟩ := hSw; go_simp; try (with_reducible rfl)
      try simp only [Act.put, List.setIfInBounds_toArray, List.set_cons_zero, List.set_cons_succ]
      refine wpAnyH_take (i := 3) (oi := ⟨some 12, _, _, _, _, _⟩) (v := ?_) rfl (by kernel_rfl) (by kernel_rfl) (by kernel_rfl) (fun _ _ _ h => h) (Or.inl ⟨by rfl, ?_⟩) (by assumption) ?_
      rotate_left
      · intro W hSw; obtain ⟨x0, x1⟩ := hSw; go_simp; try (with_reducible rfl)
      try simp only [Act.put, List.setIfInBounds_toArray, List.set_cons_zero, List.set_cons_succ]
      refine wpAnyH_take (i := 4) (oi := ⟨some 13, _, _, _, _, _⟩) (v := ?_) rfl (by kernel_rfl) (by kernel_rfl) (by kernel_rfl) (fun _ _ _ h => h) (Or.inl ⟨by rfl, ?_⟩) (by assumption) ?_
      rotate_left
      · intro W hSw; obtain ⟨x0, x1⟩ := hSw; go_simp; try (with_reducible rfl)
      try simp only [Act.put, List.setIfInBounds_toArray, List.set_cons_zero, List.set_cons_succ]
      refine wpAnyH_ready (rs := [5]) (by kernel_rfl) (by simp) ?_
      refine AllReadyH.cons (o := ⟨some 14, _, _, _, _, _⟩) rfl (fun K hK => ?_) AllReadyH.nil
      go_simp
      ((refine HS.out.mono ?_); rintro e w4 ⟨rfl, hb4⟩; have B4 := Lib.hid (B3.out.drew.trans (hb4.mono B3.out.size)); have R4 := Lib.hid (R3.out.drew.below hb4 R3.out.lt); have HY4 := Lib.hid (HY3.out.drew.below hb4 (Nat.le_refl _)); have S4 := Lib.hid (show w4.cell? ⟨s5, 0, none⟩ = some (.int .u64 x0) ∧ w4.cell? ⟨s5, 6, none⟩ = some (.slice A2 m2 c2') from ⟨R4.out.cell (i := 0) rfl, R4.out.cell (i := 6) rfl⟩); have Z4 := Lib.hid ((hb4.block _ Z3s.out).trans Z3.out); clear hb4)
      try go_wp2_with fail
      refine hK.out _ _ (by exact S4.out) (fun hHeld => ?_)
      clear hK K
      try simp only [Act.put, List.setIfInBounds_toArray, List.set_cons_zero, List.set_cons_succ]
      refine wpAnyH_take (i := 6) (oi := ⟨some 15, _, _, _, _, _⟩) (v := ?_) rfl (by kernel_rfl) (by kernel_rfl) (by kernel_rfl) (fun _ _ _ h => h) (Or.inl ⟨by rfl, ?_⟩) (by assumption) ?_
      rotate_left
      · intro W hSw; obtain ⟨x0, x1⟩ := hSw; go_simp; try (with_reducible rfl)
      try simp only [Act.put, List.setIfInBounds_toArray, List.set_cons_zero, List.set_cons_succ]
      refine wpAnyH_ready (rs := [7]) (by kernel_rfl) (by simp) ?_
      refine AllReadyH.cons (o := ⟨some 16, _, _, _, _, _⟩) rfl (fun K hK => ?_) AllReadyH.nil
      go_simp
      ((refine (need_yes 9 _).mono ?_); rintro e w5 ⟨rfl, rfl⟩)
      try go_wp2_with fail
      refine hK.out _ _ (by exact S4.out) (fun hHeld => ?_)
      clear hK K
      try simp only [Act.put, List.setIfInBounds_toArray, List.set_cons_zero, List.set_cons_succ]
      refine wpAnyH_done (by kernel_rfl) ?_ _
      go_wp2_with (first
        | ((with_reducible apply at_slot 17); refine wpList_load_row rfl 113 (.tmp 5) rfl s5 rfl 113 #[.int .u64 x0, .int .u64 x1, .int .u64 x2, .int .u64 x3, .int .u64 x4, .int .u64 x5, .slice A2 m2 c2'] (0, 0) _ R4.out Tryz.underlying113 rfl (by kernel_rfl) ?_)
        | ((with_reducible apply at_store (.tmp 4) (.tmp 17)); refine wpList_store_row rfl 113 (.tmp 4) (.tmp 17) rfl w.heap.size #[.int .u64 x0, .int .u64 x1, .int .u64 x2, .int .u64 x3, .int .u64 x4, .int .u64 x5, .slice A2 m2 c2'] rfl rfl 113 dz Z4.out (by kernel_rfl) rfl (by simp [Value.oneCell']) ?_)
        | fail)
      refine bodyPost_ret (v := dataV x0 x1 x2 x3 x4 x5 A2 m2 c2') (by exact results_cell_row Tryz.results75 _ _ w.heap.size 113 _ (0, 0) _ rfl (setRow_heap _ w.heap.size _ _ _ (0, 0) Z4.out) Tryz.underlying113 rfl (by kernel_rfl)) rfl ?_
      have b5 := below_setRow (B := w.heap.size) B4.out (Nat.le_refl _) #[.int .u64 x0, .int .u64 x1, .int .u64 x2, .int .u64 x3, .int .u64 x4, .int .u64 x5, .slice A2 m2 c2']
      exact ⟨b5, .inr ⟨HC0.out, A2, m2, c2', rfl, bytes_apart HY4.out Z4.out _, hl2, HCp.out⟩⟩
    · have hcc := HCC.out
      rw [if_neg he] at hcc
      have HC9 := Lib.hid hcc
      clear hcc
      have d : (x0 == y0) = false := by simpa using he
      refine wp_region_held_drew (S := fun W : World => W.cell? ⟨s5, 0, none⟩ = some (.int .u64 x0) ∧ W.cell? ⟨s5, 6, none⟩ = some (.slice A2 m2 c2')) (by kernel_rfl) (by exact Sd.out) (fun hHeld => ?_)
      refine wpAnyH_take (i := 0) (oi := ⟨some 9, _, _, _, _, _⟩) (v := ?_) rfl (by kernel_rfl) (by kernel_rfl) (by kernel_rfl) (fun _ _ _ h => h) (Or.inl ⟨by rfl, ?_⟩) (by assumption) ?_
      rotate_left
      · intro W hSw; obtain ⟨x0, x1⟩ := hSw; go_simp; try (with_reducible rfl)
      try simp only [Act.put, List.setIfInBounds_toArray, List.set_cons_zero, List.set_cons_succ]
      refine wpAnyH_take (i := 1) (oi := ⟨some 10, _, _, _, _, _⟩) (v := ?_) rfl (by kernel_rfl) (by kernel_rfl) (by kernel_rfl) (fun _ _ _ h => h) (Or.inl ⟨by rfl, ?_⟩) (by assumption) ?_
      rotate_left
      · intro W hSw; obtain ⟨x0, x1⟩ := hSw; go_simp; try (with_reducible rfl)
      try simp only [Act.put, List.setIfInBounds_toArray, List.set_cons_zero, List.set_cons_succ]
      refine wpAnyH_take (i := 2) (oi := ⟨some 11, _, _, _, _, _⟩) (v := ?_) rfl (by kernel_rfl) (by kernel_rfl) (by kernel_rfl) (fun _ _ _ h => h) (Or.inl ⟨by rfl, ?_⟩) (by assumption) ?_
      rotate_left
      · intro W hSw; obtain ⟨x0, x1⟩ := hSw; go_simp; try (with_reducible rfl)
      try simp only [Act.put, List.setIfInBounds_toArray, List.set_cons_zero, List.set_cons_succ]
      refine wpAnyH_take (i := 3) (oi := ⟨some 12, _, _, _, _, _⟩) (v := ?_) rfl (by kernel_rfl) (by kernel_rfl) (by kernel_rfl) (fun _ _ _ h => h) (Or.inl ⟨by rfl, ?_⟩) (by assumption) ?_
      rotate_left
      · intro W hSw; obtain ⟨x0, x1⟩ := hSw; go_simp; try (with_reducible rfl)
      try simp only [Act.put, List.setIfInBounds_toArray, List.set_cons_zero, List.set_cons_succ]
      refine wpAnyH_take (i := 4) (oi := ⟨some 13, _, _, _, _, _⟩) (v := ?_) rfl (by kernel_rfl) (by kernel_rfl) (by kernel_rfl) (fun _ _ _ h => h) (Or.inl ⟨by rfl, ?_⟩) (by assumption) ?_
      rotate_left
      · intro W hSw; obtain ⟨x0, x1⟩ := hSw; go_simp; try (with_reducible rfl)
      try simp only [Act.put, List.setIfInBounds_toArray, List.set_cons_zero, List.set_cons_succ]
      refine wpAnyH_ready (rs := [5]) (by kernel_rfl) (by simp) ?_
      refine AllReadyH.cons (o := ⟨some 14, _, _, _, _, _⟩) rfl (fun K hK => ?_) AllReadyH.nil
      go_simp
      ((refine HS.out.mono ?_); rintro e w4 ⟨rfl, hb4⟩; have B4 := Lib.hid (B3.out.drew.trans (hb4.mono B3.out.size)); have R4 := Lib.hid (R3.out.drew.below hb4 R3.out.lt); have HY4 := Lib.hid (HY3.out.drew.below hb4 (Nat.le_refl _)); have S4 := Lib.hid (show w4.cell? ⟨s5, 0, none⟩ = some (.int .u64 x0) ∧ w4.cell? ⟨s5, 6, none⟩ = some (.slice A2 m2 c2') from ⟨R4.out.cell (i := 0) rfl, R4.out.cell (i := 6) rfl⟩); have Z4 := Lib.hid ((hb4.block _ Z3s.out).trans Z3.out); clear hb4)
      try go_wp2_with fail
      refine hK.out _ _ (by exact S4.out) (fun hHeld => ?_)
      clear hK K
      try simp only [Act.put, List.setIfInBounds_toArray, List.set_cons_zero, List.set_cons_succ]
      refine wpAnyH_take (i := 6) (oi := ⟨some 15, _, _, _, _, _⟩) (v := ?_) rfl (by kernel_rfl) (by kernel_rfl) (by kernel_rfl) (fun _ _ _ h => h) (Or.inl ⟨by rfl, ?_⟩) (by assumption) ?_
      rotate_left
      · intro W hSw; obtain ⟨x0, x1⟩ := hSw; go_simp; try (with_reducible rfl)
      try simp only [Act.put, List.setIfInBounds_toArray, List.set_cons_zero, List.set_cons_succ]
      refine wpAnyH_ready (rs := [7]) (by kernel_rfl) (by simp) ?_
      refine AllReadyH.cons (o := ⟨some 16, _, _, _, _, _⟩) rfl (fun K hK => ?_) AllReadyH.nil
      go_simp
      ((refine (need_no 9 _).mono ?_); rintro e w5 ⟨rfl, rfl⟩; exact ⟨rfl, B4.out, .inl ⟨by rw [HC9.out]; decide, by rw [HC9.out]⟩⟩)
  · rw [if_pos hz]
    go_enter Tryz.func75, Tryz.ntmps75
    go_wp2_with (first
      | (go_at_call 108; (refine HV.out.mono ?_); rintro e w3 ⟨hb3, ⟨_, rfl⟩ | ⟨he, _⟩⟩; rotate_left; (exact absurd he hz); have B3 := Lib.hid (b1.out.trans (hb3.mono b1.out.size)); clear hb3)
      | fail)
    exact ⟨rfl, B3.out, .inl ⟨hz, rfl⟩⟩
end Go.Proofs.YtldkmobncmfodaaGreat.Rk

/-
  The program's View.Payload, told.
-/
namespace Go.Proofs.YtldkmobncmfodaaGreat.Rl
open Go.ChangeShapes Go.WideShapes Go.ChangeAt Go.RowKit
open Bytes8 Blk8 Own8 OwnM OwnE LeA LeNum LeP Rows2 Ob Oc Od Ga Gb Gc Gd Gf Gi Gj Oi Oj Ok7 Np Sg Ra Rc Rk
open Rd (dz)
open Re (bytes_code load_code ReadD)
set_option linter.unusedVariables false
set_option linter.unusedSimpArgs false
set_option maxRecDepth 100000

theorem caught_idle (g3 : Nat) (w : World) : CallsD Tryz.prog 136 #[.pointer (some ⟨g3, 0, none⟩)] .returning w fun e u' w' => e = .returned (.tuple #[]) ∧ u' = .returning ∧ w' = w := by
  refine callsD_of_wpS Tryz.func136 rfl fun c₀ cs hu => ?_
  apply wpS_seq
  apply wpS_region
  simp [wpOpsS, go_sem, recoverD, hu, Tryz.ntmps136, Exit.thenS]
  refine wpS_of_wp ?_
  go_wp2
  cases c₀
  simp_all [bodyPostS, results, Tryz.results136]
set_option maxHeartbeats 2000000 in
theorem caught_halt (g3 : Nat) (c y : Int) (older : List PanicEntry) (w : World) (h : Blk w g3 [.int .i64 y] 3) : CallsD Tryz.prog 136 #[.pointer (some ⟨g3, 0, none⟩)] (.panicking ({ v := .iface 192 (.int .i64 c), recovered := false } :: older)) w fun e u' w' => e = .returned (.tuple #[]) ∧ u' = .panicking ({ v := .iface 192 (.int .i64 c), recovered := true } :: older) ∧ w' = w.setCell ⟨g3, 0, none⟩ (.int .i64 c) := by
  have c0 := h.cell (i := 0) rfl
  have z0 := h.frozen 0
  have hta : ∀ w : World, (Instr.typeAssert (.iface 192 (.int .i64 c)) 20 192 true).run Tryz.prog w = .ok (.tuple #[.int .i64 c, .bool true]) w := fun _ => by kernel_rfl
  refine callsD_of_wpS Tryz.func136 rfl fun c₀ cs hu => ?_
  apply wpS_seq
  apply wpS_region
  simp [wpOpsS, go_sem, recoverD, hu, Tryz.ntmps136, Exit.thenS]
  refine wpS_of_wp ?_
  go_wp2
  cases c₀
  simp_all [bodyPostS, results, Tryz.results136]
/-- What reading a payload at a place tells inside: it halts with a code, or tells it. -/
def ReadP (B : Nat) (l : List Int) (a : Nat) (cd : Int) (e : Ending) (w' : World) : Prop :=
  (cd ≠ 0 ∧ e = .panicked [haltE cd]) ∨ (cd = 0 ∧ ∃ A' m' c', e = .returned (.slice A' m' c') ∧ Bytes w' A' (bpay l a 1 6) ∧ (bpay l a 1 6).length = m' ∧ Cap B A' m' c')
/-- .. outside. -/
def AskP (B : Nat) (l : List Int) (a : Nat) (cd : Int) (e : Ending) (w' : World) : Prop :=
  (cd ≠ 0 ∧ e = .returned (.tuple #[.slice none 0 0, .int .i64 cd])) ∨ (cd = 0 ∧ ∃ A' m' c', e = .returned (.tuple #[.slice A' m' c', .int .i64 0]) ∧ Bytes w' A' (bpay l a 1 6) ∧ (bpay l a 1 6).length = m' ∧ Cap B A' m' c')
attribute [local irreducible] wpList Code.wp
set_option maxHeartbeats 4000000 in
theorem vpay_cl {gv : Nat} {h : HD} {A : Option Addr} {n c : Nat} {l : List Int} (a : Nat) (g2 g3 : Nat) (w : World) (v : ViewAt w gv h A n c l) (hcm : c ≤ maxLen) (h8 : n ≤ 800000) (H2 : Blk w g2 [.pointer (some ⟨gv, 0, none⟩)] 28) (H3 : Blk w g3 [.int .u64 (a : Int)] 23) :
    Calls Tryz.prog 74 #[.pointer (some ⟨g2, 0, none⟩), .pointer (some ⟨g3, 0, none⟩)] w fun e w' => Below w.heap.size w w' ∧ ReadP w.heap.size l a (hcode9 h l n a) e w' := by
  have c2 := H2.cell (i := 0) rfl
  have c3 := H3.cell (i := 0) rfl
  have hfld : ∀ (y0 y1 y2 y3 y4 y5 : Int) (A2 : Option Addr) (m2 c2 : Nat) (W : World), (Instr.field 113 (dataV y0 y1 y2 y3 y4 y5 A2 m2 c2) 6).run Tryz.prog W = .ok (.slice A2 m2 c2) W := fun _ _ _ _ _ _ _ _ _ _ => by rfl
  have HV := Lib.hid (hashed_any a w v hcm h8)
  unfold ReadD at HV
  unfold ReadP
  generalize bnum l a 1 6 0 = x0 at *
  generalize bnum l a 1 6 1 = x1 at *
  generalize bnum l a 1 6 2 = x2 at *
  generalize bnum l a 1 6 3 = x3 at *
  generalize bnum l a 1 6 4 = x4 at *
  generalize bnum l a 1 6 5 = x5 at *
  generalize hcode9 h l n a = cd at *
  generalize bpay l a 1 6 = pl at *
  clear v H2 H3
  by_cases hz : cd = 0
  · subst hz
    go_enter Tryz.func74, Tryz.ntmps74
    go_wp2_with (first
      | (go_at_call 75; (refine HV.out.mono ?_); rintro e w3 ⟨hb3, ⟨hne, _⟩ | ⟨_, A2, m2, c2', rfl, hy2, hl2, hm2⟩⟩; (exact absurd rfl hne); have B3 := Lib.hid hb3; have HY3 := Lib.hid hy2; have HC3 := Lib.hid hm2; clear hb3 hy2 hm2)
      | fail)
    go_ret
    exact ⟨B3.out, .inr ⟨trivial, A2, m2, c2', rfl, HY3.out, hl2, HC3.out⟩⟩
  · go_enter Tryz.func74, Tryz.ntmps74
    go_wp2_with (first
      | (go_at_call 75; (refine HV.out.mono ?_); rintro e w3 ⟨hb3, ⟨_, rfl⟩ | ⟨he, _⟩⟩; rotate_left; (exact absurd he hz); have B3 := Lib.hid hb3; clear hb3)
      | fail)
    exact ⟨rfl, B3.out, .inl ⟨hz, rfl⟩⟩
theorem res_slot_cell {P : Program} {fn : Func} {p q : Tmp} {ty2 : TypeId} (h : fn.results = #[.tmp p, .cell q ty2]) (tmps : Array Value) (w : World) (gq : Nat) (v c : Value)
    (hp : tmps.getD p undef = v) (hq : tmps.getD q undef = .pointer (some ⟨gq, 0, none⟩)) (hl : (loadVar ty2 ⟨gq, 0, none⟩).run P w = .ok c w) : (results fn tmps).run P w = .ok (.tuple #[v, c]) w := by
  have hp' : tmps[p]?.getD undef = v := by simpa using hp
  have hq' : tmps[q]?.getD undef = .pointer (some ⟨gq, 0, none⟩) := by simpa using hq
  simp [results, h, hp', hq', asAddr, hl]
set_option maxHeartbeats 4000000 in
theorem asked_any {gv : Nat} {h : HD} {A : Option Addr} {n c : Nat} {l : List Int} (a : Nat) (g2 g3 : Nat) (w : World) (v : ViewAt w gv h A n c l) (hcm : c ≤ maxLen) (h8 : n ≤ 800000) (H2 : Blk w g2 [.pointer (some ⟨gv, 0, none⟩)] 28) (H3 : Blk w g3 [.int .u64 (a : Int)] 23) :
    Calls Tryz.prog 73 #[.func (.func 74) #[] #[.pointer (some ⟨g2, 0, none⟩), .pointer (some ⟨g3, 0, none⟩)]] w fun e w' => Below w.heap.size w w' ∧ AskP w.heap.size l a (hcode9 h l n a) e w' := by
  have b2 := Lib.hid ((Below.refl w.heap.size w).alloc (Nat.le_refl _) (.cells #[.int .i64 0] 3))
  have v2 := v.below b2.out
  have HV := Lib.hid (vpay_cl a g2 g3 _ v2 hcm h8 (H2.below b2.out H2.lt) (H3.below b2.out H3.lt))
  have S2 : (w.alloc (.cells #[.int .i64 0] 3)).heap.size = w.heap.size + 1 := by simp only [World.alloc, Array.size_push]
  have R2 := Lib.hid (Blk.new w [.int .i64 0] 3)
  have hfn : ∀ (fn : Fn) (first cap : Array Value) (w : World), (Instr.makeFunc fn first cap).run Tryz.prog w = .ok (.func fn first cap) w := fun _ _ _ _ => rfl
  unfold ReadP at HV
  unfold AskP
  generalize hcode9 h l n a = cd at *
  generalize bpay l a 1 6 = pl at *
  clear v v2 H2 H3
  by_cases hz : cd = 0
  · subst hz
    go_enter_defers Tryz.func73, Tryz.ntmps73
    go_wp2_with (first
      | (go_at_call 74; (refine HV.out.mono ?_); rintro e w3 ⟨hb3, ⟨hne, _⟩ | ⟨_, A2, m2, c2', rfl, hy2, hl2, hm2⟩⟩; (exact absurd rfl hne); have B3 := Lib.hid (b2.out.trans (hb3.mono b2.out.size)); have HY3 := Lib.hid hy2; have HC3 := Lib.hid (hm2.mono b2.out.size); have R3 := Lib.hid (R2.out.below hb3 (by rw [S2]; omega)); have c4 := R3.out.cell (i := 0) rfl; have z4 := R3.out.frozen 0; clear hb3 hy2 hm2)
      | fail)
    refine leaves_cons (f := 136) (args := #[.pointer (some ⟨w.heap.size, 0, none⟩)]) (by simp) (by simp [go_sem]) ?_
    refine (caught_idle _ _).mono ?_
    rintro e u' w'' ⟨rfl, rfl, rfl⟩
    have b4 := B3.out.setCell (p := ⟨w.heap.size, 0, none⟩) (Nat.le_refl _) (.int .i64 0)
    exact ⟨.tuple #[.slice A2 m2 c2', .int .i64 0], (by exact res_slot_cell Tryz.results73 _ _ w.heap.size _ _ rfl rfl (load_code _ _ _ (R3.out.set_ 0 _))), b4, .inr ⟨trivial, A2, m2, c2', rfl, bytes_code HY3.out R3.out _, hl2, HC3.out⟩⟩
  · go_enter_defers Tryz.func73, Tryz.ntmps73
    go_wp2_with (first
      | (go_at_call 74; (refine HV.out.mono ?_); rintro e w3 ⟨hb3, ⟨_, rfl⟩ | ⟨he, _⟩⟩; rotate_left; (exact absurd he hz); have B3 := Lib.hid (b2.out.trans (hb3.mono b2.out.size)); have R3 := Lib.hid (R2.out.below hb3 (by rw [S2]; omega)); clear hb3)
      | fail)
    refine leaves_cons (f := 136) (args := #[.pointer (some ⟨w.heap.size, 0, none⟩)]) (by simp) (by simp [go_sem]) ?_
    refine (caught_halt _ cd 0 [] _ R3.out).mono ?_
    rintro e u' w'' ⟨rfl, rfl, rfl⟩
    have b4 := B3.out.setCell (p := ⟨w.heap.size, 0, none⟩) (Nat.le_refl _) (.int .i64 cd)
    exact ⟨.tuple #[.slice none 0 0, .int .i64 cd], (by exact res_slot_cell Tryz.results73 _ _ w.heap.size _ _ rfl rfl (load_code _ _ _ (R3.out.set_ 0 _))), b4, .inl ⟨hz, rfl⟩⟩
set_option maxHeartbeats 4000000 in
theorem payAsk {gv : Nat} {h : HD} {A : Option Addr} {n c : Nat} {l : List Int} (a : Nat) (w : World) (v : ViewAt w gv h A n c l) (hcm : c ≤ maxLen) (h8 : n ≤ 800000) :
    Calls Tryz.prog 22 #[.pointer (some ⟨gv, 0, none⟩), .int .u64 (a : Int)] w fun e w' => Below w.heap.size w w' ∧ AskP w.heap.size l a (hcode9 h l n a) e w' := by
  have b1 := Lib.hid ((Below.refl w.heap.size w).alloc (Nat.le_refl _) (.cells #[.pointer (some ⟨gv, 0, none⟩)] 28))
  have b2 := Lib.hid (b1.out.alloc b1.out.size (.cells #[.int .u64 (a : Int)] 23))
  have v2 := v.below b2.out
  have S1 : (w.alloc (.cells #[.pointer (some ⟨gv, 0, none⟩)] 28)).heap.size = w.heap.size + 1 := by simp only [World.alloc, Array.size_push]
  have K1 := (Blk.new w [.pointer (some ⟨gv, 0, none⟩)] 28).alloc (.cells #[.int .u64 (a : Int)] 23)
  have K2 := Blk.new_at (w.alloc (.cells #[.pointer (some ⟨gv, 0, none⟩)] 28)) [.int .u64 (a : Int)] 23 _ S1
  have HV := Lib.hid (asked_any a w.heap.size (w.heap.size + 1) _ v2 hcm h8 K1 K2)
  have hfn : ∀ (fn : Fn) (first cap : Array Value) (w : World), (Instr.makeFunc fn first cap).run Tryz.prog w = .ok (.func fn first cap) w := fun _ _ _ _ => rfl
  unfold AskP at HV ⊢
  generalize hcode9 h l n a = cd at *
  generalize bpay l a 1 6 = pl at *
  clear v v2 K1 K2
  by_cases hz : cd = 0
  · subst hz
    go_enter Tryz.func22, Tryz.ntmps22
    go_wp2_with (first
      | (go_at_call 73; (refine HV.out.mono ?_); rintro e w4 ⟨hb4, ⟨hne, _⟩ | ⟨_, A2, m2, c2', rfl, hy2, hl2, hm2⟩⟩; (exact absurd rfl hne); have B4 := Lib.hid (b2.out.trans (hb4.mono b2.out.size)); have HY4 := Lib.hid hy2; have HC4 := Lib.hid (hm2.mono b2.out.size); clear hb4 hy2 hm2)
      | fail)
    go_ret2
    exact ⟨B4.out, .inr ⟨trivial, A2, m2, c2', rfl, HY4.out, hl2, HC4.out⟩⟩
  · go_enter Tryz.func22, Tryz.ntmps22
    go_wp2_with (first
      | (go_at_call 73; (refine HV.out.mono ?_); rintro e w4 ⟨hb4, ⟨_, rfl⟩ | ⟨he, _⟩⟩; rotate_left; (exact absurd he hz); have B4 := Lib.hid (b2.out.trans (hb4.mono b2.out.size)); clear hb4)
      | fail)
    go_ret2
    exact ⟨B4.out, .inl ⟨hz, rfl⟩⟩
end Go.Proofs.YtldkmobncmfodaaGreat.Rl

/-
  What the program's View.record gathers: plain, and in memory.
-/
namespace Go.Proofs.YtldkmobncmfodaaGreat.Rm
open Go.ChangeShapes Go.WideShapes Go.ChangeAt Go.RowKit
open Bytes8 Blk8 Own8 OwnM OwnE OwnA LeA LeNum LeP Rows2 Ob Oc Od Ga Gb Gc Gd Gf Gi Gj Oi Oj Ok7 Np Sg Nr Pr8 Fa Fsp Dc Ya Ra Rc Rk Rj
open Rd (dcode dz)
set_option linter.unusedVariables false
set_option linter.unusedSimpArgs false
set_option maxRecDepth 100000

/-! ## plain -/
/-- The first code of a row of codes. -/
def lcode (c : Nat → Int) : Nat → Int
  | 0 => 0
  | k + 1 => if lcode c k ≠ 0 then lcode c k else c k
theorem lcode_zero {c : Nat → Int} : ∀ {k : Nat}, (∀ i, i < k → c i = 0) → lcode c k = 0
  | 0, _ => rfl
  | k + 1, h => by
    unfold lcode
    rw [lcode_zero (fun i hi => h i (by omega)), if_neg (by decide)]
    exact h k (by omega)
theorem lcode_first {c : Nat → Int} {k : Nat} (h : ∀ i, i < k → c i = 0) (hk : c k ≠ 0) : ∀ {n : Nat}, k < n → lcode c n = c k
  | 0, hn => absurd hn (Nat.not_lt_zero k)
  | n + 1, hn => by
    unfold lcode
    rcases Nat.lt_or_ge k n with h1 | h1
    · rw [lcode_first h hk h1, if_pos hk]
    · have e : n = k := by omega
      subst e
      rw [lcode_zero h, if_neg (by decide)]
theorem bpay_pos {l : List Int} {a : Nat} (h : bcode l a 1 6 = 0) : 0 < (bpay l a 1 6).length := by
  unfold bpay
  rw [if_pos h, List.length_drop]
  unfold bcode at h
  by_cases h1 : code l a ≠ 0
  · rw [if_pos h1] at h; exact absurd h h1
  · rw [if_neg h1] at h
    by_cases h2 : kindL l a ≠ 1
    · rw [if_pos h2] at h; cases h
    · rw [if_neg h2] at h
      by_cases h3 : (bodyL l a).length ≤ 8 * 6
      · rw [if_pos h3] at h; cases h
      · omega
theorem hcode_fine {h : HD} {l : List Int} {n a : Nat} (hz : hcode9 h l n a = 0) : bcode l a 1 6 = 0 := by
  unfold hcode9 at hz
  by_cases h1 : dcode h l n a ≠ 0
  · rw [if_pos h1] at hz; exact absurd hz h1
  · have h2 : dcode h l n a = 0 := by omega
    unfold dcode at h2
    by_cases h3 : h.N 0 ≤ (a : Int) ∧ a < n
    · rw [if_pos h3] at h2; exact h2
    · rw [if_neg h3] at h2; cases h2
/-- Payloads as pairs. -/
def prsL (P : Nat → List Int) (k : Nat) : List PR := (List.range k).map fun i => (splitN (P i), splitV (P i))
theorem prsL_succ (P : Nat → List Int) (k : Nat) : prsL P (k + 1) = prsL P k ++ [(splitN (P k), splitV (P k))] := by simp [prsL, List.range_succ]
theorem prsL_len (P : Nat → List Int) (k : Nat) : (prsL P k).length = k := by simp [prsL]
/-- The code of an item, of an entry's fields. -/
def icode (h : HD) (l : List Int) (n : Nat) (f g : Nat → Int) (i : Nat) : Int :=
  if hcode9 h l n (f i).toNat ≠ 0 then hcode9 h l n (f i).toNat else if bnum l (f i).toNat 1 6 0 = g i then splitE (bpay l (f i).toNat 1 6) else 9

/-! ## in memory -/
theorem OwnE.farE {E : TypeId} {size : Nat} {w : World} {base : Nat} {A : Option Addr} {n c : Nat} {xs : List Value} (h : OwnE E size w base A n c xs) {a : Addr} (ha : a.block < base) (u : Value) : OwnE E size (w.setCell a u) base A n c xs :=
  ⟨by simpa using h.1, ownsRow_setCell_below h.2 ha u⟩
structure Row4 where
  b : Nat
  off : Nat
  m : Nat
  c : Nat
def Row4.v (x : Row4) : Value := .slice (some ⟨x.b, x.off, none⟩) x.m x.c
structure PayAt (w : World) (rows : List Row4) (P : Nat → List Int) : Prop where
  at_ : ∀ r (h : r < rows.length), Bytes w (some ⟨rows[r].b, rows[r].off, none⟩) (P r) ∧ (P r).length = rows[r].m ∧ rows[r].m ≤ rows[r].c ∧ rows[r].c ≤ maxLen ∧ rows[r].m ≤ 800000
theorem bytes_keptB {w w' : World} {A : Option Addr} {l : List Int} (h : Bytes w A l) (hs : w.heap.size ≤ w'.heap.size) (hk : ∀ b off, A = some ⟨b, off, none⟩ → b < w.heap.size → w'.heap[b]? = w.heap[b]?) : Bytes w' A l := ⟨h.1, fun i hi => by
  obtain ⟨b, off, e, hb, hc⟩ := h.2 i hi
  exact ⟨b, off, e, Nat.lt_of_lt_of_le hb hs, (World.cell?_of_block (a := ⟨b, off + i, none⟩) (hk b off e hb)).trans hc⟩⟩
/-- A record that is gathered: so many fields, so many payloads. -/
structure LR (w4 wr : World) (s6 : Nat) (s r m : Int) (K : Nat → Int) (P : Nat → List Int) (F : Option Addr) (cF : Nat) (PA : Option Addr) (cP : Nat) (rows : List Row4) (kf kp : Nat) : Prop where
  old : Below s6 w4 wr
  rc : Blk wr s6 (recL s r m K (.slice F kf cF)) 53
  fld : OwnP wr (s6 + 1) F kf cF (prsL P kf)
  own : OwnE 25 1 wr (s6 + 1) PA kp cP (rows.map Row4.v)
  pay : PayAt wr rows P
  far : ∀ x ∈ rows, s6 < x.b ∧ x.b < wr.heap.size ∧ ownB F ≠ some x.b ∧ ownB PA ≠ some x.b
  apart : ∀ g, ownB F = some g → ownB PA ≠ some g
section
variable {w4 wr : World} {s6 : Nat} {s r m : Int} {K : Nat → Int} {P : Nat → List Int} {F : Option Addr} {cF : Nat} {PA : Option Addr} {cP : Nat} {rows : List Row4} {kf kp : Nat}
theorem LR.lt (h : LR w4 wr s6 s r m K P F cF PA cP rows kf kp) : s6 < wr.heap.size := h.rc.lt
theorem LR.below {w' : World} (h : LR w4 wr s6 s r m K P F cF PA cP rows kf kp) (hb : Below wr.heap.size wr w') : LR w4 w' s6 s r m K P F cF PA cP rows kf kp :=
  { old := h.old.trans (hb.mono (Nat.le_of_lt h.lt))
    rc := h.rc.below hb h.lt
    fld := h.fld.kept hb (Nat.le_refl _)
    own := h.own.kept hb (Nat.le_refl _)
    pay := ⟨fun r hr => ⟨(h.pay.at_ r hr).1.below hb (Nat.le_refl _), (h.pay.at_ r hr).2⟩⟩
    far := fun x hx => ⟨(h.far x hx).1, Nat.lt_of_lt_of_le (h.far x hx).2.1 hb.size, (h.far x hx).2.2⟩
    apart := h.apart }
theorem LR.new (h4 : w4.heap.size = s6) (hw : wr = w4.alloc (.cells (recL s r m K (.slice none 0 0)).toArray 53)) : LR w4 wr s6 s r m K P none 0 none 0 [] 0 0 := by
  subst hw
  subst h4
  exact { old := (Below.refl _ _).alloc (Nat.le_refl _) _
          rc := Blk.new w4 _ _
          fld := OwnP.nil _ _ (by simp)
          own := OwnE.nil _ _ (by simp)
          pay := ⟨fun r hr => absurd hr (Nat.not_lt_zero r)⟩
          far := fun x hx => by cases hx
          apart := fun g hg => by cases hg }
/-- One field more. -/
theorem LR.field {w' : World} {F' : Option Addr} {cF' : Nat} (h : LR w4 wr s6 s r m K P F cF PA cP rows kf kp) (hok : okP (splitN (P kf), splitV (P kf)))
    (ho : OwnE 220 2 w' (s6 + 1) F' (kf + 1) cF' (cellsP (prsL P kf) ++ [.string (T (splitN (P kf))), .string (T (splitV (P kf)))])) (hg : wr.grownBy w' (ownB F)) (hat : ownB F' = ownB F ∨ ownB F' = some wr.heap.size) :
    LR w4 (w'.setCell ⟨s6, 19, none⟩ (.slice F' (kf + 1) cF')) s6 s r m K P F' cF' PA cP rows (kf + 1) kp := by
  have hlt := h.lt
  have hbF : ∀ g, ownB F = some g → s6 + 1 ≤ g ∧ g < wr.heap.size := OwnE.ltB h.fld.2.2
  have hne : ownB F ≠ some s6 := fun e => by have := (hbF s6 e).1; omega
  have hb1 : Below s6 wr w' := below_grown hg (Nat.le_of_lt hlt) (fun k hk => by have := (hbF k hk).1; omega)
  have hr1 : Blk w' s6 (recL s r m K (.slice F kf cF)) 53 := (hg.block s6 hlt (fun e => hne e.symm)).trans h.rc
  have hkp : ∀ b, b < wr.heap.size → ownB F ≠ some b → b ≠ s6 → (w'.setCell ⟨s6, 19, none⟩ (.slice F' (kf + 1) cF')).heap[b]? = wr.heap[b]? := fun b hb h1 h2 => (Below.heap_setCell w' ⟨s6, 19, none⟩ _ b h2).trans (hg.block b hb (fun e => h1 e.symm))
  have hsz : wr.heap.size ≤ (w'.setCell ⟨s6, 19, none⟩ (.slice F' (kf + 1) cF')).heap.size := by simpa using hg.size
  have hF' : ∀ b, b < wr.heap.size → ownB F ≠ some b → ownB F' ≠ some b := fun b hb h1 h2 => by
    rcases hat with e | e
    · exact h1 (e ▸ h2)
    · rw [e] at h2; injection h2 with h2; omega
  refine { old := (h.old.trans hb1).setCell (p := ⟨s6, 19, none⟩) (Nat.le_refl _) _, rc := hr1.set_ 19 _, fld := ?_, own := ?_, pay := ?_, far := ?_, apart := ?_ }
  · refine ⟨?_, by rw [prsL_len], ?_⟩
    · rw [prsL_succ]
      intro p hp
      rcases List.mem_append.1 hp with h1 | h1
      · exact h.fld.1 p h1
      · rw [List.mem_singleton.1 h1]; exact hok
    · rw [prsL_succ, cellsP_app]
      exact OwnE.farE ho (show (⟨s6, 19, none⟩ : Addr).block < s6 + 1 from Nat.lt_succ_self _) _
  · exact OwnE.farE (OwnE.keptG h.own hg (fun g hg2 e => h.apart g e hg2)) (show (⟨s6, 19, none⟩ : Addr).block < s6 + 1 from Nat.lt_succ_self _) _
  · refine ⟨fun r hr => ⟨bytes_keptB (h.pay.at_ r hr).1 hsz (fun b off e hb => ?_), (h.pay.at_ r hr).2⟩⟩
    have hf := h.far _ (List.getElem_mem hr)
    injection e with e
    injection e with e1 e2
    subst e1
    exact hkp _ hb hf.2.2.1 (by omega)
  · exact fun x hx => ⟨(h.far x hx).1, Nat.lt_of_lt_of_le (h.far x hx).2.1 hsz, hF' _ (h.far x hx).2.1 (h.far x hx).2.2.1, (h.far x hx).2.2.2⟩
  · intro g hg2 hp
    have hb := (OwnE.ltB h.own g hp).2
    exact hF' g hb (fun e => h.apart g e hp) hg2
/-- One payload more. -/
theorem LR.payload {w' : World} {PA' : Option Addr} {cP' : Nat} (h : LR w4 wr s6 s r m K P F cF PA cP rows kf kp) (x : Row4) (hlen : rows.length = kp)
    (hx : Bytes wr (some ⟨x.b, x.off, none⟩) (P kp) ∧ (P kp).length = x.m ∧ x.m ≤ x.c ∧ x.c ≤ maxLen ∧ x.m ≤ 800000) (hfar : s6 < x.b ∧ x.b < wr.heap.size ∧ ownB F ≠ some x.b ∧ ownB PA ≠ some x.b)
    (ho : OwnE 25 1 w' (s6 + 1) PA' (kp + 1) cP' (rows.map Row4.v ++ [x.v])) (hg : wr.grownBy w' (ownB PA)) (hat : ownB PA' = ownB PA ∨ ownB PA' = some wr.heap.size) :
    LR w4 w' s6 s r m K P F cF PA' cP' (rows ++ [x]) kf (kp + 1) := by
  have hlt := h.lt
  have hbP : ∀ g, ownB PA = some g → s6 + 1 ≤ g ∧ g < wr.heap.size := OwnE.ltB h.own
  have hne : ownB PA ≠ some s6 := fun e => by have := (hbP s6 e).1; omega
  have hb1 : Below s6 wr w' := below_grown hg (Nat.le_of_lt hlt) (fun k hk => by have := (hbP k hk).1; omega)
  have hP' : ∀ b, b < wr.heap.size → ownB PA ≠ some b → ownB PA' ≠ some b := fun b hb h1 h2 => by
    rcases hat with e | e
    · exact h1 (e ▸ h2)
    · rw [e] at h2; injection h2 with h2; omega
  refine { old := h.old.trans hb1, rc := (hg.block s6 hlt (fun e => hne e.symm)).trans h.rc, fld := ⟨h.fld.1, h.fld.2.1, OwnE.keptG h.fld.2.2 hg (fun g hg2 e => h.apart g hg2 e)⟩, own := by rw [List.map_append]; exact ho, pay := ?_, far := ?_, apart := ?_ }
  · refine ⟨fun r hr => ?_⟩
    rcases Nat.lt_or_ge r rows.length with h1 | h1
    · rw [List.getElem_append_left h1]
      have hf := h.far _ (List.getElem_mem h1)
      refine ⟨bytes_keptB (h.pay.at_ r h1).1 hg.size (fun b off e hb => ?_), (h.pay.at_ r h1).2⟩
      injection e with e
      injection e with e1 e2
      subst e1
      exact hg.block _ hb (fun e => hf.2.2.2 e.symm)
    · have e1 : r = kp := by rw [List.length_append, List.length_singleton] at hr; omega
      subst e1
      have e2 : (rows ++ [x])[r] = x := by rw [List.getElem_append_right h1]; simp
      rw [e2]
      refine ⟨bytes_keptB hx.1 hg.size (fun b off e hb => ?_), hx.2⟩
      injection e with e
      injection e with e1 e2
      subst e1
      exact hg.block _ hb (fun e => hfar.2.2.2 e.symm)
  · intro y hy
    rcases List.mem_append.1 hy with h1 | h1
    · have hf := h.far y h1
      exact ⟨hf.1, Nat.lt_of_lt_of_le hf.2.1 hg.size, hf.2.2.1, hP' _ hf.2.1 hf.2.2.2⟩
    · rw [List.mem_singleton.1 h1]
      exact ⟨hfar.1, Nat.lt_of_lt_of_le hfar.2.1 hg.size, hfar.2.2.1, hP' _ hfar.2.1 hfar.2.2.2⟩
  · intro g hg2 hp
    have hb := (OwnE.ltB h.fld.2.2 g hg2).2
    exact hP' g hb (h.apart g hg2) hp
theorem LR.inRows (h : LR w4 wr s6 s r m K P F cF PA cP rows kf kp) (hlen : rows.length = kp) : ∃ (A : Nat → Option Addr) (L C : Nat → Nat), InRows wr PA kp A L C P ∧ ∀ r, r < kp → L r ≤ 800000 := by
  refine ⟨fun r => (rows[r]?).bind fun x => some ⟨x.b, x.off, none⟩, fun r => ((rows[r]?).map Row4.m).getD 0, fun r => ((rows[r]?).map Row4.c).getD 0, fun r hr => ?_, fun r hr => ?_⟩
  · have hr' : r < rows.length := by omega
    obtain ⟨p1, p2, p3, p4, p5⟩ := h.pay.at_ r hr'
    have hx : (rows.map Row4.v)[r]? = some rows[r].v := by rw [List.getElem?_map, List.getElem?_eq_getElem hr']; rfl
    obtain ⟨g, e, hb, hlt, hc⟩ := h.own.cell (i := r) (by rw [List.length_map]; exact hr')
    refine ⟨g, 0, e, hlt, ?_, ?_, ?_, ?_, ?_⟩
    · rw [Nat.zero_add, hc, hx]
      simp only [List.getElem?_eq_getElem hr', Option.bind_some, Option.map_some, Option.getD_some]
      rfl
    all_goals (simp only [List.getElem?_eq_getElem hr', Option.bind_some, Option.map_some, Option.getD_some]; assumption)
  · have hr' : r < rows.length := by omega
    simp only [List.getElem?_eq_getElem hr', Option.map_some, Option.getD_some]
    exact (h.pay.at_ r hr').2.2.2.2
end
/-! ## a pair that was split -/
attribute [local irreducible] wpList Code.wp
theorem gotp_no (x y : ByteArray) (cd : Int) (h0 : cd ≠ 0) (w : World) : Calls Tryz.prog 133 #[.agg #[.string x, .string y], .int .i64 cd] w fun e w' => e = .panicked [haltE cd] ∧ Below w.heap.size w w' := by
  have HN := Lib.hid (need_no cd)
  have d0 : (cd == 0) = false := by simpa using h0
  go_enter Tryz.func133, Tryz.ntmps133
  go_wp2_with (first
    | (go_at_call 103; (refine (HN.out _).mono ?_); rintro e w1 ⟨rfl, rfl⟩)
    | fail)
  exact ⟨rfl, rfl, ((Below.refl w.heap.size w).alloc (Nat.le_refl _) _).alloc (by simp) _⟩
theorem gotp_yes (x y : ByteArray) (w : World) : Calls Tryz.prog 133 #[.agg #[.string x, .string y], .int .i64 0] w fun e w' => e = .returned (.agg #[.string x, .string y]) ∧ Below w.heap.size w w' := by
  have HN := Lib.hid (need_yes 0)
  go_enter Tryz.func133, Tryz.ntmps133
  go_wp2_with (first
    | (go_at_call 103; (refine (HN.out _).mono ?_); rintro e w1 ⟨rfl, rfl⟩)
    | fail)
  refine bodyPost_ret (v := .agg #[.string x, .string y]) (by exact results_cell_row Tryz.results133 _ _ (w.heap.size + 1) 220 _ (0, 0) _ rfl (heap_alloc2_new w _ _) Tryz.underlying220 rfl (by kernel_rfl)) rfl ?_
  exact ⟨rfl, ((Below.refl w.heap.size w).alloc (Nat.le_refl _) _).alloc (by simp) _⟩
end Go.Proofs.YtldkmobncmfodaaGreat.Rm
