/-
  Texts beneath the proof, one behind the other.
-/
import Derived.Recover
import Derived.Defers
import Derived.BigRegion
import Derived.Test.YtkdbgilnehjpmaaGreatQl26
/-
  The program's View.Data, told.
-/
namespace Go.Proofs.YtkdbgilnehjpmaaGreat.Re
open Go.ChangeShapes Go.WideShapes Go.ChangeAt Go.RowKit
open Bytes8 Blk8 Own8 OwnM OwnE LeA LeNum LeP Rows2 Ob Oc Od Ga Gb Gc Gd Gf Gi Gj Oi Oj Ok7 Ra Rc Rd
set_option linter.unusedVariables false
set_option linter.unusedSimpArgs false
set_option maxRecDepth 100000
/-- What reading an object Data at a place tells inside: it halts with a code, or tells it. -/
def ReadD (B : Nat) (l : List Int) (a : Nat) (cd : Int) (e : Ending) (w' : World) : Prop :=
  (cd ≠ 0 ∧ e = .panicked [haltE cd]) ∨ (cd = 0 ∧ ∃ A' m' c', e = .returned (dataV (bnum l a 1 6 0) (bnum l a 1 6 1) (bnum l a 1 6 2) (bnum l a 1 6 3) (bnum l a 1 6 4) (bnum l a 1 6 5) A' m' c') ∧ Bytes w' A' (bpay l a 1 6) ∧ (bpay l a 1 6).length = m' ∧ Cap B A' m' c')
theorem vdata_any {gv : Nat} {h : HD} {A : Option Addr} {n c : Nat} {l : List Int} (a : Nat) (w : World) (v : ViewAt w gv h A n c l) (hcm : c ≤ maxLen) :
    Calls Tryz.prog 101 #[.pointer (some ⟨gv, 0, none⟩), .int .u64 (a : Int)] w fun e w' => Below w.heap.size w w' ∧ ReadD w.heap.size l a (dcode h l n a) e w' := by
  unfold ReadD dcode
  by_cases h1 : h.N 0 ≤ (a : Int) ∧ a < n
  · rw [if_pos h1]
    exact vdata_in a w v hcm h1
  · rw [if_neg h1]
    refine (vdata_out a w v h1).mono ?_
    rintro e w' ⟨rfl, hb⟩
    exact ⟨hb, .inl ⟨by decide, rfl⟩⟩
attribute [local irreducible] wpList Code.wp
set_option maxHeartbeats 4000000 in
theorem vdata_cl {gv : Nat} {h : HD} {A : Option Addr} {n c : Nat} {l : List Int} (a : Nat) (g2 g3 : Nat) (w : World) (v : ViewAt w gv h A n c l) (hcm : c ≤ maxLen) (H2 : Blk w g2 [.pointer (some ⟨gv, 0, none⟩)] 28) (H3 : Blk w g3 [.int .u64 (a : Int)] 23) :
    Calls Tryz.prog 100 #[.pointer (some ⟨g2, 0, none⟩), .pointer (some ⟨g3, 0, none⟩)] w fun e w' => Below w.heap.size w w' ∧ ReadD w.heap.size l a (dcode h l n a) e w' := by
  have b1 := Lib.hid ((Below.refl w.heap.size w).alloc (Nat.le_refl _) (.cells dz 92))
  have v1 := v.below b1.out
  have c2 := (H2.alloc (.cells dz 92)).cell (i := 0) rfl
  have c3 := (H3.alloc (.cells dz 92)).cell (i := 0) rfl
  have HV := Lib.hid (vdata_any a _ v1 hcm)
  have Z1 := Lib.hid (heap_alloc_new w (.cells dz 92))
  have s1 := Lib.hid (show w.heap.size < (w.alloc (.cells dz 92)).heap.size by simp)
  unfold ReadD at HV ⊢
  generalize bnum l a 1 6 0 = x0 at *
  generalize bnum l a 1 6 1 = x1 at *
  generalize bnum l a 1 6 2 = x2 at *
  generalize bnum l a 1 6 3 = x3 at *
  generalize bnum l a 1 6 4 = x4 at *
  generalize bnum l a 1 6 5 = x5 at *
  generalize dcode h l n a = cd at *
  generalize bpay l a 1 6 = pl at *
  clear v v1 H2 H3
  by_cases hz : cd = 0
  · subst hz
    go_enter Tryz.func100, Tryz.ntmps100
    go_wp2_with (first
      | (go_at_call 101; (refine HV.out.mono ?_); rintro e w3 ⟨hb3, ⟨hne, _⟩ | ⟨_, A2, m2, c2', rfl, hy2, hl2, hm2⟩⟩; (exact absurd rfl hne); have B3 := Lib.hid (b1.out.trans (hb3.mono b1.out.size)); have HY3 := Lib.hid hy2; have Z3 := Lib.hid ((hb3.block _ s1.out).trans Z1.out); clear hb3 hy2)
      | ((with_reducible apply at_store (.tmp 2) (.tmp 5)); refine wpList_store_row rfl 92 (.tmp 2) (.tmp 5) rfl w.heap.size #[.int .u64 x0, .int .u64 x1, .int .u64 x2, .int .u64 x3, .int .u64 x4, .int .u64 x5, .slice A2 m2 c2'] rfl rfl 92 dz Z3.out (by kernel_rfl) rfl (by simp [Value.oneCell']) ?_)
      | fail)
    refine bodyPost_ret (v := dataV x0 x1 x2 x3 x4 x5 A2 m2 c2') (by exact results_cell_row Tryz.results100 _ _ w.heap.size 92 _ (0, 0) _ rfl (setRow_heap _ w.heap.size _ _ _ (0, 0) Z3.out) Tryz.underlying92 rfl (by kernel_rfl)) rfl ?_
    have b4 := below_setRow (B := w.heap.size) B3.out (Nat.le_refl _) #[.int .u64 x0, .int .u64 x1, .int .u64 x2, .int .u64 x3, .int .u64 x4, .int .u64 x5, .slice A2 m2 c2']
    exact ⟨b4, .inr ⟨trivial, A2, m2, c2', rfl, bytes_apart HY3.out Z3.out _, hl2, hm2.mono (Nat.le_of_lt s1.out)⟩⟩
  · go_enter Tryz.func100, Tryz.ntmps100
    go_wp2_with (first
      | (go_at_call 101; (refine HV.out.mono ?_); rintro e w3 ⟨hb3, ⟨_, rfl⟩ | ⟨he, _⟩⟩; rotate_left; (exact absurd he hz); have B3 := Lib.hid (b1.out.trans (hb3.mono b1.out.size)); clear hb3)
      | fail)
    exact ⟨rfl, B3.out, .inl ⟨hz, rfl⟩⟩
theorem bytes_code {w : World} {A : Option Addr} {l : List Int} {g : Nat} {x : Int} (h : Bytes w A l) (hg : Blk w g [.int .i64 x] 3) (v : Value) : Bytes (w.setCell ⟨g, 0, none⟩ v) A l := by
  refine ⟨h.1, fun i hi => ?_⟩
  obtain ⟨b, off, e, hb, hc⟩ := h.2 i hi
  have hne : b ≠ g := by
    intro he
    subst he
    have hgg : w.heap[b]? = some (.cells #[.int .i64 x] 3 (0, 0)) := hg
    rw [World.cell?, hgg] at hc
    dsimp only at hc
    generalize off + i = k at *
    rcases k with _ | k
    · simp at hc
    · simp at hc
  exact ⟨b, off, e, by simpa using hb, (World.cell?_of_block (Below.heap_setCell w ⟨g, 0, none⟩ v b hne)).trans hc⟩
theorem res_row_cell {P : Program} {fn : Func} {p q : Tmp} {ty ty2 : TypeId} (h : fn.results = #[.cell p ty, .cell q ty2]) (tmps : Array Value) (w : World) (g gq : Nat) (t : TypeId) (cs : Array Value) (fr : Nat × Nat) (d : TypeDesc) (c : Value)
    (hp : tmps.getD p undef = .pointer (some ⟨g, 0, none⟩)) (hq : tmps.getD q undef = .pointer (some ⟨gq, 0, none⟩)) (hg : w.heap[g]? = some (.cells cs t fr)) (hu : P.underlying ty = some d) (hd : (match d with | .struct _ | .array _ _ => true | _ => false) = true) (hi : (P.info? ty).map (·.size) = some cs.size)
    (hl : (loadVar ty2 ⟨gq, 0, none⟩).run P w = .ok c w) : (results fn tmps).run P w = .ok (.tuple #[.agg cs, c]) w := by
  have hp' : tmps[p]?.getD undef = .pointer (some ⟨g, 0, none⟩) := by simpa using hp
  have hq' : tmps[q]?.getD undef = .pointer (some ⟨gq, 0, none⟩) := by simpa using hq
  simp [results, h, hp', hq', asAddr, run_loadVar_row w g t ty cs fr d hg hu hd hi, hl]
theorem load_code (g : Nat) (x : Int) (w : World) (h : Blk w g [.int .i64 x] 3) : (loadVar 3 ⟨g, 0, none⟩).run Tryz.prog w = .ok (.int .i64 x) w := by
  have c0 := h.cell (i := 0) rfl
  simp [loadVar, go_sem, c0, Tryz.underlying3]
/-- What asking for an object Data tells outside: a code, or the object. -/
def AskD (B : Nat) (l : List Int) (a : Nat) (cd : Int) (e : Ending) (w' : World) : Prop :=
  (cd ≠ 0 ∧ e = .returned (.tuple #[.agg dz, .int .i64 cd])) ∨ (cd = 0 ∧ ∃ A' m' c', e = .returned (.tuple #[dataV (bnum l a 1 6 0) (bnum l a 1 6 1) (bnum l a 1 6 2) (bnum l a 1 6 3) (bnum l a 1 6 4) (bnum l a 1 6 5) A' m' c', .int .i64 0]) ∧ Bytes w' A' (bpay l a 1 6) ∧ (bpay l a 1 6).length = m' ∧ Cap B A' m' c')
set_option maxHeartbeats 4000000 in
theorem asked_any {gv : Nat} {h : HD} {A : Option Addr} {n c : Nat} {l : List Int} (a : Nat) (g2 g3 : Nat) (w : World) (v : ViewAt w gv h A n c l) (hcm : c ≤ maxLen) (H2 : Blk w g2 [.pointer (some ⟨gv, 0, none⟩)] 28) (H3 : Blk w g3 [.int .u64 (a : Int)] 23) :
    Calls Tryz.prog 99 #[.func (.func 100) #[] #[.pointer (some ⟨g2, 0, none⟩), .pointer (some ⟨g3, 0, none⟩)]] w fun e w' => Below w.heap.size w w' ∧ AskD w.heap.size l a (dcode h l n a) e w' := by
  have b1 := Lib.hid ((Below.refl w.heap.size w).alloc (Nat.le_refl _) (.cells dz 92))
  have b2 := Lib.hid (b1.out.alloc b1.out.size (.cells #[.int .i64 0] 3))
  have v2 := v.below b2.out
  have HV := Lib.hid (vdata_cl a g2 g3 _ v2 hcm (H2.below b2.out H2.lt) (H3.below b2.out H3.lt))
  have S1 : (w.alloc (.cells dz 92)).heap.size = w.heap.size + 1 := by simp only [World.alloc, Array.size_push]
  have S2 : ((w.alloc (.cells dz 92)).alloc (.cells #[.int .i64 0] 3)).heap.size = w.heap.size + 1 + 1 := by simp only [World.alloc, Array.size_push]
  have Z2 := Lib.hid ((Below.heap_alloc (w.alloc (.cells dz 92)) (.cells #[.int .i64 0] 3) w.heap.size (by rw [S1]; omega)).trans (heap_alloc_new w (.cells dz 92)))
  have R2 := Lib.hid (Blk.new_at (w.alloc (.cells dz 92)) [.int .i64 0] 3 _ S1)
  have hfn : ∀ (fn : Fn) (first cap : Array Value) (w : World), (Instr.makeFunc fn first cap).run Tryz.prog w = .ok (.func fn first cap) w := fun _ _ _ _ => rfl
  unfold ReadD at HV
  unfold AskD
  generalize bnum l a 1 6 0 = x0 at *
  generalize bnum l a 1 6 1 = x1 at *
  generalize bnum l a 1 6 2 = x2 at *
  generalize bnum l a 1 6 3 = x3 at *
  generalize bnum l a 1 6 4 = x4 at *
  generalize bnum l a 1 6 5 = x5 at *
  generalize dcode h l n a = cd at *
  generalize bpay l a 1 6 = pl at *
  clear v v2 H2 H3
  by_cases hz : cd = 0
  · subst hz
    go_enter_defers Tryz.func99, Tryz.ntmps99
    go_wp2_with (first
      | (go_at_call 100; (refine HV.out.mono ?_); rintro e w3 ⟨hb3, ⟨hne, _⟩ | ⟨_, A2, m2, c2', rfl, hy2, hl2, hm2⟩⟩; (exact absurd rfl hne); have B3 := Lib.hid (b2.out.trans (hb3.mono b2.out.size)); have HY3 := Lib.hid hy2; have Z3 := Lib.hid ((hb3.block _ (by rw [S2]; omega)).trans Z2.out); have R3 := Lib.hid (R2.out.below hb3 (by rw [S2]; omega)); clear hb3 hy2)
      | ((with_reducible apply at_store (.tmp 2) (.tmp 6)); refine wpList_store_row rfl 92 (.tmp 2) (.tmp 6) rfl w.heap.size #[.int .u64 x0, .int .u64 x1, .int .u64 x2, .int .u64 x3, .int .u64 x4, .int .u64 x5, .slice A2 m2 c2'] rfl rfl 92 dz Z3.out (by kernel_rfl) rfl (by simp [Value.oneCell']) ?_; have R4 := Lib.hid (show Blk (w3.setRow w.heap.size #[.int .u64 x0, .int .u64 x1, .int .u64 x2, .int .u64 x3, .int .u64 x4, .int .u64 x5, .slice A2 m2 c2']) (w.heap.size + 1) [.int .i64 0] 3 from (setRow_other w3 w.heap.size (w.heap.size + 1) _ (Nat.succ_ne_self _)).trans R3.out); have c4 := R4.out.cell (i := 0) rfl; have z4 := R4.out.frozen 0)
      | fail)
    refine leaves_cons (f := 165) (args := #[.pointer (some ⟨w.heap.size + 1, 0, none⟩)]) (by simp) (by simp [go_sem]) ?_
    refine (caught_idle _ _).mono ?_
    rintro e u' w'' ⟨rfl, rfl, rfl⟩
    have b4 := (below_setRow (B := w.heap.size) B3.out (Nat.le_refl _) #[.int .u64 x0, .int .u64 x1, .int .u64 x2, .int .u64 x3, .int .u64 x4, .int .u64 x5, .slice A2 m2 c2']).setCell (p := ⟨w.heap.size + 1, 0, none⟩) (Nat.le_succ _) (.int .i64 0)
    exact ⟨.tuple #[dataV x0 x1 x2 x3 x4 x5 A2 m2 c2', .int .i64 0], (by exact res_row_cell Tryz.results99 _ _ w.heap.size (w.heap.size + 1) 92 _ (0, 0) _ _ rfl rfl ((Below.heap_setCell _ _ _ _ (Nat.succ_ne_self _).symm).trans (setRow_heap _ w.heap.size _ _ _ (0, 0) Z3.out)) Tryz.underlying92 rfl (by kernel_rfl) (load_code _ _ _ (R4.out.set_ 0 _))), b4, .inr ⟨trivial, A2, m2, c2', rfl, bytes_code (bytes_apart HY3.out Z3.out _) R4.out _, hl2, hm2.mono b2.out.size⟩⟩
  · go_enter_defers Tryz.func99, Tryz.ntmps99
    go_wp2_with (first
      | (go_at_call 100; (refine HV.out.mono ?_); rintro e w3 ⟨hb3, ⟨_, rfl⟩ | ⟨he, _⟩⟩; rotate_left; (exact absurd he hz); have B3 := Lib.hid (b2.out.trans (hb3.mono b2.out.size)); have Z3 := Lib.hid ((hb3.block _ (by rw [S2]; omega)).trans Z2.out); have R3 := Lib.hid (R2.out.below hb3 (by rw [S2]; omega)); clear hb3)
      | fail)
    refine leaves_cons (f := 165) (args := #[.pointer (some ⟨w.heap.size + 1, 0, none⟩)]) (by simp) (by simp [go_sem]) ?_
    refine (caught_halt _ cd 0 [] _ R3.out).mono ?_
    rintro e u' w'' ⟨rfl, rfl, rfl⟩
    have b4 := B3.out.setCell (p := ⟨w.heap.size + 1, 0, none⟩) (Nat.le_succ _) (.int .i64 cd)
    exact ⟨.tuple #[.agg dz, .int .i64 cd], (by exact res_row_cell Tryz.results99 _ _ w.heap.size (w.heap.size + 1) 92 _ (0, 0) _ _ rfl rfl ((Below.heap_setCell _ _ _ _ (Nat.succ_ne_self _).symm).trans Z3.out) Tryz.underlying92 rfl (by kernel_rfl) (load_code _ _ _ (R3.out.set_ 0 _))), b4, .inl ⟨hz, rfl⟩⟩
theorem dataAsk {gv : Nat} {h : HD} {A : Option Addr} {n c : Nat} {l : List Int} (a : Nat) (w : World) (v : ViewAt w gv h A n c l) (hcm : c ≤ maxLen) :
    Calls Tryz.prog 44 #[.pointer (some ⟨gv, 0, none⟩), .int .u64 (a : Int)] w fun e w' => Below w.heap.size w w' ∧ AskD w.heap.size l a (dcode h l n a) e w' := by
  have b1 := Lib.hid ((Below.refl w.heap.size w).alloc (Nat.le_refl _) (.cells #[.pointer (some ⟨gv, 0, none⟩)] 28))
  have b2 := Lib.hid (b1.out.alloc b1.out.size (.cells #[.int .u64 (a : Int)] 23))
  have b3 := Lib.hid (b2.out.alloc b2.out.size (.cells dz 92))
  have v3 := v.below b3.out
  have S1 : (w.alloc (.cells #[.pointer (some ⟨gv, 0, none⟩)] 28)).heap.size = w.heap.size + 1 := by simp only [World.alloc, Array.size_push]
  have S2 : ((w.alloc (.cells #[.pointer (some ⟨gv, 0, none⟩)] 28)).alloc (.cells #[.int .u64 (a : Int)] 23)).heap.size = w.heap.size + 1 + 1 := by simp only [World.alloc, Array.size_push]
  have S3 : (((w.alloc (.cells #[.pointer (some ⟨gv, 0, none⟩)] 28)).alloc (.cells #[.int .u64 (a : Int)] 23)).alloc (.cells dz 92)).heap.size = w.heap.size + 1 + 1 + 1 := by simp only [World.alloc, Array.size_push]
  have K1 := ((Blk.new w [.pointer (some ⟨gv, 0, none⟩)] 28).alloc (.cells #[.int .u64 (a : Int)] 23)).alloc (.cells dz 92)
  have K2 := (Blk.new_at (w.alloc (.cells #[.pointer (some ⟨gv, 0, none⟩)] 28)) [.int .u64 (a : Int)] 23 _ S1).alloc (.cells dz 92)
  have HV := Lib.hid (asked_any a w.heap.size (w.heap.size + 1) _ v3 hcm K1 K2)
  have Z3 := Lib.hid (show (((w.alloc (.cells #[.pointer (some ⟨gv, 0, none⟩)] 28)).alloc (.cells #[.int .u64 (a : Int)] 23)).alloc (.cells dz 92)).heap[w.heap.size + 1 + 1]? = some (.cells dz 92 (0, 0)) from S2 ▸ heap_alloc_new _ (.cells dz 92))
  have hfn : ∀ (fn : Fn) (first cap : Array Value) (w : World), (Instr.makeFunc fn first cap).run Tryz.prog w = .ok (.func fn first cap) w := fun _ _ _ _ => rfl
  unfold AskD at HV ⊢
  generalize bnum l a 1 6 0 = x0 at *
  generalize bnum l a 1 6 1 = x1 at *
  generalize bnum l a 1 6 2 = x2 at *
  generalize bnum l a 1 6 3 = x3 at *
  generalize bnum l a 1 6 4 = x4 at *
  generalize bnum l a 1 6 5 = x5 at *
  generalize dcode h l n a = cd at *
  generalize bpay l a 1 6 = pl at *
  clear v v3 K1 K2
  by_cases hz : cd = 0
  · subst hz
    go_enter Tryz.func44, Tryz.ntmps44
    go_wp2_with (first
      | (go_at_call 99; (refine HV.out.mono ?_); rintro e w4 ⟨hb4, ⟨hne, _⟩ | ⟨_, A2, m2, c2', rfl, hy2, hl2, hm2⟩⟩; (exact absurd rfl hne); have B4 := Lib.hid (b3.out.trans (hb4.mono b3.out.size)); have HY4 := Lib.hid hy2; have Z4 := Lib.hid ((hb4.block _ (by rw [S3]; omega)).trans Z3.out); clear hb4 hy2)
      | ((with_reducible apply at_store (.tmp 4) (.tmp 8)); refine wpList_store_row rfl 92 (.tmp 4) (.tmp 8) rfl (w.heap.size + 1 + 1) #[.int .u64 x0, .int .u64 x1, .int .u64 x2, .int .u64 x3, .int .u64 x4, .int .u64 x5, .slice A2 m2 c2'] rfl rfl 92 dz Z4.out (by kernel_rfl) rfl (by simp [Value.oneCell']) ?_)
      | fail)
    refine bodyPost_ret (v := .tuple #[dataV x0 x1 x2 x3 x4 x5 A2 m2 c2', .int .i64 0]) (by exact res_rowG Tryz.results44 _ _ (w.heap.size + 1 + 1) 92 _ (0, 0) _ _ rfl rfl (setRow_heap _ (w.heap.size + 1 + 1) _ _ _ (0, 0) Z4.out) Tryz.underlying92 rfl (by kernel_rfl)) rfl ?_
    have b5 := below_setRow (B := w.heap.size) (g := w.heap.size + 1 + 1) B4.out (by omega) #[.int .u64 x0, .int .u64 x1, .int .u64 x2, .int .u64 x3, .int .u64 x4, .int .u64 x5, .slice A2 m2 c2']
    exact ⟨b5, .inr ⟨trivial, A2, m2, c2', rfl, bytes_apart HY4.out Z4.out _, hl2, hm2.mono b3.out.size⟩⟩
  · go_enter Tryz.func44, Tryz.ntmps44
    go_wp2_with (first
      | (go_at_call 99; (refine HV.out.mono ?_); rintro e w4 ⟨hb4, ⟨_, rfl⟩ | ⟨he, _⟩⟩; rotate_left; (exact absurd he hz); have B4 := Lib.hid (b3.out.trans (hb4.mono b3.out.size)); have Z4 := Lib.hid ((hb4.block _ (by rw [S3]; omega)).trans Z3.out); clear hb4)
      | ((with_reducible apply at_store (.tmp 4) (.tmp 8)); refine wpList_store_row rfl 92 (.tmp 4) (.tmp 8) rfl (w.heap.size + 1 + 1) dz rfl rfl 92 dz Z4.out (by kernel_rfl) rfl (by simp [Value.oneCell']) ?_)
      | fail)
    refine bodyPost_ret (v := .tuple #[.agg dz, .int .i64 cd]) (by exact res_rowG Tryz.results44 _ _ (w.heap.size + 1 + 1) 92 _ (0, 0) _ _ rfl rfl (setRow_heap _ (w.heap.size + 1 + 1) _ _ _ (0, 0) Z4.out) Tryz.underlying92 rfl (by kernel_rfl)) rfl ?_
    have b5 := below_setRow (B := w.heap.size) (g := w.heap.size + 1 + 1) B4.out (by omega) dz
    exact ⟨b5, .inl ⟨hz, rfl⟩⟩
end Go.Proofs.YtkdbgilnehjpmaaGreat.Re
/-
  The program's Open of any bytes.
-/
namespace Go.Proofs.YtkdbgilnehjpmaaGreat.Rp
open Go.ChangeShapes Go.WideShapes Go.ChangeAt Go.RowKit
open Bytes8 Blk8 Own8 OwnM OwnE LeA LeNum LeP Rows2 Ob Oc Od Ga Gb Gc Gd Gf Gi Gj Gk Gl Gm Oi Oj Ok7 Ns Nt Ra Rc
open Go1 (hcode rhd hread_any HTold magicB)
set_option linter.unusedVariables false
set_option linter.unusedSimpArgs false
set_option maxRecDepth 100000
/-- A view of bytes that are a journal. -/
def Opened (l : List Int) (E : Nat) (w : World) (e : Ending) (w' : World) : Prop := ∃ (gv : Nat) (A2 : Option Addr) (c2 : Nat), e = .returned (.tuple #[.pointer (some ⟨gv, 0, none⟩), .int .i64 0]) ∧ w.heap.size ≤ gv ∧ ViewAt w' gv (hdOf l) A2 E c2 (l.take E) ∧ c2 ≤ maxLen ∧ Below w.heap.size w w'
/-- Where it ends. -/
theorem fine_end {l : List Int} {n : Nat} (hz : hcode l n = 0) (ok : (hdOf l).Ok 21) : ∃ E : Nat, endV (hdOf l) = (E : Int) ∧ endB (hdOf l) = true ∧ E ≤ n := by
  unfold hcode at hz
  by_cases h1 : n < 272
  · rw [if_pos h1] at hz; cases hz
  · rw [if_neg h1] at hz
    by_cases h2 : magicB l = false
    · rw [if_pos h2] at hz; cases hz
    · rw [if_neg h2] at hz
      unfold fcode at hz
      by_cases h3 : flB (hdOf l).ic = true
      · rw [if_pos h3] at hz; cases hz
      · rw [if_neg h3] at hz
        by_cases h4 : stB (hdOf l).st = false
        · rw [if_pos h4] at hz; cases hz
        · rw [if_neg h4] at hz
          by_cases h5 : (hdOf l).N 0 < 272 ∨ (hdOf l).N 0 % 8 ≠ 0 ∨ (hdOf l).N 1 % 8 ≠ 0
          · rw [if_pos h5] at hz; cases hz
          · rw [if_neg h5] at hz
            by_cases h6 : endB (hdOf l) = false ∨ (n : Int) < endV (hdOf l)
            · rw [if_pos h6] at hz; cases hz
            · have hb := end_bd (hdOf l) ok
              refine ⟨(endV (hdOf l)).toNat, by omega, ?_, by omega⟩
              cases h7 : endB (hdOf l)
              · exact absurd (.inl h7) h6
              · rfl
attribute [local irreducible] HD.cells wpList Code.wp
attribute [local go_sem ↓] bldV_fold
set_option maxHeartbeats 4000000 in
theorem open_fine (l : List Int) (A : Option Addr) (n c : Nat) (w : World) (hb : Bytes w A l) (hL : l.length = n) (hn : n ≤ 800000) (hc : n ≤ c) (hz : hcode l n = 0) (E : Nat) (hE : endV (hdOf l) = (E : Int)) (hEB : endB (hdOf l) = true) (hEn : E ≤ n) (hok : (hdOf l).Ok 21) :
    Calls Tryz.prog 15 #[.slice A n c] w (Opened l E w) := by
  have R1 := Lib.hid (by have k := hread_any A l n c w hb hL (by omega) hc; rw [show rhd l n = hdOf l from if_pos hz, hz] at k; exact k)
  unfold HTold at R1
  have HE := Lib.hid fun (W : World) => end_any (hdOf l) hok W
  rw [hE, hEB] at HE
  have HB := Lib.hid hb
  unfold Opened
  have HLB := Lib.hid hL
  have HOk := Lib.hid hok
  have hTk : (l.take E).length = E := by rw [List.length_take]; omega
  generalize hdOf l = H at *
  clear hok hb hL hz hE hEB
  go_enter Tryz.func15, Tryz.ntmps15
  go_upto_region 4 with (first
    | (go_at_call 57; ((refine R1.out.mono ?_); rintro e w1 ⟨rfl, hb1⟩; have B1 := Lib.hid hb1; clear hb1))
    | ((with_reducible apply at_store (.tmp 4) (.tmp 11)); refine wpList_store_row rfl 59 (.tmp 4) (.tmp 11) rfl w1.heap.size ((H).cells 21).toArray rfl rfl 59 Tryz.zeroCells59 (heap_alloc_new w1 _) (cells_info _) zeros_size (HD.one _ 21) ?_)
    | fail)
  have R2 := Lib.hid (show Blk ((w1.alloc (.cells Tryz.zeroCells59 59)).setRow w1.heap.size ((H).cells 21).toArray) w1.heap.size ((H).cells 21) 59 from setRow_heap _ _ _ _ _ (0, 0) (heap_alloc_new w1 _))
  have B2 := Lib.hid (show Below w.heap.size w ((w1.alloc (.cells Tryz.zeroCells59 59)).setRow w1.heap.size ((H).cells 21).toArray) from below_setRow (B1.out.alloc B1.out.size _) B1.out.size _)
  generalize (w1.alloc (.cells Tryz.zeroCells59 59)).setRow w1.heap.size ((H).cells 21).toArray = w2 at *
  generalize w1.heap.size = s4 at *
  clear R1 B1
  go_upto_region 5 with (first
    | ((with_reducible apply at_slot 17); refine wpList_load_row rfl 59 (.tmp 4) rfl s4 rfl 59 ((H).cells 21).toArray (0, 0) _ R2.out Tryz.underlying59 rfl (cells_info _) ?_)
    | (go_at_call 58; ((refine (HE.out _).mono ?_); rintro e w4 ⟨rfl, hb4⟩; have B4 := Lib.hid (B2.out.trans (hb4.mono B2.out.size)); have R4 := Lib.hid (R2.out.below hb4 R2.out.lt); clear hb4))
    | fail)
  have D4 := Lib.hid (show Below w4.heap.size w4 w4.drew from (Below.refl w4.heap.size w4).drew)
  have HS := Lib.hid fun (W : World) (hW : Below w4.heap.size w4 W) => show (fun W : World => W.rangeAt s4 0 ((H).cells 21)) W from whole (R4.out.below hW R4.out.lt)
  have hcut := fun W : World => cut_hu A n c E (by omega) (by omega) W
  have HBw := Lib.hid (show Bytes w4.drew (cutA A c 0) (l.take E) from by
    have k := Bytes.cut ((HB.out.below B4.out (Nat.le_refl _)).below D4.out (Nat.le_refl _)) c 0 E (by rw [HLB.out]; exact hc)
    rw [List.drop_zero] at k
    exact k)
  have HCl := Lib.hid fun (W : World) (hW : Bytes W (cutA A c 0) (l.take E)) => clone_cap (cutA A c 0) (l.take E) E c W hW hTk (by omega)
  have hbld := fun (A' : Option Addr) (c' : Nat) (W : World) => build_view H A' E c' W
  clear HE R2 B2 HB HLB hc hEn hn
  refine wp_region_noPanic ?_
  refine wp_region_held_drew (S := fun W : World => W.rangeAt s4 0 ((H).cells 21)) (by kernel_rfl) (by exact (HS.out _ D4.out)) (fun hHeld => ?_)
  refine wpAnyH_take (i := 0) (oi := ⟨some 21, _, _, _, _, _⟩) rfl (by kernel_rfl) (by kernel_rfl) (by kernel_rfl) (fun _ _ _ h => h) (yieldsIf_load_mid (by rfl) _ _ rfl _ _ rfl _ _ (fun _ h => h) Tryz.underlying59 rfl (hcells_len _)) (by assumption) ?_
  try simp only [Act.put, List.setIfInBounds_toArray, List.set_cons_zero, List.set_cons_succ]
  refine wpAnyH_take (i := 1) (oi := ⟨some 22, _, _, _, _, _⟩) (v := ?_) rfl (by kernel_rfl) (by kernel_rfl) (by kernel_rfl) (fun _ _ _ h => h) (Or.inl ⟨by rfl, ?_⟩) (by assumption) ?_
  rotate_left
  · intro W hSw; go_simp; try (with_reducible rfl)
  try simp only [Act.put, List.setIfInBounds_toArray, List.set_cons_zero, List.set_cons_succ]
  refine wpAnyH_take (i := 2) (oi := ⟨some 23, _, _, _, _, _⟩) (v := ?_) rfl (by kernel_rfl) (by kernel_rfl) (by kernel_rfl) (fun _ _ _ h => h) (Or.inl ⟨by rfl, ?_⟩) (by assumption) ?_
  rotate_left
  · intro W hSw; go_simp; try (with_reducible rfl)
  try simp only [Act.put, List.setIfInBounds_toArray, List.set_cons_zero, List.set_cons_succ]
  refine wpAnyH_take (i := 3) (oi := ⟨some 24, _, _, _, _, _⟩) (v := ?_) rfl (by kernel_rfl) (by kernel_rfl) (by kernel_rfl) (fun _ _ _ h => h) (Or.inl ⟨by rfl, ?_⟩) (by assumption) ?_
  rotate_left
  · intro W hSw; go_simp; try (with_reducible rfl)
  try simp only [Act.put, List.setIfInBounds_toArray, List.set_cons_zero, List.set_cons_succ]
  refine wpAnyH_ready (rs := [4]) (by kernel_rfl) (by simp) ?_
  refine AllReadyH.cons (o := ⟨some 25, _, _, _, _, _⟩) rfl (fun K hK => ?_) AllReadyH.nil
  go_simp
  ((refine (HCl.out _ HBw.out).mono ?_); rintro e w5 ⟨A5, c5, rfl, hby5, hb5, hcp5⟩; have B5 := Lib.hid (D4.out.trans hb5); have HB5 := Lib.hid hby5; have HC5 := Lib.hid hcp5; clear hb5 hby5 hcp5)
  try go_wp2_with fail
  refine hK.out _ _ (by exact (HS.out _ B5.out)) (fun hHeld => ?_)
  clear hK K
  try simp only [Act.put, List.setIfInBounds_toArray, List.set_cons_zero, List.set_cons_succ]
  refine wpAnyH_take (i := 5) (oi := ⟨some 26, _, _, _, _, _⟩) (v := ?_) rfl (by kernel_rfl) (by kernel_rfl) (by kernel_rfl) (fun _ _ _ h => h) (Or.inl ⟨by rfl, ?_⟩) (by assumption) ?_
  rotate_left
  · intro W hSw; go_simp; try (with_reducible rfl)
  try simp only [Act.put, List.setIfInBounds_toArray, List.set_cons_zero, List.set_cons_succ]
  refine wpAnyH_ready (rs := [6]) (by kernel_rfl) (by simp) ?_
  refine AllReadyH.cons (o := ⟨some 27, _, _, _, _, _⟩) rfl (fun K hK => ?_) AllReadyH.nil
  go_simp
  skip
  try go_wp2_with fail
  refine hK.out _ _ (by exact (HS.out _ (B5.out.alloc B5.out.size _))) (fun hHeld => ?_)
  clear hK K
  try simp only [Act.put, List.setIfInBounds_toArray, List.set_cons_zero, List.set_cons_succ]
  refine wpAnyH_take (i := 7) (oi := ⟨some 2, _, _, _, _, _⟩) (v := ?_) rfl (by kernel_rfl) (by kernel_rfl) (by kernel_rfl) (fun _ _ _ h => h) (Or.inl ⟨by rfl, ?_⟩) (by assumption) ?_
  rotate_left
  · intro W hSw; go_simp; try (with_reducible rfl)
  try simp only [Act.put, List.setIfInBounds_toArray, List.set_cons_zero, List.set_cons_succ]
  refine wpAnyH_take (i := 8) (oi := ⟨some 3, _, _, _, _, _⟩) (v := ?_) rfl (by kernel_rfl) (by kernel_rfl) (by kernel_rfl) (fun _ _ _ h => h) (Or.inl ⟨by rfl, ?_⟩) (by assumption) ?_
  rotate_left
  · intro W hSw; go_simp; try (with_reducible rfl)
  try simp only [Act.put, List.setIfInBounds_toArray, List.set_cons_zero, List.set_cons_succ]
  refine wpAnyH_done (by kernel_rfl) ?_ _
  refine NoPanic.normal ?_
  go_wp2
  go_ret2
  exact ⟨_, A5, c5, rfl, Nat.le_trans B4.out.size B5.out.size, ⟨Blk.new w5 _ _, HB5.out.below ((Below.refl _ _).alloc (Nat.le_refl _) _) (Nat.le_refl _), hTk, HC5.out.2.1, HC5.out.1, HOk.out⟩, HC5.out.2.2.1, B4.out.trans ((B5.out.alloc B5.out.size _).mono B4.out.size)⟩
end Go.Proofs.YtkdbgilnehjpmaaGreat.Rp
/-
  The program's View.Field, told.
-/
namespace Go.Proofs.YtkdbgilnehjpmaaGreat.Rf
open Go.ChangeShapes Go.WideShapes Go.ChangeAt Go.RowKit
open Bytes8 Blk8 Own8 OwnM OwnE LeA LeNum LeP Rows2 Ob Oc Od Ga Gb Gc Gd Gf Gi Gj Oi Oj Ok7 Ra Rc Rd
open Re (bytes_code res_row_cell load_code)
set_option linter.unusedVariables false
set_option linter.unusedSimpArgs false
set_option maxRecDepth 100000
attribute [local irreducible] wpList Code.wp
end Go.Proofs.YtkdbgilnehjpmaaGreat.Rf
