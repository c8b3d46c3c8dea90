/-
  The document's ReadHead.
-/
import Derived.Test.YtekmbgcijkdkfaaGq
import Derived.Test.YtekmbgcijkdkfaaGe
namespace Go.Proofs.Ytekmbgcijkdkfaa.Gr
open Go.ChangeShapes Go.WideShapes Go.ChangeAt Go.RowKit
open Bytes8 Blk8 Own8 OwnM OwnE LeA LeNum LeB LeP RefA Ob Oc Od Ga Gb Gc Gd Gf Gi Gj Gl Gp Gq
open Gm (flB stB fcode end_bd)
open Go1 (magicB hcode bytes_take)
set_option linter.unusedVariables false
set_option linter.unusedSimpArgs false
set_option maxRecDepth 100000

theorem rzero_built : Try.prog.built 45 [] = some (hd0.cells 20).toArray := by kernel_rfl
theorem results_cell_tmp2 {fn : Func} {p u v : Tmp} {ty : TypeId} (h : fn.results = #[.cell p ty, .tmp u, .tmp v]) (tmps : Array Value) (P : Program) (w : World) :
    (results fn tmps).run P w = ((asAddr (tmps.getD p undef)).run P w).andThen fun a w => ((loadVar ty a).run P w).andThen fun x w => .ok (.tuple #[x, tmps.getD u undef, tmps.getD v undef]) w := by
  simp [results, h]
theorem res_row3 {P : Program} {fn : Func} {p u v : Tmp} {ty : TypeId} (h : fn.results = #[.cell p ty, .tmp u, .tmp v]) (tmps : Array Value) (w : World) (g : Nat) (t : TypeId) (cs : Array Value) (fr : Nat × Nat) (d : TypeDesc) (c e : Value)
    (hp : tmps.getD p undef = .pointer (some ⟨g, 0, none⟩)) (hc : tmps.getD u undef = c) (he : tmps.getD v undef = e) (hg : w.heap[g]? = some (.cells cs t fr)) (hu : P.underlying ty = some d) (hd : (match d with | .struct _ | .array _ _ => true | _ => false) = true) (hi : (P.info? ty).map (·.size) = some cs.size) :
    (results fn tmps).run P w = .ok (.tuple #[.agg cs, c, e]) w := by
  rw [results_cell_tmp2 h, hp, hc, he]
  simp [asAddr, run_loadVar_row w g t ty cs fr d hg hu hd hi, Result.andThen]
theorem bits_idem (x : Int) : bits BinOp.andNot IntKind.u32 x 4 = bits BinOp.andNot IntKind.u32 x 4 := rfl
abbrev RTold (h : HD) (dp c : Int) (w : World) (e : Ending) (w' : World) : Prop := e = .returned (.tuple #[.agg (h.cells 20).toArray, .int .u64 dp, .int .i64 c]) ∧ Below w.heap.size w w'
attribute [local irreducible] HD.cells wpList Code.wp
set_option maxHeartbeats 1000000 in
theorem rread_short (A : Option Addr) (n c : Nat) (w : World) (hn : n < 272) :
    Calls Try.prog 14 #[.slice A n c] w (RTold hd0 0 22 w) := by
  have d1 : (n : Int) < 272 := by omega
  go_enter Try.func14, Try.ntmps14
  go_upto_region 1 with fail
  have b1 := Lib.hid ((Below.refl w.heap.size w).alloc (Nat.le_refl _) (.cells Try.zeroCells45 45))
  have Z1 := Lib.hid (heap_alloc_new w (.cells Try.zeroCells45 45))
  have S1 := Lib.hid (show (w.alloc (.cells Try.zeroCells45 45)).heap.size = w.heap.size + 1 by simp)
  generalize w.alloc (.cells Try.zeroCells45 45) = w1 at *
  go_wp2_with (first
    | ((with_reducible apply at_slot 13); refine wpList_build_zero rfl 45 rfl _ rzero_built ?_)
    | ((with_reducible apply at_store (.tmp 2) (.tmp 13)); refine wpList_store_row rfl 45 (.tmp 2) (.tmp 13) rfl w.heap.size (hd0.cells 20).toArray rfl rfl 45 Try.zeroCells45 Z1.out (rcells_info _) rzeros_size (HD.one _ 20) ?_)
    | fail)
  refine bodyPost_ret (v := .tuple #[.agg (hd0.cells 20).toArray, .int .u64 0, .int .i64 22]) (by exact res_row3 Try.results14 _ _ w.heap.size 45 _ (0, 0) _ _ _ rfl rfl rfl (setRow_heap _ _ _ _ _ (0, 0) Z1.out) Try.underlying45 rfl (rcells_info _)) rfl ?_
  exact ⟨rfl, below_setRow b1.out (Nat.le_refl _) _⟩
set_option maxHeartbeats 1000000 in
theorem rread_magic (A : Option Addr) (l : List Int) (n c : Nat) (w : World) (hb : Bytes w A l) (hL : l.length = n) (h272 : 272 ≤ n) (hc : n ≤ c) (hm : magicB l = false) :
    Calls Try.prog 14 #[.slice A n c] w (RTold hd0 0 6 w) := by
  have d1 : ¬ (n : Int) < 272 := by omega
  go_enter Try.func14, Try.ntmps14
  go_upto_region 1 with fail
  have b1 := Lib.hid ((Below.refl w.heap.size w).alloc (Nat.le_refl _) (.cells Try.zeroCells45 45))
  have Z1 := Lib.hid (heap_alloc_new w (.cells Try.zeroCells45 45))
  have S1 := Lib.hid (show (w.alloc (.cells Try.zeroCells45 45)).heap.size = w.heap.size + 1 by simp)
  generalize w.alloc (.cells Try.zeroCells45 45) = w1 at *
  have h8 : (l.take 8).length = 8 := by simp; omega
  have HB1 := Lib.hid (hb.below b1.out (Nat.le_refl _))
  have hst := (bytes_take HB1.out 8).string c 8 h8
  have hS : (!(strOfNums (l.take 8)).toList == [76, 80, 75, 83, 72, 72, 82, 72]) = true := by unfold magicB at hm; rw [hm]; rfl
  generalize strOfNums (l.take 8) = S at *
  have hcc : (8 : Int) ≤ (c : Int) := by omega
  go_wp2_with (first
    | ((with_reducible apply at_slot 18); refine wpList_build_zero rfl 45 rfl _ rzero_built ?_)
    | ((with_reducible apply at_store (.tmp 2) (.tmp 18)); refine wpList_store_row rfl 45 (.tmp 2) (.tmp 18) rfl w.heap.size (hd0.cells 20).toArray rfl rfl 45 Try.zeroCells45 Z1.out (rcells_info _) rzeros_size (HD.one _ 20) ?_)
    | fail)
  refine bodyPost_ret (v := .tuple #[.agg (hd0.cells 20).toArray, .int .u64 0, .int .i64 6]) (by exact res_row3 Try.results14 _ _ w.heap.size 45 _ (0, 0) _ _ _ rfl rfl rfl (setRow_heap _ _ _ _ _ (0, 0) Z1.out) Try.underlying45 rfl (rcells_info _)) rfl ?_
  exact ⟨rfl, below_setRow b1.out (Nat.le_refl _) _⟩

/-- The document's head read as far as its own place. -/
abbrev Arms : Prop := True
set_option maxHeartbeats 8000000 in
theorem rread_taken (A : Option Addr) (l : List Int) (n c : Nat) (w : World) (hb : Bytes w A l) (hL : l.length = n) (h272 : 272 ≤ n) (hn : n ≤ 1000000) (hc : n ≤ c) (hm : magicB l = true) :
    Calls Try.prog 14 #[.slice A n c] w (RTold (if fcode (hdOf l) n = 0 then hdOf l else hd0) (if fcode (hdOf l) n = 0 then Ob.u8 l 248 else 0) (fcode (hdOf l) n) w) := by
  have d1 : ¬ (n : Int) < 272 := by omega
  have HT := Lib.hid fun (W : World) (hW : Bytes W A l) => raw_any A l n c W hW hL h272 hn
  have ok := hdOf_ok hb.1 20
  have ok21 := hdOf_ok hb.1 21
  have HE := Lib.hid fun (W : World) => rend_any (hdOf l) ok W
  have hst0 := hb.1.at_ 16
  have hstv : (hdOf l).st = l.getD 16 0 := rfl
  rw [← hstv] at hst0
  clear hstv
  generalize Ob.u8 l 248 = dp at *
  go_enter Try.func14, Try.ntmps14
  go_upto_region 1 with fail
  have b1 := Lib.hid ((Below.refl w.heap.size w).alloc (Nat.le_refl _) (.cells Try.zeroCells45 45))
  have Z1 := Lib.hid (heap_alloc_new w (.cells Try.zeroCells45 45))
  have S1 := Lib.hid (show (w.alloc (.cells Try.zeroCells45 45)).heap.size = w.heap.size + 1 by simp)
  generalize w.alloc (.cells Try.zeroCells45 45) = w1 at *
  have h8 : (l.take 8).length = 8 := by simp; omega
  have HB1 := Lib.hid (hb.below b1.out (Nat.le_refl _))
  have hst := (bytes_take HB1.out 8).string c 8 h8
  have hS : (!(strOfNums (l.take 8)).toList == [76, 80, 75, 83, 72, 72, 82, 72]) = false := by unfold magicB at hm; rw [hm]; rfl
  generalize strOfNums (l.take 8) = S at *
  have hcc : (8 : Int) ≤ (c : Int) := by omega
  clear h8 hm
  go_upto_region 6 with (first
    | (go_at_call 33; ((with_reducible refine (HT.out _ HB1.out).mono ?_); rintro e w2 ⟨rfl, hb2⟩; have B2 := Lib.hid hb2; clear hb2))
    | ((with_reducible apply at_store (.tmp 5) (.tmp 22)); refine wpList_store_row rfl 45 (.tmp 5) (.tmp 22) rfl w2.heap.size ((hdOf l).cells 20).toArray rfl rfl 45 Try.zeroCells45 (heap_alloc_new w2 _) (rcells_info _) rzeros_size (HD.one _ 20) ?_)
    | fail)
  have R3 := Lib.hid (show Blk ((w2.alloc (.cells Try.zeroCells45 45)).setRow w2.heap.size ((hdOf l).cells 20).toArray) w2.heap.size ((hdOf l).cells 20) 45 from setRow_heap _ _ _ _ _ (0, 0) (heap_alloc_new w2 _))
  have B3 := Lib.hid (show Below w1.heap.size w1 ((w2.alloc (.cells Try.zeroCells45 45)).setRow w2.heap.size ((hdOf l).cells 20).toArray) from below_setRow (B2.out.alloc B2.out.size _) B2.out.size _)
  generalize (w2.alloc (.cells Try.zeroCells45 45)).setRow w2.heap.size ((hdOf l).cells 20).toArray = w3 at *
  clear hst hS hb HB1 HT
  go_upto_region 7 with (first
    | ((with_reducible apply at_slot 25); refine wpList_load_row rfl 45 (.tmp 5) rfl w2.heap.size rfl 45 ((hdOf l).cells 20).toArray (0, 0) _ R3.out Try.underlying45 rfl (rcells_info _) ?_)
    | (go_at_call 17; ((with_reducible refine (HE.out _).mono ?_); rintro e w4 ⟨rfl, hb4⟩; have R4 := Lib.hid (R3.out.below hb4 R3.out.lt); have B4 := Lib.hid (B3.out.trans (hb4.mono B3.out.size)); clear hb4))
    | fail)
  have Z4 := Lib.hid ((B4.out.block w.heap.size (by rw [S1.out]; exact Nat.lt_succ_self _)).trans Z1.out)
  have Bz := Lib.hid (b1.out.trans (B4.out.mono (by rw [S1.out]; exact Nat.le_succ _)))
  have c1 : w4.cell? ⟨w2.heap.size, 1, none⟩ = some (.int .u32 (hdOf l).ic) := R4.out.cell ((hdOf l).get 20 1 (by decide))
  have c2 : w4.cell? ⟨w2.heap.size, 2, none⟩ = some (.int .i64 (hdOf l).st) := R4.out.cell ((hdOf l).get 20 2 (by decide))
  have c67 := HD.nums_at R4.out 0 (by decide)
  have c68 := HD.nums_at R4.out 1 (by decide)
  have c69 := HD.nums_at R4.out 2 (by decide)
  have c70 := HD.nums_at R4.out 3 (by decide)
  have c71 := HD.nums_at R4.out 4 (by decide)
  have c72 := HD.nums_at R4.out 5 (by decide)
  have hic := ok.ic
  obtain ⟨p0, p1⟩ := ok.N 0
  obtain ⟨r0, r1⟩ := ok.N 1
  have HFC : fcode (hdOf l) n = if flB (hdOf l).ic = true then 7 else if stB (hdOf l).st = false then 8 else if (hdOf l).N 0 < 272 ∨ (hdOf l).N 0 % 8 ≠ 0 ∨ (hdOf l).N 1 % 8 ≠ 0 then 5 else if endB (hdOf l) = false ∨ (n : Int) < endV (hdOf l) then 2 else if tcode ((hdOf l).N 2) ((hdOf l).N 3) ((hdOf l).N 0) (endV (hdOf l)) ≠ 0 then tcode ((hdOf l).N 2) ((hdOf l).N 3) ((hdOf l).N 0) (endV (hdOf l)) else tcode ((hdOf l).N 4) ((hdOf l).N 5) ((hdOf l).N 0) (endV (hdOf l)) := rfl
  have HVb := Lib.hid (end_bd (hdOf l) ok21)
  have HVe : endB (hdOf l) = true → endV (hdOf l) = (hdOf l).N 0 + (hdOf l).N 1 := fun h => if_pos (of_decide_eq_true h)
  have HT1 := Lib.hid (rtable_any ((hdOf l).N 0) (endV (hdOf l)) ((hdOf l).N 2) ((hdOf l).N 3) (ok.N 0) (end_bd _ ok21) (ok.N 2) (ok.N 3) w4)
  have HT2 := Lib.hid (rtable_any ((hdOf l).N 0) (endV (hdOf l)) ((hdOf l).N 4) ((hdOf l).N 5) (ok.N 0) (end_bd _ ok21) (ok.N 4) (ok.N 5) w4)
  clear HE ok ok21 R3 B3 B2 d1
  have hfin0 : ∀ x : Int, fcode (hdOf l) n = x → Hid (fcode (hdOf l) n = x) := fun x hx => Lib.hid hx
  generalize fcode (hdOf l) n = FC at *
  have base : ∀ cd : Int, FC = cd → cd ≠ 0 → Hid (FC = cd) := fun cd h _ => Lib.hid h
  by_cases h1 : flB (hdOf l).ic = true
  · rw [if_pos h1] at HFC
    subst HFC
    have h1' : (bits BinOp.andNot IntKind.u32 (hdOf l).ic 4 != 0) = true := h1
    clear hfin0 base h1
    rw [if_neg (by decide), if_neg (by decide)]
    go_wp2_with (first
      | ((with_reducible apply at_slot 93); refine wpList_build_zero rfl 45 rfl _ rzero_built ?_)
      | ((with_reducible apply at_store (.tmp 2) (.tmp 93)); refine wpList_store_row rfl 45 (.tmp 2) (.tmp 93) rfl w.heap.size (hd0.cells 20).toArray rfl rfl 45 Try.zeroCells45 Z4.out (rcells_info _) rzeros_size (HD.one _ 20) ?_)
      | fail)
    refine bodyPost_ret (v := .tuple #[.agg (hd0.cells 20).toArray, .int .u64 0, .int .i64 7]) (by exact res_row3 Try.results14 _ _ w.heap.size 45 _ (0, 0) _ _ _ rfl rfl rfl (setRow_heap _ _ _ _ _ (0, 0) Z4.out) Try.underlying45 rfl (rcells_info _)) rfl ?_
    exact ⟨rfl, below_setRow Bz.out (Nat.le_refl _) _⟩
  rw [if_neg h1] at HFC
  have h1' : (bits BinOp.andNot IntKind.u32 (hdOf l).ic 4 != 0) = false := by have h1x : flB (hdOf l).ic = false := by simpa using h1
                                                                              exact h1x
  clear h1
  by_cases h2 : stB (hdOf l).st = false
  · rw [if_pos h2] at HFC
    subst HFC
    have h2' : 2 < (hdOf l).st := by unfold stB at h2; simp at h2; omega
    have d2 : decide (2 < (hdOf l).st) = true := by simp; omega
    clear hfin0 base h2
    rw [if_neg (by decide), if_neg (by decide)]
    go_wp2_with (first
      | ((with_reducible apply at_slot 93); refine wpList_build_zero rfl 45 rfl _ rzero_built ?_)
      | ((with_reducible apply at_store (.tmp 2) (.tmp 93)); refine wpList_store_row rfl 45 (.tmp 2) (.tmp 93) rfl w.heap.size (hd0.cells 20).toArray rfl rfl 45 Try.zeroCells45 Z4.out (rcells_info _) rzeros_size (HD.one _ 20) ?_)
      | fail)
    refine bodyPost_ret (v := .tuple #[.agg (hd0.cells 20).toArray, .int .u64 0, .int .i64 8]) (by exact res_row3 Try.results14 _ _ w.heap.size 45 _ (0, 0) _ _ _ rfl rfl rfl (setRow_heap _ _ _ _ _ (0, 0) Z4.out) Try.underlying45 rfl (rcells_info _)) rfl ?_
    exact ⟨rfl, below_setRow Bz.out (Nat.le_refl _) _⟩
  rw [if_neg h2] at HFC
  have h2' : ¬ 2 < (hdOf l).st := by unfold stB at h2; simp at h2; omega
  have d2 : decide (2 < (hdOf l).st) = false := by simp; omega
  clear h2
  by_cases h3 : (hdOf l).N 0 < 272 ∨ (hdOf l).N 0 % 8 ≠ 0 ∨ (hdOf l).N 1 % 8 ≠ 0
  · rw [if_pos h3] at HFC
    subst HFC
    clear hfin0 base
    rw [if_neg (by decide), if_neg (by decide)]
    by_cases h4 : (hdOf l).N 0 < 272
    · have d4 : decide ((hdOf l).N 0 < 272) = true := by simp; omega
      clear h3
      go_wp2_with (first
        | ((with_reducible apply at_slot 93); refine wpList_build_zero rfl 45 rfl _ rzero_built ?_)
        | ((with_reducible apply at_store (.tmp 2) (.tmp 93)); refine wpList_store_row rfl 45 (.tmp 2) (.tmp 93) rfl w.heap.size (hd0.cells 20).toArray rfl rfl 45 Try.zeroCells45 Z4.out (rcells_info _) rzeros_size (HD.one _ 20) ?_)
        | fail)
      refine bodyPost_ret (v := .tuple #[.agg (hd0.cells 20).toArray, .int .u64 0, .int .i64 5]) (by exact res_row3 Try.results14 _ _ w.heap.size 45 _ (0, 0) _ _ _ rfl rfl rfl (setRow_heap _ _ _ _ _ (0, 0) Z4.out) Try.underlying45 rfl (rcells_info _)) rfl ?_
      exact ⟨rfl, below_setRow Bz.out (Nat.le_refl _) _⟩
    have d4 : decide ((hdOf l).N 0 < 272) = false := by simp; omega
    by_cases h5 : (hdOf l).N 0 % 8 = 0
    · have h6 : ¬ (hdOf l).N 1 % 8 = 0 := by omega
      clear h3
      go_wp2_with (first
        | ((with_reducible apply at_slot 93); refine wpList_build_zero rfl 45 rfl _ rzero_built ?_)
        | ((with_reducible apply at_store (.tmp 2) (.tmp 93)); refine wpList_store_row rfl 45 (.tmp 2) (.tmp 93) rfl w.heap.size (hd0.cells 20).toArray rfl rfl 45 Try.zeroCells45 Z4.out (rcells_info _) rzeros_size (HD.one _ 20) ?_)
        | fail)
      refine bodyPost_ret (v := .tuple #[.agg (hd0.cells 20).toArray, .int .u64 0, .int .i64 5]) (by exact res_row3 Try.results14 _ _ w.heap.size 45 _ (0, 0) _ _ _ rfl rfl rfl (setRow_heap _ _ _ _ _ (0, 0) Z4.out) Try.underlying45 rfl (rcells_info _)) rfl ?_
      exact ⟨rfl, below_setRow Bz.out (Nat.le_refl _) _⟩
    · clear h3
      go_wp2_with (first
        | ((with_reducible apply at_slot 93); refine wpList_build_zero rfl 45 rfl _ rzero_built ?_)
        | ((with_reducible apply at_store (.tmp 2) (.tmp 93)); refine wpList_store_row rfl 45 (.tmp 2) (.tmp 93) rfl w.heap.size (hd0.cells 20).toArray rfl rfl 45 Try.zeroCells45 Z4.out (rcells_info _) rzeros_size (HD.one _ 20) ?_)
        | fail)
      refine bodyPost_ret (v := .tuple #[.agg (hd0.cells 20).toArray, .int .u64 0, .int .i64 5]) (by exact res_row3 Try.results14 _ _ w.heap.size 45 _ (0, 0) _ _ _ rfl rfl rfl (setRow_heap _ _ _ _ _ (0, 0) Z4.out) Try.underlying45 rfl (rcells_info _)) rfl ?_
      exact ⟨rfl, below_setRow Bz.out (Nat.le_refl _) _⟩
  rw [if_neg h3] at HFC
  have d4 : decide ((hdOf l).N 0 < 272) = false := by simp; omega
  have h5 : (hdOf l).N 0 % 8 = 0 := by omega
  have h6 : (hdOf l).N 1 % 8 = 0 := by omega
  clear h3
  by_cases h7 : endB (hdOf l) = false ∨ (n : Int) < endV (hdOf l)
  · rw [if_pos h7] at HFC
    subst HFC
    clear hfin0 base
    rw [if_neg (by decide), if_neg (by decide)]
    cases hE : endB (hdOf l) with
    | false =>
      clear h7
      go_wp2_with (first
        | ((with_reducible apply at_slot 93); refine wpList_build_zero rfl 45 rfl _ rzero_built ?_)
        | ((with_reducible apply at_store (.tmp 2) (.tmp 93)); refine wpList_store_row rfl 45 (.tmp 2) (.tmp 93) rfl w.heap.size (hd0.cells 20).toArray rfl rfl 45 Try.zeroCells45 Z4.out (rcells_info _) rzeros_size (HD.one _ 20) ?_)
        | fail)
      refine bodyPost_ret (v := .tuple #[.agg (hd0.cells 20).toArray, .int .u64 0, .int .i64 2]) (by exact res_row3 Try.results14 _ _ w.heap.size 45 _ (0, 0) _ _ _ rfl rfl rfl (setRow_heap _ _ _ _ _ (0, 0) Z4.out) Try.underlying45 rfl (rcells_info _)) rfl ?_
      exact ⟨rfl, below_setRow Bz.out (Nat.le_refl _) _⟩
    | true =>
      have h8 : (n : Int) < endV (hdOf l) := by rcases h7 with h7 | h7; rw [hE] at h7; cases h7; exact h7
      clear h7 HVe
      generalize endV (hdOf l) = V at *
      have hVb := HVb.out
      have d8 : decide ((n : Int) < V) = true := by simp; omega
      go_wp2_with (first
        | ((with_reducible apply at_slot 93); refine wpList_build_zero rfl 45 rfl _ rzero_built ?_)
        | ((with_reducible apply at_store (.tmp 2) (.tmp 93)); refine wpList_store_row rfl 45 (.tmp 2) (.tmp 93) rfl w.heap.size (hd0.cells 20).toArray rfl rfl 45 Try.zeroCells45 Z4.out (rcells_info _) rzeros_size (HD.one _ 20) ?_)
        | fail)
      refine bodyPost_ret (v := .tuple #[.agg (hd0.cells 20).toArray, .int .u64 0, .int .i64 2]) (by exact res_row3 Try.results14 _ _ w.heap.size 45 _ (0, 0) _ _ _ rfl rfl rfl (setRow_heap _ _ _ _ _ (0, 0) Z4.out) Try.underlying45 rfl (rcells_info _)) rfl ?_
      exact ⟨rfl, below_setRow Bz.out (Nat.le_refl _) _⟩
  rw [if_neg h7] at HFC
  have hE : endB (hdOf l) = true := by
    cases hE : endB (hdOf l) with
    | true => rfl
    | false => exact absurd (Or.inl hE) h7
  have h8 : ¬ (n : Int) < endV (hdOf l) := fun h => h7 (Or.inr h)
  clear h7 HVe
  generalize endV (hdOf l) = V at *
  have hVb := HVb.out
  have d8 : decide ((n : Int) < V) = false := by simp; omega
  generalize tcode ((hdOf l).N 2) ((hdOf l).N 3) ((hdOf l).N 0) V = t1 at *
  generalize tcode ((hdOf l).N 4) ((hdOf l).N 5) ((hdOf l).N 0) V = t2 at *
  have tarms := True.intro
  by_cases ht : t1 = 0
  · rw [if_neg (by simpa using ht)] at HFC
    subst HFC ht
    clear hfin0 base
    by_cases hz : FC = 0
    · rw [if_pos hz, if_pos hz]
      subst hz
      go_wp2_with (first
        | (go_at_call 34; ((with_reducible refine HT1.out.mono ?_); rintro e w' ⟨rfl, rfl⟩))
        | (go_at_call 34; ((with_reducible refine HT2.out.mono ?_); rintro e w' ⟨rfl, rfl⟩))
        | ((with_reducible apply at_slot 95); refine wpList_load_row rfl 45 (.tmp 5) rfl w2.heap.size rfl 45 ((hdOf l).cells 20).toArray (0, 0) _ R4.out Try.underlying45 rfl (rcells_info _) ?_)
        | ((with_reducible apply at_store (.tmp 2) (.tmp 95)); refine wpList_store_row rfl 45 (.tmp 2) (.tmp 95) rfl w.heap.size ((hdOf l).cells 20).toArray rfl rfl 45 Try.zeroCells45 Z4.out (rcells_info _) rzeros_size (HD.one _ 20) ?_)
        | fail)
      refine bodyPost_ret (v := .tuple #[.agg ((hdOf l).cells 20).toArray, .int .u64 dp, .int .i64 0]) (by exact res_row3 Try.results14 _ _ w.heap.size 45 _ (0, 0) _ _ _ rfl rfl rfl (setRow_heap _ _ _ _ _ (0, 0) Z4.out) Try.underlying45 rfl (rcells_info _)) rfl ?_
      exact ⟨rfl, below_setRow Bz.out (Nat.le_refl _) _⟩
    · rw [if_neg hz, if_neg hz]
      have dz : (FC != 0) = true := by simp [hz]
      go_wp2_with (first
        | (go_at_call 34; ((with_reducible refine HT1.out.mono ?_); rintro e w' ⟨rfl, rfl⟩))
        | (go_at_call 34; ((with_reducible refine HT2.out.mono ?_); rintro e w' ⟨rfl, rfl⟩))
        | ((with_reducible apply at_slot 93); refine wpList_build_zero rfl 45 rfl _ rzero_built ?_)
        | ((with_reducible apply at_store (.tmp 2) (.tmp 93)); refine wpList_store_row rfl 45 (.tmp 2) (.tmp 93) rfl w.heap.size (hd0.cells 20).toArray rfl rfl 45 Try.zeroCells45 Z4.out (rcells_info _) rzeros_size (HD.one _ 20) ?_)
        | fail)
      refine bodyPost_ret (v := .tuple #[.agg (hd0.cells 20).toArray, .int .u64 0, .int .i64 FC]) (by exact res_row3 Try.results14 _ _ w.heap.size 45 _ (0, 0) _ _ _ rfl rfl rfl (setRow_heap _ _ _ _ _ (0, 0) Z4.out) Try.underlying45 rfl (rcells_info _)) rfl ?_
      exact ⟨rfl, below_setRow Bz.out (Nat.le_refl _) _⟩
  · rw [if_pos ht] at HFC
    subst HFC
    clear hfin0 base
    rw [if_neg ht, if_neg ht]
    have dz : (FC != 0) = true := by simp [ht]
    have dz2 : (FC == 0) = false := by simp [ht]
    go_wp2_with (first
      | (go_at_call 34; ((with_reducible refine HT1.out.mono ?_); rintro e w' ⟨rfl, rfl⟩))
      | ((with_reducible apply at_slot 93); refine wpList_build_zero rfl 45 rfl _ rzero_built ?_)
      | ((with_reducible apply at_store (.tmp 2) (.tmp 93)); refine wpList_store_row rfl 45 (.tmp 2) (.tmp 93) rfl w.heap.size (hd0.cells 20).toArray rfl rfl 45 Try.zeroCells45 Z4.out (rcells_info _) rzeros_size (HD.one _ 20) ?_)
      | fail)
    refine bodyPost_ret (v := .tuple #[.agg (hd0.cells 20).toArray, .int .u64 0, .int .i64 FC]) (by exact res_row3 Try.results14 _ _ w.heap.size 45 _ (0, 0) _ _ _ rfl rfl rfl (setRow_heap _ _ _ _ _ (0, 0) Z4.out) Try.underlying45 rfl (rcells_info _)) rfl ?_
    exact ⟨rfl, below_setRow Bz.out (Nat.le_refl _) _⟩
theorem rreadHead_any (A : Option Addr) (l : List Int) (n c : Nat) (w : World) (hb : Bytes w A l) (hL : l.length = n) (hn : n ≤ 1000000) (hc : n ≤ c) :
    Calls Try.prog 14 #[.slice A n c] w (RTold (if hcode l n = 0 then hdOf l else hd0) (if hcode l n = 0 then Ob.u8 l 248 else 0) (hcode l n) w) := by
  by_cases h1 : n < 272
  · rw [show hcode l n = 22 from if_pos h1, if_neg (by decide), if_neg (by decide)]
    exact rread_short A n c w h1
  by_cases h2 : magicB l = false
  · rw [show hcode l n = 6 by unfold hcode; rw [if_neg h1, if_pos h2], if_neg (by decide), if_neg (by decide)]
    exact rread_magic A l n c w hb hL (by omega) hc h2
  · have h2' : magicB l = true := by simpa using h2
    rw [show hcode l n = fcode (hdOf l) n by unfold hcode; rw [if_neg h1, if_neg h2]]
    exact rread_taken A l n c w hb hL (by omega) hn hc h2'
end Go.Proofs.Ytekmbgcijkdkfaa.Gr
