/-
  Sixteen bytes read of their digits: the program's way.
-/
import Derived.Test.YtpfkhcgeblihcaaDoorKuj
import Derived.Deep.MidRow
namespace Go.Proofs.YtpfkhcgeblihcaaDoor.Kuk
open Go.ChangeShapes Go.WideShapes Go.ChangeAt Go.RowKit
open Bytes8 Blk8 Own8 Fa Kua Kub Kuc Kud Kui Kuj
set_option linter.unusedVariables false
set_option linter.unusedSimpArgs false
set_option maxRecDepth 100000

theorem id_info {K : Nat → Int} : (Tryd.prog.info? 23).map (·.size) = some (idCells K).length := by
  show (Tryd.prog.info? 23).map (·.size) = some 16
  kernel_rfl
theorem ids_one (K : Nat → Int) : ∀ v ∈ idCells K, v.oneCell' = true := fun v hv => by
  unfold idCells at hv
  simp at hv
  rcases hv with rfl | rfl | rfl | rfl | rfl | rfl | rfl | rfl | rfl | rfl | rfl | rfl | rfl | rfl | rfl | rfl <;> rfl
theorem id_range {w : World} {g : Nat} {K : Nat → Int} {ty : TypeId} (h : Blk w g (idCells K) ty) : w.rangeAt g 0 (idCells K) := fun j v hj => by rw [Nat.zero_add]; exact h.cell hj
theorem id_set (K : Nat → Int) {i : Nat} (hi : i < 16) (v : Int) : (idCells K).set i (.int .u8 v) = idCells fun j => if j = i then v else K j := by
  rcases i with _ | _ | _ | _ | _ | _ | _ | _ | _ | _ | _ | _ | _ | _ | _ | _ | i
  all_goals first | omega | rfl
theorem res_id {P : Program} {fn : Func} {p u : Tmp} {ty : TypeId} (h : fn.results = #[.cell p ty, .tmp u]) (tmps : Array Value) (w : World) (g : Nat) (t : TypeId) (cs : Array Value) (fr : Nat × Nat) (d : TypeDesc) (c : Value)
    (hp : tmps.getD p undef = .pointer (some ⟨g, 0, none⟩)) (hc : tmps.getD u undef = c) (hg : w.heap[g]? = some (.cells cs t fr)) (hu : P.underlying ty = some d) (hd : (match d with | .struct _ | .array _ _ => true | _ => false) = true) (hi : (P.info? ty).map (·.size) = some cs.size) :
    (results fn tmps).run P w = .ok (.tuple #[.agg cs, c]) w := by
  rw [results_cell_tmp h, hp, hc]
  simp [asAddr, run_loadVar_row w g t ty cs fr d hg hu hd hi, Result.andThen]
/-- A whole row stored. -/
theorem row_set {w : World} {g : Nat} {vs : List Value} {T : TypeId} (h : Blk w g vs T) (cs : List Value) : Blk (w.setRow g cs.toArray) g cs T := setRow_heap w g _ _ T (0, 0) h
theorem at_store (x y : Operand) {P : Program} {ops : Array Oper} {Q : Exit → Act → World → Prop} {rest : List Oper} {a : Act} {w : World} {ty t2 : TypeId} {pos : String} {af : Array Edge} {gd : Option (Nat × Bool)}
    (h : wpList P ops Q (⟨none, .store t2 x y, ty, pos, af, gd⟩ :: rest) a w) : wpList P ops Q (⟨none, .store t2 x y, ty, pos, af, gd⟩ :: rest) a w := h
theorem at_slot (n : Nat) {P : Program} {ops : Array Oper} {Q : Exit → Act → World → Prop} {rest : List Oper} {a : Act} {w : World} {op : Op} {ty : TypeId} {pos : String} {af : Array Edge} {gd : Option (Nat × Bool)}
    (h : wpList P ops Q (⟨some n, op, ty, pos, af, gd⟩ :: rest) a w) : wpList P ops Q (⟨some n, op, ty, pos, af, gd⟩ :: rest) a w := h
/-- Two digits of a text. -/
theorem pair_cut (s : List Int) {k : Nat} (hk : 2 * k + 2 ≤ s.length) (w : World) : (Instr.slice 9 (.string (T s)) (some (.int .i64 (2 * (k : Int)))) (some (.int .i64 (2 * (k : Int) + 2))) none).run Tryd.prog w = .ok (.string (T ((s.drop (2 * k)).take 2))) w := by
  have hsz := T_size s
  rw [run_slice_string w 9 (T s) .i64 .i64 _ _ Tryd.underlying9 (by omega) (by omega) (by rw [hsz]; omega), T_cut, show (2 * (k : Int)).toNat = 2 * k by omega, show (2 * (k : Int) + 2).toNat = 2 * k + 2 by omega, show 2 * k + 2 - 2 * k = 2 by omega]
def zK : Nat → Int := fun _ => 0
theorem idOf_at {s : List Int} {i v : Nat} (h : idOk s = true) (hi : i < 16) (hv : idAt s i = some v) : idOf s i = v := by
  unfold idOf; rw [if_pos ⟨h, hi⟩, hv]; rfl
theorem id_no {s : List Int} (h : idOk s = false) : idOf s = zK := by
  funext i; unfold idOf; rw [if_neg (by rw [h]; simp)]; rfl
set_option maxHeartbeats 8000000 in
theorem id_any (s : List Int) (hA : AllB s) (hl : s.length ≤ 1000000) (w : World) : Calls Tryd.prog 9 #[.string (T s)] w fun e w' => e = .returned (.tuple #[idV (idOf s), .bool (idOk s)]) ∧ Below w.heap.size w w' := by
  have hsz := T_size s
  have HX := Lib.hid fun k (h : 2 * k + 2 ≤ s.length) W => pair_cut s h W
  have HV := Lib.hid fun k W => value_any ((s.drop (2 * k)).take 2) ((hA.drop _).take _) (by rw [List.length_take]; omega) W
  have HI := Lib.hid (idOk_iff s)
  have HW := Lib.hid fun i v (h : idOk s = true) (hi : i < 16) (hv : idAt s i = some v) => idOf_at h hi hv
  have HNo := Lib.hid fun (h : idOk s = false) => id_no h
  have HLt := Lib.hid fun i v (hl : s.length = 32) (hi : i < 16) (hv : idAt s i = some v) => (show v < 256 from by
    unfold idAt at hv
    exact (valF_back 2 _ (by rw [List.length_take, List.length_drop]; omega) hv).2)
  have B0 := Lib.hid (show Below w.heap.size w ((w.alloc (.cells #[.int .u8 0, .int .u8 0, .int .u8 0, .int .u8 0, .int .u8 0, .int .u8 0, .int .u8 0, .int .u8 0, .int .u8 0, .int .u8 0, .int .u8 0, .int .u8 0, .int .u8 0, .int .u8 0, .int .u8 0, .int .u8 0] 23)).alloc (.cells #[.int .u8 0, .int .u8 0, .int .u8 0, .int .u8 0, .int .u8 0, .int .u8 0, .int .u8 0, .int .u8 0, .int .u8 0, .int .u8 0, .int .u8 0, .int .u8 0, .int .u8 0, .int .u8 0, .int .u8 0, .int .u8 0] 23)) from ((Below.refl w.heap.size w).alloc (Nat.le_refl _) _).alloc (by simp) _)
  have R1 := Lib.hid (show Blk ((w.alloc (.cells #[.int .u8 0, .int .u8 0, .int .u8 0, .int .u8 0, .int .u8 0, .int .u8 0, .int .u8 0, .int .u8 0, .int .u8 0, .int .u8 0, .int .u8 0, .int .u8 0, .int .u8 0, .int .u8 0, .int .u8 0, .int .u8 0] 23)).alloc (.cells #[.int .u8 0, .int .u8 0, .int .u8 0, .int .u8 0, .int .u8 0, .int .u8 0, .int .u8 0, .int .u8 0, .int .u8 0, .int .u8 0, .int .u8 0, .int .u8 0, .int .u8 0, .int .u8 0, .int .u8 0, .int .u8 0] 23)) w.heap.size (idCells zK) 23 from (Blk.new w (idCells zK) 23).alloc _)
  have R2 := Lib.hid (show Blk ((w.alloc (.cells #[.int .u8 0, .int .u8 0, .int .u8 0, .int .u8 0, .int .u8 0, .int .u8 0, .int .u8 0, .int .u8 0, .int .u8 0, .int .u8 0, .int .u8 0, .int .u8 0, .int .u8 0, .int .u8 0, .int .u8 0, .int .u8 0] 23)).alloc (.cells #[.int .u8 0, .int .u8 0, .int .u8 0, .int .u8 0, .int .u8 0, .int .u8 0, .int .u8 0, .int .u8 0, .int .u8 0, .int .u8 0, .int .u8 0, .int .u8 0, .int .u8 0, .int .u8 0, .int .u8 0, .int .u8 0] 23)) (w.heap.size + 1) (idCells zK) 23 from Blk.new_at (w.alloc (.cells #[.int .u8 0, .int .u8 0, .int .u8 0, .int .u8 0, .int .u8 0, .int .u8 0, .int .u8 0, .int .u8 0, .int .u8 0, .int .u8 0, .int .u8 0, .int .u8 0, .int .u8 0, .int .u8 0, .int .u8 0, .int .u8 0] 23)) (idCells zK) 23 (w.heap.size + 1) (by simp))
  obtain ⟨n, hn⟩ : ∃ n, s.length = n := ⟨_, rfl⟩
  have HL := Lib.hid hn
  rw [hn] at hsz hl
  clear hA hn
  generalize T s = S at *
  go_enter Tryd.func9, Tryd.ntmps9
  go_upto_region 2 with fail
  generalize (w.alloc (.cells #[.int .u8 0, .int .u8 0, .int .u8 0, .int .u8 0, .int .u8 0, .int .u8 0, .int .u8 0, .int .u8 0, .int .u8 0, .int .u8 0, .int .u8 0, .int .u8 0, .int .u8 0, .int .u8 0, .int .u8 0, .int .u8 0] 23)).alloc (.cells #[.int .u8 0, .int .u8 0, .int .u8 0, .int .u8 0, .int .u8 0, .int .u8 0, .int .u8 0, .int .u8 0, .int .u8 0, .int .u8 0, .int .u8 0, .int .u8 0, .int .u8 0, .int .u8 0, .int .u8 0, .int .u8 0] 23) = w1 at *
  generalize hg : w.heap.size = g at *
  have HG := Lib.hid hg
  clear hg
  have zero : ∀ W, (zeroValue 23).run Tryd.prog W = .ok (.agg (idCells zK).toArray) W := fun W => by kernel_rfl
  by_cases h32 : n = 32
  · subst h32
    go_upto_region 5 with fail
    go_loopw [5, 6, 7, 12, 15] (fun _ _ _ vi _ wr => ∃ (k : Nat) (K : Nat → Int), vi = .int .i64 (k : Int) ∧ k ≤ 16 ∧ Hid (∀ i, i < k → ∃ v, idAt s i = some v ∧ K i = (v : Int)) ∧ Hid (Blk wr g (idCells zK) 23) ∧ Hid (Blk wr (g + 1) (idCells K) 23) ∧ Hid (Below g w wr)) (fun _ _ _ vi _ _ => 16 - (intOf vi).toNat)
    case atStart => exact ⟨0, zK, rfl, by omega, Lib.hid fun i hi => absurd hi (by omega), R1, R2, B0⟩
    case round =>
      obtain ⟨k, K, rfl, hk, hall, hR1, hR2, hB⟩ := hrel
      by_cases hlt : k < 16
      · have hki : (k : Int) < 16 := by omega
        have hx := HX.out k (by have := HL.out; omega)
        have hv := HV.out k
        unfold valR valB at hv
        change ∀ W, Calls _ _ _ W fun e w' => e = .returned (.tuple #[.int .u64 (((idAt s k).getD 0 : Nat) : Int), .bool (idAt s k).isSome]) ∧ W = w' at hv
        generalize (s.drop (2 * k)).take 2 = pc at *
        cases hat : idAt s k with
        | none =>
          rw [hat] at hv
          have HF := Lib.hid (show idOk s = false from by
            cases h : idOk s with
            | false => rfl
            | true => exact absurd hat ((HI.out.1 h).2 k hlt))
          have HK := Lib.hid (HNo.out HF.out)
          have HV1 := Lib.hid hv
          clear hv hat HV
          simp only [Option.getD_none, Option.isSome_none] at HV1
          go_wp2_with (first
            | (go_at_call 28; (with_reducible refine (HV1.out _).mono ?_); rintro e w' ⟨rfl, rfl⟩)
            | ((with_reducible apply at_store (.tmp 2) (.tmp 28)); refine wpList_store_row rfl 23 (.tmp 2) (.tmp 28) rfl g (idCells zK).toArray rfl rfl 23 (idCells zK).toArray hR1.out id_info rfl (all_oneCell_toArray (ids_one _)) ?_)
            | fail)
          refine bodyPost_ret (v := .tuple #[idV zK, .bool false]) (by exact res_id Tryd.results9 _ _ g 23 _ (0, 0) _ _ rfl rfl (row_set hR1.out (idCells zK)) Tryd.underlying23 rfl id_info) rfl ?_
          exact ⟨by rw [HF.out, HK.out], HG.out ▸ below_setRow hB.out (Nat.le_refl _) _⟩
        | some v =>
          rw [hat] at hv
          have hv256 := HLt.out k v HL.out hlt hat
          have HAt := Lib.hid hat
          have HV1 := Lib.hid hv
          clear hv hat HV
          simp only [Option.getD_some, Option.isSome_some] at HV1
          have hw8 : IntKind.u8.wrap (v : Int) = (v : Int) := by simp only [IntKind.wrap, IntKind.signed, IntKind.bits]; simp; omega
          have hc : wr.cell? ⟨g + 1, k, none⟩ = some (.int .u8 (K k)) := hR2.out.cell (by
            rcases k with _ | _ | _ | _ | _ | _ | _ | _ | _ | _ | _ | _ | _ | _ | _ | _ | k
            all_goals first | omega | rfl)
          have hf := hR2.out.frozen k
          have N1 := Lib.hid (show Blk (wr.setCell ⟨g + 1, k, none⟩ (.int .u8 (v : Int))) (g + 1) (idCells fun j => if j = k then (v : Int) else K j) 23 from by rw [← id_set K hlt]; exact hR2.out.set_ k _)
          have N2 := Lib.hid (show Blk (wr.setCell ⟨g + 1, k, none⟩ (.int .u8 (v : Int))) g (idCells zK) 23 from hR1.out.far (p := ⟨g + 1, k, none⟩) (show g ≠ g + 1 by omega) _)
          have N3 := Lib.hid (show Below g w (wr.setCell ⟨g + 1, k, none⟩ (.int .u8 (v : Int))) from hB.out.setCell (p := (⟨g + 1, k, none⟩ : Addr)) (by show g ≤ g + 1; omega) _)
          have N4 := Lib.hid (show ∀ i, i < k + 1 → ∃ u, idAt s i = some u ∧ (if i = k then (v : Int) else K i) = (u : Int) from fun i hi => by
            by_cases h : i = k
            · exact ⟨v, by rw [h]; exact HAt.out, by rw [if_pos h]⟩
            · obtain ⟨u, h1, h2⟩ := hall.out i (by omega)
              exact ⟨u, h1, by rw [if_neg h]; exact h2⟩)
          go_wp2_with (go_at_call 28; (with_reducible refine (HV1.out _).mono ?_); rintro e w' ⟨rfl, rfl⟩)
          go_roundw
          case rel => exact ⟨k + 1, _, by go_num, by omega, N4, N2, N1, N3⟩
          case measure => simp [intOf]; omega
      · have hki : ¬ (k : Int) < 16 := by omega
        have hall2 : ∀ i, i < 16 → ∃ v, idAt s i = some v ∧ K i = (v : Int) := fun i hi => hall.out i (by omega)
        have HT := Lib.hid (show idOk s = true from HI.out.2 ⟨HL.out, fun i hi => by obtain ⟨v, h1, _⟩ := hall2 i hi; rw [h1]; simp⟩)
        have HK := Lib.hid (show idCells K = idCells (idOf s) from by
          have e : ∀ i, i < 16 → K i = idOf s i := fun i hi => by
            obtain ⟨v, h1, h2⟩ := hall2 i hi
            rw [h2, HW.out i v HT.out hi h1]
          unfold idCells
          rw [e 0 (by decide), e 1 (by decide), e 2 (by decide), e 3 (by decide), e 4 (by decide), e 5 (by decide), e 6 (by decide), e 7 (by decide), e 8 (by decide), e 9 (by decide), e 10 (by decide), e 11 (by decide), e 12 (by decide), e 13 (by decide), e 14 (by decide), e 15 (by decide)])
        clear hall2
        go_wp2_with (first
          | ((with_reducible apply at_slot 34); refine wpList_load_mid rfl 23 (.tmp 4) rfl (g + 1) 0 rfl (idCells K) _ (id_range hR2.out) Tryd.underlying23 rfl id_info ?_)
          | ((with_reducible apply at_store (.tmp 2) (.tmp 34)); refine wpList_store_row rfl 23 (.tmp 2) (.tmp 34) rfl g (idCells K).toArray rfl rfl 23 (idCells zK).toArray hR1.out id_info rfl (all_oneCell_toArray (ids_one _)) ?_)
          | fail)
        refine bodyPost_ret (v := .tuple #[.agg (idCells K).toArray, .bool true]) (by exact res_id Tryd.results9 _ _ g 23 _ (0, 0) _ _ rfl rfl (row_set hR1.out (idCells K)) Tryd.underlying23 rfl id_info) rfl ?_
        exact ⟨by rw [HT.out, HK.out], HG.out ▸ below_setRow hB.out (Nat.le_refl _) _⟩
  · have hq : ((n : Int) != 32) = true := by simp; omega
    have HF := Lib.hid (show idOk s = false from by
      cases h : idOk s with
      | false => rfl
      | true => exact absurd (HI.out.1 h).1 (by have := HL.out; omega))
    have HK := Lib.hid (HNo.out HF.out)
    go_wp2_with (first
      | ((with_reducible apply at_store (.tmp 2) (.tmp 11)); refine wpList_store_row rfl 23 (.tmp 2) (.tmp 11) rfl g (idCells zK).toArray rfl rfl 23 (idCells zK).toArray R1.out id_info rfl (all_oneCell_toArray (ids_one _)) ?_)
      | fail)
    refine bodyPost_ret (v := .tuple #[idV zK, .bool false]) (by exact res_id Tryd.results9 _ _ g 23 _ (0, 0) _ _ rfl rfl (row_set R1.out (idCells zK)) Tryd.underlying23 rfl id_info) rfl ?_
    exact ⟨by rw [HF.out, HK.out], HG.out ▸ below_setRow B0.out (Nat.le_refl _) _⟩
end Go.Proofs.YtpfkhcgeblihcaaDoor.Kuk
