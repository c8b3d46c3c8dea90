/-
  What was read by both held against each other: entries, arrays, slots.
-/
import Derived.Test.YtoklhjooldfcfaaYn
import Derived.Deep.MidRow
import Derived.DeepKeys
namespace Go.Proofs.Ytoklhjooldfcfaa.Yq
open Go.ChangeShapes Go.WideShapes Go.ChangeAt Go.RowKit
open Bytes8 Blk8 Own8 OwnM OwnE OwnA Rows2 Ob Yc Yp Yd Yg Yh Yj Yi Yl Ym Yn
set_option linter.unusedVariables false
set_option linter.unusedSimpArgs false
set_option maxRecDepth 100000

theorem idInfo : (Try.prog.info? 26).map (·.size) = some 16 := by kernel_rfl
abbrev k16 (K : Nat → Int) : List Value := [.int .u8 (K 0), .int .u8 (K 1), .int .u8 (K 2), .int .u8 (K 3), .int .u8 (K 4), .int .u8 (K 5), .int .u8 (K 6), .int .u8 (K 7), .int .u8 (K 8), .int .u8 (K 9), .int .u8 (K 10), .int .u8 (K 11), .int .u8 (K 12), .int .u8 (K 13), .int .u8 (K 14), .int .u8 (K 15)]
theorem id_lits (K : Nat → Int) (hK : IdOk K) : Try.prog.keyLits 2 26 [.int .u8 (K 0), .int .u8 (K 1), .int .u8 (K 2), .int .u8 (K 3), .int .u8 (K 4), .int .u8 (K 5), .int .u8 (K 6), .int .u8 (K 7), .int .u8 (K 8), .int .u8 (K 9), .int .u8 (K 10), .int .u8 (K 11), .int .u8 (K 12), .int .u8 (K 13), .int .u8 (K 14), .int .u8 (K 15)] = some ((idL K).map (Lit.int .u8)) := by
  have wfi : ∀ i, (Lit.int .u8 (K i)).wf = true := fun i => by
    have := hK i
    simp [Lit.wf, IntKind.min, IntKind.max, IntKind.signed, IntKind.bits]
    omega
  have c1 : Try.prog.cellsOf 26 = 16 := by kernel_rfl
  have c2 : Try.prog.cellsOf 5 = 1 := by kernel_rfl
  have hr : List.range 16 = [0, 1, 2, 3, 4, 5, 6, 7, 8, 9, 10, 11, 12, 13, 14, 15] := rfl
  simp [Program.keyLits, Try.underlying26, Try.underlying5, c1, c2, hr, wfi, idL]
theorem neq_id (K : Nat → Int) (hK : IdOk K) (w : World) : (binOp .neq 26 (.agg #[.int .u8 (K 0), .int .u8 (K 1), .int .u8 (K 2), .int .u8 (K 3), .int .u8 (K 4), .int .u8 (K 5), .int .u8 (K 6), .int .u8 (K 7), .int .u8 (K 8), .int .u8 (K 9), .int .u8 (K 10), .int .u8 (K 11), .int .u8 (K 12), .int .u8 (K 13), .int .u8 (K 14), .int .u8 (K 15)]) (.agg #[.int .u8 (K 0), .int .u8 (K 1), .int .u8 (K 2), .int .u8 (K 3), .int .u8 (K 4), .int .u8 (K 5), .int .u8 (K 6), .int .u8 (K 7), .int .u8 (K 8), .int .u8 (K 9), .int .u8 (K 10), .int .u8 (K 11), .int .u8 (K 12), .int .u8 (K 13), .int .u8 (K 14), .int .u8 (K 15)])).run Try.prog w = .ok (.bool false) w := by
  obtain ⟨r, hr, hiff⟩ := run_equalIn_deep (P := Try.prog) 9998 2 26 (by kernel_rfl) w 2 2 (.agg #[.int .u8 (K 0), .int .u8 (K 1), .int .u8 (K 2), .int .u8 (K 3), .int .u8 (K 4), .int .u8 (K 5), .int .u8 (K 6), .int .u8 (K 7), .int .u8 (K 8), .int .u8 (K 9), .int .u8 (K 10), .int .u8 (K 11), .int .u8 (K 12), .int .u8 (K 13), .int .u8 (K 14), .int .u8 (K 15)]) (.agg #[.int .u8 (K 0), .int .u8 (K 1), .int .u8 (K 2), .int .u8 (K 3), .int .u8 (K 4), .int .u8 (K 5), .int .u8 (K 6), .int .u8 (K 7), .int .u8 (K 8), .int .u8 (K 9), .int .u8 (K 10), .int .u8 (K 11), .int .u8 (K 12), .int .u8 (K 13), .int .u8 (K 14), .int .u8 (K 15)]) ((idL K).map (Lit.int .u8)) ((idL K).map (Lit.int .u8)) (by kernel_rfl) (by kernel_rfl) (id_lits K hK) (id_lits K hK)
  have h : r = true := hiff.2 rfl
  subst h
  rw [run_neq_struct, show (10000 : Nat) = 9998 + 2 from rfl, hr]
  rfl
theorem ent_range {w : World} {g : Nat} {T : TypeId} {s r m x : Int} {K : Nat → Int} {A : Option Addr} {n c : Nat} (h : Blk w g (entL s r m K x A n c) T) : w.rangeAt g 3 (k16 K) := fun j v hj => by
  have hlt : j < 16 := by
    have := (List.getElem?_eq_some_iff.1 hj).1
    simpa using this
  refine h.cell ?_
  rw [← hj]
  unfold entL
  rcases j with _ | _ | _ | _ | _ | _ | _ | _ | _ | _ | _ | _ | _ | _ | _ | _ | j
  all_goals first | rfl | omega
theorem wpList_load_mid_want {P : Program} {ops : Array Oper} {rest : List Oper} {op : Oper} {a : Act} {w : World} {Q : Exit → Act → World → Prop} (hw : Region.wanted op (yielded ops a.tmps) = true) (ty : TypeId) (x : Operand) (ho : op.op = .load ty x)
    (b o : Nat) (hx : a.eval x = .pointer (some ⟨b, o, none⟩)) (cs : List Value) (d : TypeDesc) (hc : w.rangeAt b o cs)
    (hu : P.underlying ty = some d) (hd : d.isRow = true) (hi : (P.info? ty).map (·.size) = some cs.length)
    (h : wpList P ops Q rest (a.put op.dst (.agg cs.toArray)) w) : wpList P ops Q (op :: rest) a w :=
  BigFrame.wpList_want hw fun _ hK => wp_load_mid ty x ho b o hx cs d hc hu hd hi (hK _ _ h)

set_option maxHeartbeats 4000000 in
theorem sameSlots_yes (A B : Option Addr) (n c d : Nat) (f g : Nat → Int) (w : World) (h1 : In2 w A n f g) (h2 : In2 w B n f g) (hn : n ≤ 1000000) :
    Calls Try.prog 17 #[.slice A n c, .slice B n d] w fun e w' => e = .returned (.bool true) ∧ Below w.heap.size w w' := by
  have HA := Lib.hid h1
  have HB := Lib.hid h2
  clear h1 h2
  go_enter Try.func17, Try.ntmps17
  go_wp2
  go_loopw [5] (fun i wr => ∃ k : Nat, k ≤ n ∧ i = .int .i64 (k : Int) ∧ Hid (Below w.heap.size w wr)) (fun i _ => n - (intOf i).toNat)
  case atStart => exact ⟨0, Nat.zero_le _, rfl, Lib.hid (Below.refl _ _)⟩
  case round =>
    obtain ⟨k, hk, rfl, hb⟩ := hrel
    by_cases hlt : k < n
    · obtain ⟨b1, o1, rfl, _, c1, c1', _⟩ := (HA.out.keep hb.out.drew) k hlt
      obtain ⟨b2, o2, rfl, _, d1, d1', _⟩ := (HB.out.keep hb.out.drew) k hlt
      have hk0 : (0 : Int) ≤ (k : Int) := by omega
      have hkn : (k : Int) < (n : Int) := by omega
      generalize f k = x at *
      generalize g k = y at *
      go_wp2
      go_region
      all_goals
        go_wp2
        go_roundw
        case rel => exact ⟨k + 1, by omega, by go_num, Lib.hid hb.out.drew⟩
        case measure => simp [intOf]; omega
    · obtain rfl : k = n := by omega
      go_wp2
      go_ret
      exact ⟨rfl, hb.out⟩
set_option maxHeartbeats 4000000 in
theorem sameArray_yes (x : Int) (A B : Option Addr) (n c d : Nat) (f : Nat → Int) (w : World) (h1 : InInts .u64 w A n f) (h2 : InInts .u64 w B n f) (hn : n ≤ 1000000) :
    Calls Try.prog 16 #[arrV x A n c, arrV x B n d] w fun e w' => e = .returned (.bool true) ∧ Below w.heap.size w w' := by
  have B0 := Lib.hid (((Below.refl w.heap.size w).alloc (Nat.le_refl _) (arrC 39 x A n c)).alloc (by simp) (arrC 42 x B n d))
  have HS := Lib.hid fun (W : World) (h : Below w.heap.size w W) => samePlaces_yes A B n c d f W (h1.below h) (h2.below h) hn
  clear h1 h2
  go_enter Try.func16, Try.ntmps16
  go_wp2_with (go_at_call 26; (with_reducible refine (HS.out _ B0.out).mono ?_); rintro e w2 ⟨rfl, hb2⟩; have HB2 := Lib.hid (B0.out.trans (hb2.mono B0.out.size)); clear hb2)
  go_ret
  exact ⟨rfl, HB2.out⟩

set_option maxHeartbeats 8000000 in
theorem sameEntry_yes (s r m : Int) (K : Nat → Int) (x : Int) (A B : Option Addr) (n c d : Nat) (f g : Nat → Int) (w : World) (h1 : In2 w A n f g) (h2 : In2 w B n f g) (hn : n ≤ 1000000) (hK : IdOk K) :
    Calls Try.prog 15 #[entV s r m K x A n c, entV s r m K x B n d] w fun e w' => e = .returned (.bool true) ∧ Below w.heap.size w w' := by
  have B0 := Lib.hid (((Below.refl w.heap.size w).alloc (Nat.le_refl _) (entC 29 s r m K x A n c)).alloc (by simp) (entC 34 s r m K x B n d))
  have P0 := Lib.hid ((show Blk (w.alloc (entC 29 s r m K x A n c)) w.heap.size (entL s r m K x A n c) 29 from Blk.new w _ _).alloc (entC 34 s r m K x B n d))
  have Q0 := Lib.hid (show Blk ((w.alloc (entC 29 s r m K x A n c)).alloc (entC 34 s r m K x B n d)) (w.heap.size + 1) (entL s r m K x B n d) 34 from Blk.new_at _ _ _ _ (by simp))
  have HA := Lib.hid h1
  have HB := Lib.hid h2
  have hneq := neq_id K hK
  clear h1 h2
  have p0 := P0.out.cell (i := 0) rfl; have p1 := P0.out.cell (i := 1) rfl; have p2 := P0.out.cell (i := 2) rfl; have p19 := P0.out.cell (i := 19) rfl; have p20 := P0.out.cell (i := 20) rfl
  have q0 := Q0.out.cell (i := 0) rfl; have q1 := Q0.out.cell (i := 1) rfl; have q2 := Q0.out.cell (i := 2) rfl; have q19 := Q0.out.cell (i := 19) rfl; have q20 := Q0.out.cell (i := 20) rfl
  go_enter Try.func15, Try.ntmps15
  go_wp2_with (first
    | (refine wpList_load_mid_want rfl 26 (.tmp 26) rfl w.heap.size 3 rfl [.int .u8 (K 0), .int .u8 (K 1), .int .u8 (K 2), .int .u8 (K 3), .int .u8 (K 4), .int .u8 (K 5), .int .u8 (K 6), .int .u8 (K 7), .int .u8 (K 8), .int .u8 (K 9), .int .u8 (K 10), .int .u8 (K 11), .int .u8 (K 12), .int .u8 (K 13), .int .u8 (K 14), .int .u8 (K 15)] _ (ent_range P0.out) Try.underlying26 rfl idInfo ?_)
    | (refine wpList_load_mid_want rfl 26 (.tmp 28) rfl (w.heap.size + 1) 3 rfl [.int .u8 (K 0), .int .u8 (K 1), .int .u8 (K 2), .int .u8 (K 3), .int .u8 (K 4), .int .u8 (K 5), .int .u8 (K 6), .int .u8 (K 7), .int .u8 (K 8), .int .u8 (K 9), .int .u8 (K 10), .int .u8 (K 11), .int .u8 (K 12), .int .u8 (K 13), .int .u8 (K 14), .int .u8 (K 15)] _ (ent_range Q0.out) Try.underlying26 rfl idInfo ?_))
  generalize (w.alloc (entC 29 s r m K x A n c)).alloc (entC 34 s r m K x B n d) = w0 at *
  clear p0 p1 p2 p19 q0 q1 q2 q19 hneq
  go_loopw [5] (fun i wr => ∃ k : Nat, k ≤ n ∧ i = .int .i64 (k : Int) ∧ Hid (Below w0.heap.size w0 wr)) (fun i _ => n - (intOf i).toNat)
  case atStart => exact ⟨0, Nat.zero_le _, rfl, Lib.hid (Below.refl _ _)⟩
  case round =>
    obtain ⟨k, hk, rfl, hb⟩ := hrel
    have Bw := Lib.hid (B0.out.trans (hb.out.mono B0.out.size))
    have pr := (P0.out.below hb.out P0.out.lt).cell (i := 20) rfl
    have qr := (Q0.out.below hb.out Q0.out.lt).cell (i := 20) rfl
    by_cases hlt : k < n
    · obtain ⟨b1, o1, rfl, _, c1, c1', _⟩ := (HA.out.keep Bw.out.drew) k hlt
      obtain ⟨b2, o2, rfl, _, d1, d1', _⟩ := (HB.out.keep Bw.out.drew) k hlt
      have pd := (P0.out.below hb.out P0.out.lt).drew.cell (i := 20) rfl
      have qd := (Q0.out.below hb.out Q0.out.lt).drew.cell (i := 20) rfl
      have hk0 : (0 : Int) ≤ (k : Int) := by omega
      have hkn : (k : Int) < (n : Int) := by omega
      generalize f k = fx at *
      generalize g k = gx at *
      go_wp2
      go_region
      all_goals
        go_wp2
        go_roundw
        case rel => exact ⟨k + 1, by omega, by go_num, Lib.hid hb.out.drew⟩
        case measure => simp [intOf]; omega
    · obtain rfl : k = n := by omega
      go_wp2
      go_ret
      exact ⟨rfl, Bw.out⟩
end Go.Proofs.Ytoklhjooldfcfaa.Yq
