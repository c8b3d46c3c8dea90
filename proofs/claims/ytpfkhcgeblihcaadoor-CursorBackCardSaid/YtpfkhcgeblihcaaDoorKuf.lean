/-
  Cursors compared: the program's way.
-/
import Derived.Test.YtpfkhcgeblihcaaDoorKue
import Derived.Test.YtpfkhcgeblihcaaDoorLt
import Derived.Lib.Bytealg
import Derived.Laws.Externs
import Derived.Laws.Tables
import Derived.DeepKeys
import Derived.Deep.Cut
import Derived.Deep.RegionHeld3
namespace Go.Proofs.YtpfkhcgeblihcaaDoor.Kuf
open Go.ChangeShapes Go.WideShapes Go.ChangeAt Go.RowKit
open Bytes8 Blk8 Own8 Fa Fo Kua Kub Kuc Kud Kue
set_option linter.unusedVariables false
set_option linter.unusedSimpArgs false
set_option maxRecDepth 100000

/-! ## plain -/
def ordI (a b : Int) : Int := if a < b then -1 else if b < a then 1 else 0
def cmpK (l m : List Int) : Int := if ltL l m = true then -1 else if l = m then 0 else 1
def orI (a b : Int) : Int := if a = 0 then b else a
def cmpC (a b : Cur) : Int := if idL a.seq = idL b.seq then ordI a.n b.n else orI (ordI a.real b.real) (cmpK (idL a.seq) (idL b.seq))
theorem ordI_neg (a b : Int) : ordI b a = -ordI a b := by unfold ordI; split <;> split <;> omega
theorem ordI_self (a : Int) : ordI a a = 0 := by unfold ordI; rw [if_neg (by omega), if_neg (by omega)]
theorem ordI_bd (a b : Int) : -1 ≤ ordI a b ∧ ordI a b ≤ 1 := by unfold ordI; split <;> (try split) <;> omega
theorem ordI_lt (a b : Int) : ordI a b < 0 ↔ a < b := by unfold ordI; split <;> (try split) <;> omega
theorem ordI_zero (a b : Int) : ordI a b = 0 ↔ a = b := by unfold ordI; split <;> (try split) <;> omega
theorem cmpK_self (l : List Int) : cmpK l l = 0 := by unfold cmpK; rw [ltL_irrefl]; simp
theorem cmpK_neg (l m : List Int) : cmpK m l = -cmpK l m := by
  unfold cmpK
  by_cases h : l = m
  · subst h; rw [ltL_irrefl]; simp
  · by_cases h1 : ltL l m = true
    · rw [if_pos h1, if_neg (by rw [ltL_asymm l m h1]; decide), if_neg (fun e => h e.symm)]; rfl
    · by_cases h2 : ltL m l = true
      · rw [if_neg h1, if_neg h, if_pos h2]
      · exact absurd (ltL_total l m (by simpa using h1) (by simpa using h2)) h
theorem cmpK_bd (l m : List Int) : -1 ≤ cmpK l m ∧ cmpK l m ≤ 1 := by unfold cmpK; split <;> (try split) <;> omega
theorem cmpC_neg (a b : Cur) : cmpC b a = -cmpC a b := by
  unfold cmpC
  by_cases h : idL a.seq = idL b.seq
  · rw [if_pos h, if_pos h.symm, ordI_neg]
  · rw [if_neg h, if_neg (fun e => h e.symm)]
    unfold orI
    rw [ordI_neg a.real b.real, cmpK_neg (idL a.seq)]
    by_cases h0 : ordI a.real b.real = 0
    · rw [if_pos h0, if_pos (by omega)]
    · rw [if_neg h0, if_neg (by omega)]
theorem cmpC_self (a : Cur) : cmpC a a = 0 := by unfold cmpC; rw [if_pos rfl, ordI_self]
theorem cmpC_bd (a b : Cur) : -1 ≤ cmpC a b ∧ cmpC a b ≤ 1 := by
  unfold cmpC orI
  have h1 := ordI_bd a.n b.n
  have h2 := ordI_bd a.real b.real
  have h3 := cmpK_bd (idL a.seq) (idL b.seq)
  split
  · exact h1
  · split <;> assumption

/-! ## the library's -/
theorem comp_nums : ∀ l m : List Int, AllB l → AllB m → Lib.compareBytes (l.map fun n => n.toNat.toUInt8) (m.map fun n => n.toNat.toUInt8) = cmpK l m
  | [], [], _, _ => rfl
  | [], _ :: _, _, _ => rfl
  | _ :: _, [], _, _ => rfl
  | x :: l, y :: m, hl, hm => by
    have hx := hl x (by simp)
    have hy := hm y (by simp)
    have ih := comp_nums l m (fun n h => hl n (by simp [h])) (fun n h => hm n (by simp [h]))
    simp only [List.map_cons, Lib.compareBytes, u8_lt hx hy, u8_lt hy hx, ih]
    by_cases h1 : x < y
    · rw [if_pos h1]
      have e : ltL (x :: l) (y :: m) = true := by simp [ltL, h1]
      unfold cmpK
      rw [if_pos e]
    · rw [if_neg h1]
      by_cases h2 : y < x
      · rw [if_pos h2]
        have e : ltL (x :: l) (y :: m) = false := by simp [ltL, h1, h2]
        unfold cmpK
        rw [if_neg (by rw [e]; decide), if_neg (fun h => by injection h with h _; omega)]
      · rw [if_neg h2]
        obtain rfl : x = y := by omega
        have e : ltL (x :: l) (x :: m) = ltL l m := by simp [ltL]
        unfold cmpK
        simp [e]
theorem push_T (acc : ByteArray) (x : Int) (l : List Int) : acc.push x.toNat.toUInt8 ++ T l = acc ++ T (x :: l) := by
  apply ByteArray.ext
  apply Array.toList_inj.1
  have e := T_toList l; have f := T_toList (x :: l)
  rw [ByteArray.toList_eq] at e f
  rw [ByteArray.data_append, ByteArray.data_append, Array.toList_append, Array.toList_append, e, f]
  simp
theorem run_loadBytes (w : World) : ∀ (l : List Int) (a : Addr) (acc : ByteArray), (∀ j, j < l.length → w.cell? (a.add j) = some (.int .u8 (l.getD j 0))) → (Extern.Bytes.loadBytes a l.length acc).run Tryd.prog w = .ok (acc ++ T l) w
  | [], a, acc, _ => by
    show Result.ok acc w = _
    have : acc ++ T [] = acc := by
      apply ByteArray.ext
      rw [ByteArray.data_append]
      simp [T, strOfNums]
    rw [this]
  | x :: l, a, acc, h => by
    have h0 := h 0 (by simp)
    rw [Addr.add_zero'] at h0
    have ih := run_loadBytes w l (a.add 1) (acc.push x.toNat.toUInt8) fun j hj => by
      have := h (j + 1) (by simpa using hj)
      rw [Addr.add_add, Nat.add_comm 1 j, this]; rfl
    rw [push_T] at ih
    have e : (Extern.Bytes.loadBytes a (l.length + 1) acc).run Tryd.prog w = (Extern.Bytes.loadBytes (a.add 1) l.length (acc.push x.toNat.toUInt8)).run Tryd.prog w := by
      conv => lhs; unfold Extern.Bytes.loadBytes
      simp only [Sem.run_bind, run_load, h0, Result.andThen_ok]
      simp [h0]
    rw [List.length_cons, e, ih]
theorem run_bcmp (w : World) (a b : Addr) (l m : List Int) (ca cb : Nat) (hl : AllB l) (hm : AllB m) (h1 : ∀ j, j < l.length → w.cell? (a.add j) = some (.int .u8 (l.getD j 0))) (h2 : ∀ j, j < m.length → w.cell? (b.add j) = some (.int .u8 (m.getD j 0))) :
    (Extern.BytealgCompare.compare #[.slice (some a) l.length ca, .slice (some b) m.length cb]).run Tryd.prog w = .ok (.int .i64 (cmpK l m)) w := by
  have e1 := run_loadBytes w l a .empty h1
  have e2 := run_loadBytes w m b .empty h2
  have z : ∀ t : List Int, ByteArray.empty ++ T t = T t := fun t => by
    apply ByteArray.ext
    apply Array.toList_inj.1
    rw [ByteArray.data_append, Array.toList_append]
    rfl
  rw [z] at e1 e2
  change Sem.run Tryd.prog (do pure (goInt (Extern.BytealgCompare.cmp (← Extern.Bytes.loadBytes a l.length .empty) (← Extern.Bytes.loadBytes b m.length .empty)))) w = _
  simp only [Sem.run_bind, Sem.run_pure, Result.andThen, e1, e2]
  rw [Lib.cmp_eq, ← ByteArray.toList_eq, ← ByteArray.toList_eq, T_toList, T_toList, comp_nums l m hl hm]
  rfl

/-! ## contracts -/
theorem bcmp_any (g h o p : Nat) (K M : Nat → Int) (hK : IdOk K) (hM : IdOk M) (w : World) (h1 : w.rangeAt g o (idCells K)) (h2 : w.rangeAt h p (idCells M)) :
    Calls Tryd.prog 37 #[.slice (some ⟨g, o, none⟩) 16 16, .slice (some ⟨h, p, none⟩) 16 16] w fun e w' => e = .returned (.int .i64 (cmpK (idL K) (idL M))) ∧ w = w' := by
  have cell : ∀ (g o : Nat) (K : Nat → Int), w.rangeAt g o (idCells K) → ∀ j, j < (idL K).length → w.cell? ((⟨g, o, none⟩ : Addr).add j) = some (.int .u8 ((idL K).getD j 0)) := fun g o K h j hj => by
    rw [add_none]
    refine h j _ ?_
    have hj' : j < 16 := hj
    rcases j with _ | _ | _ | _ | _ | _ | _ | _ | _ | _ | _ | _ | _ | _ | _ | _ | j
    all_goals first | rfl | omega
  have all : ∀ K, IdOk K → AllB (idL K) := fun K hK n hn => by
    unfold idL at hn
    simp at hn
    rcases hn with rfl | rfl | rfl | rfl | rfl | rfl | rfl | rfl | rfl | rfl | rfl | rfl | rfl | rfl | rfl | rfl
    all_goals exact hK _
  have hr := run_bcmp w ⟨g, o, none⟩ ⟨h, p, none⟩ (idL K) (idL M) 16 16 (all K hK) (all M hM) (cell g o K h1) (cell h p M h2)
  have hc : (callFunc 49 #[.slice (some ⟨g, o, none⟩) 16 16, .slice (some ⟨h, p, none⟩) 16 16]).run Tryd.prog w = .ok (.value (.int .i64 (cmpK (idL K) (idL M)))) w := by
    rw [run_callFunc_extern Tryd.func49 (by kernel_rfl) (by kernel_rfl) (by kernel_rfl) (e := Extern.BytealgCompare.compare) (by kernel_rfl), show (16 : Nat) = (idL K).length from rfl]
    rw [show (Value.slice (some ⟨h, p, none⟩) (idL K).length (idL K).length) = Value.slice (some ⟨h, p, none⟩) (idL M).length 16 from rfl, show (Value.slice (some ⟨g, o, none⟩) (idL K).length (idL K).length) = Value.slice (some ⟨g, o, none⟩) (idL K).length 16 from rfl, hr]
    rfl
  generalize cmpK (idL K) (idL M) = C at *
  clear cell all hr h1 h2
  go_enter Tryd.func37, Tryd.ntmps37
  go_wp2
  go_ret
  exact ⟨rfl, rfl⟩
theorem nan_no (a : Int) (w : World) : Calls Tryd.prog 48 #[.int .u64 a] w fun e w' => e = .returned (.bool false) ∧ w = w' := by
  go_enter Tryd.func48, Tryd.ntmps48
  go_wp2
  go_ret
  exact ⟨rfl, rfl⟩
theorem cmpu_any (a b : Int) (w : World) : Calls Tryd.prog 35 #[.int .u64 a, .int .u64 b] w fun e w' => e = .returned (.int .i64 (ordI a b)) ∧ w = w' := by
  rcases Int.lt_trichotomy a b with h | h | h
  · have e : Hid (ordI a b = -1) := Lib.hid (if_pos h)
    go_enter Tryd.func35, Tryd.ntmps35
    go_wp2_with (go_at_call 48; (with_reducible refine (nan_no _ _).mono ?_); rintro e w' ⟨rfl, rfl⟩)
    go_ret
    exact ⟨by rw [e.out]; rfl, rfl⟩
  · have e : Hid (ordI a b = 0) := Lib.hid (by unfold ordI; rw [if_neg (by omega), if_neg (by omega)])
    have h1 : ¬ a < b := by omega
    have h2 : ¬ b < a := by omega
    clear h
    go_enter Tryd.func35, Tryd.ntmps35
    go_wp2_with (go_at_call 48; (with_reducible refine (nan_no _ _).mono ?_); rintro e w' ⟨rfl, rfl⟩)
    go_ret
    exact ⟨by rw [e.out]; rfl, rfl⟩
  · have e : Hid (ordI a b = 1) := Lib.hid (by unfold ordI; rw [if_neg (by omega), if_pos h])
    have h1 : ¬ a < b := by omega
    go_enter Tryd.func35, Tryd.ntmps35
    go_wp2_with (go_at_call 48; (with_reducible refine (nan_no _ _).mono ?_); rintro e w' ⟨rfl, rfl⟩)
    go_ret
    exact ⟨by rw [e.out]; rfl, rfl⟩
set_option maxHeartbeats 2000000 in
theorem or_any (g : Nat) (a b : Int) (w : World) (h0 : w.cell? ⟨g, 0, none⟩ = some (.int .i64 a)) (h1 : w.cell? ⟨g, 1, none⟩ = some (.int .i64 b)) :
    Calls Tryd.prog 36 #[.slice (some ⟨g, 0, none⟩) 2 2] w fun e w' => e = .returned (.int .i64 (orI a b)) ∧ w = w' := by
  have HO0 : Hid (a ≠ 0 → orI a b = a) := Lib.hid fun h => if_neg h
  have HO1 : Hid (a = 0 → orI a b = b) := Lib.hid fun h => if_pos h
  go_enter Tryd.func36, Tryd.ntmps36
  go_wp2
  go_loopw [8] (fun i wr => ∃ k : Nat, k ≤ 2 ∧ (i = .int .i64 0 ∧ k = 0 ∨ i = .int .i64 1 ∧ k = 1 ∨ i = .int .i64 2 ∧ k = 2) ∧ Hid ((0 < k → a = 0) ∧ (1 < k → b = 0)) ∧ w = wr) (fun i _ => 2 - (intOf i).toNat)
  case atStart => exact ⟨0, by omega, .inl ⟨rfl, rfl⟩, Lib.hid ⟨fun h => absurd h (by omega), fun h => absurd h (by omega)⟩, rfl⟩
  case round =>
    obtain ⟨k, hk, hi, hall, rfl⟩ := hrel
    rcases hi with ⟨rfl, rfl⟩ | ⟨rfl, rfl⟩ | ⟨rfl, rfl⟩
    · by_cases h : a = 0
      · have HR := Lib.hid h
        subst h
        go_wp2
        go_round
        case rel => exact ⟨1, by omega, .inr (.inl ⟨rfl, rfl⟩), Lib.hid (by simp), trivial⟩
        case measure => simp [intOf]
      · have HR := Lib.hid (HO0.out h)
        have hb : (a != 0) = true := by simpa using h
        clear h
        go_wp2
        go_ret
        exact ⟨by rw [HR.out]; rfl, rfl⟩
    · have ha := hall.out.1 (by omega)
      by_cases h : b = 0
      · subst h
        go_wp2
        go_round
        case rel => exact ⟨2, by omega, .inr (.inr ⟨rfl, rfl⟩), Lib.hid (by simp [ha]), trivial⟩
        case measure => simp [intOf]
      · have HR := Lib.hid (HO1.out ha)
        have hb : (b != 0) = true := by simpa using h
        clear h ha
        go_wp2
        go_ret
        exact ⟨by rw [HR.out]; rfl, rfl⟩
    · have ha := hall.out.1 (by omega)
      have hb := hall.out.2 (by omega)
      have HR := Lib.hid (show orI a b = 0 by rw [HO1.out ha, hb])
      clear ha hb
      go_wp2
      go_ret
      exact ⟨by rw [HR.out]; rfl, rfl⟩


theorem id_lits (K : Nat → Int) (hK : IdOk K) : Tryd.prog.keyLits 2 23 (idCells K) = some ((idL K).map (Lit.int .u8)) := by
  have wfi : ∀ i, (Lit.int .u8 (K i)).wf = true := fun i => by
    have := hK i
    simp [Lit.wf, IntKind.min, IntKind.max, IntKind.signed, IntKind.bits]
    omega
  have c1 : Tryd.prog.cellsOf 23 = 16 := by kernel_rfl
  have c2 : Tryd.prog.cellsOf 5 = 1 := by kernel_rfl
  have hr : List.range 16 = [0, 1, 2, 3, 4, 5, 6, 7, 8, 9, 10, 11, 12, 13, 14, 15] := rfl
  simp [Program.keyLits, Tryd.underlying23, Tryd.underlying5, c1, c2, hr, wfi, idL, idCells]
theorem lits_eq (l m : List Int) : (l.map (Lit.int .u8) = m.map (Lit.int .u8)) ↔ l = m := by
  constructor
  · intro h
    exact List.map_inj_right (fun x y e => by injection e) |>.1 h
  · rintro rfl; rfl
theorem eql_ids (K M : Nat → Int) (hK : IdOk K) (hM : IdOk M) (w : World) : (binOp .eql 23 (.agg (idCells K).toArray) (.agg (idCells M).toArray)).run Tryd.prog w = .ok (.bool (decide (idL K = idL M))) w := by
  obtain ⟨r, hr, hiff⟩ := run_equalIn_deep (P := Tryd.prog) 9998 2 23 (by kernel_rfl) w 2 2 (.agg (idCells K).toArray) (.agg (idCells M).toArray) ((idL K).map (Lit.int .u8)) ((idL M).map (Lit.int .u8)) (by kernel_rfl) (by kernel_rfl) (id_lits K hK) (id_lits M hM)
  rw [lits_eq] at hiff
  rw [run_eql_struct, show (10000 : Nat) = 9998 + 2 from rfl, hr]
  have h : r = decide (idL K = idL M) := by
    by_cases he : idL K = idL M
    · rw [hiff.2 he]; simp [he]
    · have h1 : r ≠ true := fun h => he (hiff.1 h)
      cases r with
      | true => exact absurd rfl h1
      | false => simp [he]
  rw [h]
  rfl
theorem sl16 (g : Nat) (W : World) : (Instr.sliceAt 23 (.pointer (some ⟨g, 0, none⟩)) none none none).run Tryd.prog W = .ok (.slice (some ⟨g, 0, none⟩) 16 16) W := by
  have e1 : Tryd.prog.arrayLen 23 = 16 := by kernel_rfl
  have e2 : Tryd.prog.elem 23 = 5 := by kernel_rfl
  have e3 : (sizeOf 5).run Tryd.prog W = .ok 1 W := by kernel_rfl
  rw [run_sliceAt_array_all W 23 ⟨g, 0, none⟩ (by kernel_rfl), e1, e2, e3]
  rfl
theorem at_slot (n : Nat) {P : Program} {ops : Array Oper} {Q : Exit → Act → World → Prop} {rest : List Oper} {a : Act} {w : World} {op : Op} {ty : TypeId} {pos : String} {af : Array Edge} {gd : Option (Nat × Bool)}
    (h : wpList P ops Q (⟨some n, op, ty, pos, af, gd⟩ :: rest) a w) : wpList P ops Q (⟨some n, op, ty, pos, af, gd⟩ :: rest) a w := h
set_option maxHeartbeats 4000000 in
theorem compare_any (a b : Cur) (ha : a.Ok) (hb : b.Ok) (w : World) : Calls Tryd.prog 18 #[a.v, b.v] w fun e w' => e = .returned (.int .i64 (cmpC a b)) ∧ Below w.heap.size w w' := by
  have B0 := Lib.hid (((Below.refl w.heap.size w).alloc (Nat.le_refl _) (.cells a.cells.toArray 26)).alloc (by simp) (.cells b.cells.toArray 26))
  have R1 := Lib.hid ((Blk.new w a.cells 26).alloc (.cells b.cells.toArray 26))
  have R2 := Lib.hid (Blk.new_at (w.alloc (.cells a.cells.toArray 26)) b.cells 26 (w.heap.size + 1) (by simp))
  have he := fun W => eql_ids a.seq b.seq ha.seq hb.seq W
  have HC : Hid (cmpC a b = if decide (idL a.seq = idL b.seq) = true then ordI a.n b.n else orI (ordI a.real b.real) (cmpK (idL a.seq) (idL b.seq))) := Lib.hid (by unfold cmpC; simp only [decide_eq_true_eq])
  go_enter Tryd.func18, Tryd.ntmps18
  go_upto_region 1 with fail
  dsimp only [Cur.cells] at B0 R1 R2
  change Hid (Below _ _ ((w.alloc (.cells #[.int .u8 (a.seq 0), .int .u8 (a.seq 1), .int .u8 (a.seq 2), .int .u8 (a.seq 3), .int .u8 (a.seq 4), .int .u8 (a.seq 5), .int .u8 (a.seq 6), .int .u8 (a.seq 7), .int .u8 (a.seq 8), .int .u8 (a.seq 9), .int .u8 (a.seq 10), .int .u8 (a.seq 11), .int .u8 (a.seq 12), .int .u8 (a.seq 13), .int .u8 (a.seq 14), .int .u8 (a.seq 15), .int .u64 a.n, .int .u8 (a.boot 0), .int .u8 (a.boot 1), .int .u8 (a.boot 2), .int .u8 (a.boot 3), .int .u8 (a.boot 4), .int .u8 (a.boot 5), .int .u8 (a.boot 6), .int .u8 (a.boot 7), .int .u8 (a.boot 8), .int .u8 (a.boot 9), .int .u8 (a.boot 10), .int .u8 (a.boot 11), .int .u8 (a.boot 12), .int .u8 (a.boot 13), .int .u8 (a.boot 14), .int .u8 (a.boot 15), .int .u64 a.mono, .int .u64 a.real, .int .u64 a.xor] 26)).alloc (.cells #[.int .u8 (b.seq 0), .int .u8 (b.seq 1), .int .u8 (b.seq 2), .int .u8 (b.seq 3), .int .u8 (b.seq 4), .int .u8 (b.seq 5), .int .u8 (b.seq 6), .int .u8 (b.seq 7), .int .u8 (b.seq 8), .int .u8 (b.seq 9), .int .u8 (b.seq 10), .int .u8 (b.seq 11), .int .u8 (b.seq 12), .int .u8 (b.seq 13), .int .u8 (b.seq 14), .int .u8 (b.seq 15), .int .u64 b.n, .int .u8 (b.boot 0), .int .u8 (b.boot 1), .int .u8 (b.boot 2), .int .u8 (b.boot 3), .int .u8 (b.boot 4), .int .u8 (b.boot 5), .int .u8 (b.boot 6), .int .u8 (b.boot 7), .int .u8 (b.boot 8), .int .u8 (b.boot 9), .int .u8 (b.boot 10), .int .u8 (b.boot 11), .int .u8 (b.boot 12), .int .u8 (b.boot 13), .int .u8 (b.boot 14), .int .u8 (b.boot 15), .int .u64 b.mono, .int .u64 b.real, .int .u64 b.xor] 26))) at B0
  change Hid (Blk ((w.alloc (.cells #[.int .u8 (a.seq 0), .int .u8 (a.seq 1), .int .u8 (a.seq 2), .int .u8 (a.seq 3), .int .u8 (a.seq 4), .int .u8 (a.seq 5), .int .u8 (a.seq 6), .int .u8 (a.seq 7), .int .u8 (a.seq 8), .int .u8 (a.seq 9), .int .u8 (a.seq 10), .int .u8 (a.seq 11), .int .u8 (a.seq 12), .int .u8 (a.seq 13), .int .u8 (a.seq 14), .int .u8 (a.seq 15), .int .u64 a.n, .int .u8 (a.boot 0), .int .u8 (a.boot 1), .int .u8 (a.boot 2), .int .u8 (a.boot 3), .int .u8 (a.boot 4), .int .u8 (a.boot 5), .int .u8 (a.boot 6), .int .u8 (a.boot 7), .int .u8 (a.boot 8), .int .u8 (a.boot 9), .int .u8 (a.boot 10), .int .u8 (a.boot 11), .int .u8 (a.boot 12), .int .u8 (a.boot 13), .int .u8 (a.boot 14), .int .u8 (a.boot 15), .int .u64 a.mono, .int .u64 a.real, .int .u64 a.xor] 26)).alloc (.cells #[.int .u8 (b.seq 0), .int .u8 (b.seq 1), .int .u8 (b.seq 2), .int .u8 (b.seq 3), .int .u8 (b.seq 4), .int .u8 (b.seq 5), .int .u8 (b.seq 6), .int .u8 (b.seq 7), .int .u8 (b.seq 8), .int .u8 (b.seq 9), .int .u8 (b.seq 10), .int .u8 (b.seq 11), .int .u8 (b.seq 12), .int .u8 (b.seq 13), .int .u8 (b.seq 14), .int .u8 (b.seq 15), .int .u64 b.n, .int .u8 (b.boot 0), .int .u8 (b.boot 1), .int .u8 (b.boot 2), .int .u8 (b.boot 3), .int .u8 (b.boot 4), .int .u8 (b.boot 5), .int .u8 (b.boot 6), .int .u8 (b.boot 7), .int .u8 (b.boot 8), .int .u8 (b.boot 9), .int .u8 (b.boot 10), .int .u8 (b.boot 11), .int .u8 (b.boot 12), .int .u8 (b.boot 13), .int .u8 (b.boot 14), .int .u8 (b.boot 15), .int .u64 b.mono, .int .u64 b.real, .int .u64 b.xor] 26)) _ _ _) at R1
  change Hid (Blk ((w.alloc (.cells #[.int .u8 (a.seq 0), .int .u8 (a.seq 1), .int .u8 (a.seq 2), .int .u8 (a.seq 3), .int .u8 (a.seq 4), .int .u8 (a.seq 5), .int .u8 (a.seq 6), .int .u8 (a.seq 7), .int .u8 (a.seq 8), .int .u8 (a.seq 9), .int .u8 (a.seq 10), .int .u8 (a.seq 11), .int .u8 (a.seq 12), .int .u8 (a.seq 13), .int .u8 (a.seq 14), .int .u8 (a.seq 15), .int .u64 a.n, .int .u8 (a.boot 0), .int .u8 (a.boot 1), .int .u8 (a.boot 2), .int .u8 (a.boot 3), .int .u8 (a.boot 4), .int .u8 (a.boot 5), .int .u8 (a.boot 6), .int .u8 (a.boot 7), .int .u8 (a.boot 8), .int .u8 (a.boot 9), .int .u8 (a.boot 10), .int .u8 (a.boot 11), .int .u8 (a.boot 12), .int .u8 (a.boot 13), .int .u8 (a.boot 14), .int .u8 (a.boot 15), .int .u64 a.mono, .int .u64 a.real, .int .u64 a.xor] 26)).alloc (.cells #[.int .u8 (b.seq 0), .int .u8 (b.seq 1), .int .u8 (b.seq 2), .int .u8 (b.seq 3), .int .u8 (b.seq 4), .int .u8 (b.seq 5), .int .u8 (b.seq 6), .int .u8 (b.seq 7), .int .u8 (b.seq 8), .int .u8 (b.seq 9), .int .u8 (b.seq 10), .int .u8 (b.seq 11), .int .u8 (b.seq 12), .int .u8 (b.seq 13), .int .u8 (b.seq 14), .int .u8 (b.seq 15), .int .u64 b.n, .int .u8 (b.boot 0), .int .u8 (b.boot 1), .int .u8 (b.boot 2), .int .u8 (b.boot 3), .int .u8 (b.boot 4), .int .u8 (b.boot 5), .int .u8 (b.boot 6), .int .u8 (b.boot 7), .int .u8 (b.boot 8), .int .u8 (b.boot 9), .int .u8 (b.boot 10), .int .u8 (b.boot 11), .int .u8 (b.boot 12), .int .u8 (b.boot 13), .int .u8 (b.boot 14), .int .u8 (b.boot 15), .int .u64 b.mono, .int .u64 b.real, .int .u64 b.xor] 26)) _ _ _) at R2
  generalize (w.alloc (.cells #[.int .u8 (a.seq 0), .int .u8 (a.seq 1), .int .u8 (a.seq 2), .int .u8 (a.seq 3), .int .u8 (a.seq 4), .int .u8 (a.seq 5), .int .u8 (a.seq 6), .int .u8 (a.seq 7), .int .u8 (a.seq 8), .int .u8 (a.seq 9), .int .u8 (a.seq 10), .int .u8 (a.seq 11), .int .u8 (a.seq 12), .int .u8 (a.seq 13), .int .u8 (a.seq 14), .int .u8 (a.seq 15), .int .u64 a.n, .int .u8 (a.boot 0), .int .u8 (a.boot 1), .int .u8 (a.boot 2), .int .u8 (a.boot 3), .int .u8 (a.boot 4), .int .u8 (a.boot 5), .int .u8 (a.boot 6), .int .u8 (a.boot 7), .int .u8 (a.boot 8), .int .u8 (a.boot 9), .int .u8 (a.boot 10), .int .u8 (a.boot 11), .int .u8 (a.boot 12), .int .u8 (a.boot 13), .int .u8 (a.boot 14), .int .u8 (a.boot 15), .int .u64 a.mono, .int .u64 a.real, .int .u64 a.xor] 26)).alloc (.cells #[.int .u8 (b.seq 0), .int .u8 (b.seq 1), .int .u8 (b.seq 2), .int .u8 (b.seq 3), .int .u8 (b.seq 4), .int .u8 (b.seq 5), .int .u8 (b.seq 6), .int .u8 (b.seq 7), .int .u8 (b.seq 8), .int .u8 (b.seq 9), .int .u8 (b.seq 10), .int .u8 (b.seq 11), .int .u8 (b.seq 12), .int .u8 (b.seq 13), .int .u8 (b.seq 14), .int .u8 (b.seq 15), .int .u64 b.n, .int .u8 (b.boot 0), .int .u8 (b.boot 1), .int .u8 (b.boot 2), .int .u8 (b.boot 3), .int .u8 (b.boot 4), .int .u8 (b.boot 5), .int .u8 (b.boot 6), .int .u8 (b.boot 7), .int .u8 (b.boot 8), .int .u8 (b.boot 9), .int .u8 (b.boot 10), .int .u8 (b.boot 11), .int .u8 (b.boot 12), .int .u8 (b.boot 13), .int .u8 (b.boot 14), .int .u8 (b.boot 15), .int .u64 b.mono, .int .u64 b.real, .int .u64 b.xor] 26) = w1 at *
  have HB := Lib.hid fun (g h : Nat) (W : World) (h1 : W.rangeAt g 0 (idCells a.seq)) (h2 : W.rangeAt h 0 (idCells b.seq)) => bcmp_any g h 0 0 a.seq b.seq ha.seq hb.seq W h1 h2
  have HO := Lib.hid fun g W (h0 : W.cell? ⟨g, 0, none⟩ = some (.int .i64 (ordI a.real b.real))) (h1 : W.cell? ⟨g, 1, none⟩ = some (.int .i64 (cmpK (idL a.seq) (idL b.seq)))) => or_any g _ _ W h0 h1
  generalize decide (idL a.seq = idL b.seq) = z at *
  generalize cmpK (idL a.seq) (idL b.seq) = ck at *
  cases z
  · go_upto_region 3 with (first
    | ((with_reducible apply at_slot 6); refine wpList_load_mid rfl 23 (.tmp 5) rfl w.heap.size 0 rfl (idCells a.seq) _ (cur_seq R1.out) Tryd.underlying23 rfl idc_info ?_)
    | ((with_reducible apply at_slot 8); refine wpList_load_mid rfl 23 (.tmp 7) rfl (w.heap.size + 1) 0 rfl (idCells b.seq) _ (cur_seq R2.out) Tryd.underlying23 rfl idc_info ?_)
    | fail)
    have k1 : w1.cell? ⟨w.heap.size, 34, none⟩ = some (.int .u64 a.real) := R1.out.cell rfl
    have k2 : w1.cell? ⟨w.heap.size + 1, 34, none⟩ = some (.int .u64 b.real) := R2.out.cell rfl
    have hl1 := R1.out.lt
    have hl2 := R2.out.lt
    have e0 := World.new_ne w1 ⟨w.heap.size, 34, none⟩ k1
    have e1 := World.new_ne w1 ⟨w.heap.size + 1, 34, none⟩ k2
    have hs := fun (g : Nat) (W : World) => sl16 g W
    have HS := Lib.hid (fun (W : World) (h : Below w1.heap.size w1 W) => (⟨cur_seq (R1.out.below h R1.out.lt), cur_seq (R2.out.below h R2.out.lt)⟩ : W.rangeAt w.heap.size 0 (idCells a.seq) ∧ W.rangeAt (w.heap.size + 1) 0 (idCells b.seq)))
    go_region_held3 (fun W' => W'.cell? ⟨w.heap.size, 34, none⟩ = some (.int .u64 a.real) ∧ W'.cell? ⟨w.heap.size + 1, 34, none⟩ = some (.int .u64 b.real)) (first | (with_reducible exact ⟨k1, k2⟩) | go_keep) (first
      | (go_simp; go_at_call 35; (with_reducible refine (cmpu_any _ _ _).mono ?_); rintro e w' ⟨rfl, rfl⟩)
      | (go_simp; go_at_call 37; (with_reducible refine (HB.out _ _ _ (HS.out _ (Below.refl _ _).drew).1 (HS.out _ (Below.refl _ _).drew).2).mono ?_); rintro e w' ⟨rfl, rfl⟩)
      | (go_simp; go_at_call 36; (with_reducible refine (HO.out _ _ (by simp) (by simp)).mono ?_); rintro e w' ⟨rfl, rfl⟩))
    all_goals
      go_wp2
      go_ret
      exact ⟨by rw [HC.out]; rfl, by first | exact B0.out.drew.alloc B0.out.size _ | exact (B0.out.alloc B0.out.size _).drew⟩
  · have k1 : w1.cell? ⟨w.heap.size, 16, none⟩ = some (.int .u64 a.n) := R1.out.cell rfl
    have k2 : w1.cell? ⟨w.heap.size + 1, 16, none⟩ = some (.int .u64 b.n) := R2.out.cell rfl
    go_upto_region 2 with (first
    | ((with_reducible apply at_slot 6); refine wpList_load_mid rfl 23 (.tmp 5) rfl w.heap.size 0 rfl (idCells a.seq) _ (cur_seq R1.out) Tryd.underlying23 rfl idc_info ?_)
    | ((with_reducible apply at_slot 8); refine wpList_load_mid rfl 23 (.tmp 7) rfl (w.heap.size + 1) 0 rfl (idCells b.seq) _ (cur_seq R2.out) Tryd.underlying23 rfl idc_info ?_)
    | fail)
    go_wp2_with (go_at_call 35; (with_reducible refine (cmpu_any _ _ _).mono ?_); rintro e w' ⟨rfl, rfl⟩)
    go_ret
    exact ⟨by rw [HC.out]; rfl, B0.out⟩
end Go.Proofs.YtpfkhcgeblihcaaDoor.Kuf
