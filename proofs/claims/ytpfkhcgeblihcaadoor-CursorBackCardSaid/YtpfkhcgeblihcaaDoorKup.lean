/-
  Two cursors held against each other; a text's bytes in a block of the call's own; texts near a cursor's.
-/
import Derived.Test.YtpfkhcgeblihcaaDoorKun
import Derived.Test.YtpfkhcgeblihcaaDoorKuf
import Derived.Test.YtpfkhcgeblihcaaDoorKuj
import Derived.Test.YtpfkhcgeblihcaaDoorKuk
import Derived.DeepKeys
import Derived.Laws.IdiomStrings
namespace Go.Proofs.YtpfkhcgeblihcaaDoor.Kup
open Go.ChangeShapes Go.WideShapes Go.ChangeAt Go.RowKit
open Bytes8 Blk8 Own8 Fa Kua Kub Kuc Kud Kue Kuf Kui
set_option linter.unusedVariables false
set_option linter.unusedSimpArgs false
set_option maxRecDepth 100000

/-! ## == of cursors -/
def litsC (c : Cur) : List Lit := (idL c.seq).map (Lit.int .u8) ++ ([Lit.int .u64 c.n] ++ ((idL c.boot).map (Lit.int .u8) ++ ([Lit.int .u64 c.mono] ++ ([Lit.int .u64 c.real] ++ [Lit.int .u64 c.xor]))))
theorem wf_u64 {x : Int} (h : U64 x) : (Lit.int .u64 x).wf = true := by obtain ⟨h0, h1⟩ := h; simp [Lit.wf, IntKind.min, IntKind.max, IntKind.signed, IntKind.bits]; omega
theorem lit_one (x : Int) (h : U64 x) : Tryd.prog.keyLits 2 24 [.int .u64 x] = some [Lit.int .u64 x] := by
  unfold Program.keyLits
  rw [Tryd.underlying24]
  simp [wf_u64 h]
theorem cur_lits (c : Cur) (ok : c.Ok) : Tryd.prog.keyLits 3 26 c.cells = some (litsC c) := by
  have cC : Tryd.prog.cellsOf 26 = 36 := by kernel_rfl
  have cI : Tryd.prog.cellsOf 23 = 16 := by kernel_rfl
  have c64 : Tryd.prog.cellsOf 24 = 1 := by kernel_rfl
  have k0 : Tryd.prog.keyLits 2 23 ((c.cells.drop 0).take 16) = some ((idL c.seq).map (Lit.int .u8)) := id_lits c.seq ok.seq
  have k1 : Tryd.prog.keyLits 2 24 ((c.cells.drop 16).take 1) = some [Lit.int .u64 c.n] := lit_one c.n ok.n
  have k2 : Tryd.prog.keyLits 2 23 ((c.cells.drop 17).take 16) = some ((idL c.boot).map (Lit.int .u8)) := id_lits c.boot ok.boot
  have k3 : Tryd.prog.keyLits 2 24 ((c.cells.drop 33).take 1) = some [Lit.int .u64 c.mono] := lit_one c.mono ok.mono
  have k4 : Tryd.prog.keyLits 2 24 ((c.cells.drop 34).take 1) = some [Lit.int .u64 c.real] := lit_one c.real ok.real
  have k5 : Tryd.prog.keyLits 2 24 ((c.cells.drop 35).take 1) = some [Lit.int .u64 c.xor] := lit_one c.xor ok.xor
  have hl : c.cells.length = 36 := rfl
  unfold Program.keyLits
  rw [Tryd.underlying26]
  dsimp only
  rw [if_pos ⟨by rw [cC, hl], by kernel_rfl⟩]
  generalize c.cells = l at *
  simp only [List.mapM_cons, List.mapM_nil, cI, c64, k0, k1, k2, k3, k4, k5]
  rfl
theorem lits_same {a b : Cur} (h : litsC a = litsC b) : Same a b := by
  simp only [litsC, idL, List.map_cons, List.map_nil, List.cons_append, List.nil_append, List.cons.injEq, Lit.int.injEq, true_and, and_true] at h
  obtain ⟨h0, h1, h2, h3, h4, h5, h6, h7, h8, h9, h10, h11, h12, h13, h14, h15, hn, g0, g1, g2, g3, g4, g5, g6, g7, g8, g9, g10, g11, g12, g13, g14, g15, hm, hr, hx⟩ := h
  refine ⟨fun i hi => ?_, hn, fun i hi => ?_, hm, hr, hx⟩
  · rcases i with _ | _ | _ | _ | _ | _ | _ | _ | _ | _ | _ | _ | _ | _ | _ | _ | i
    all_goals first | assumption | omega
  · rcases i with _ | _ | _ | _ | _ | _ | _ | _ | _ | _ | _ | _ | _ | _ | _ | _ | i
    all_goals first | assumption | omega
theorem same_lits {a b : Cur} (h : Same a b) : litsC a = litsC b := by
  unfold litsC idL
  simp only [h.n, h.mono, h.real, h.xor, h.seq 0 (by decide), h.seq 1 (by decide), h.seq 2 (by decide), h.seq 3 (by decide), h.seq 4 (by decide), h.seq 5 (by decide), h.seq 6 (by decide), h.seq 7 (by decide), h.seq 8 (by decide), h.seq 9 (by decide), h.seq 10 (by decide), h.seq 11 (by decide), h.seq 12 (by decide), h.seq 13 (by decide), h.seq 14 (by decide), h.seq 15 (by decide),
    h.boot 0 (by decide), h.boot 1 (by decide), h.boot 2 (by decide), h.boot 3 (by decide), h.boot 4 (by decide), h.boot 5 (by decide), h.boot 6 (by decide), h.boot 7 (by decide), h.boot 8 (by decide), h.boot 9 (by decide), h.boot 10 (by decide), h.boot 11 (by decide), h.boot 12 (by decide), h.boot 13 (by decide), h.boot 14 (by decide), h.boot 15 (by decide)]
theorem lits_show {a b : Cur} (ha : a.Ok) (hb : b.Ok) : litsC a = litsC b ↔ showL a = showL b := by
  constructor
  · intro h
    exact (lits_same h).show
  · intro h
    have k1 := same_lits (of_show ha).2
    rw [h] at k1
    exact k1.symm.trans (same_lits (of_show hb).2)
theorem eq_cur (a b : Cur) (ha : a.Ok) (hb : b.Ok) (w : World) : (Op.equalIn 10000 26 (.agg a.cells.toArray) (.agg b.cells.toArray)).run Tryd.prog w = .ok (decide (showL a = showL b)) w := by
  have fo : ∀ c : Cur, (Value.agg c.cells.toArray).formed Tryd.prog 26 = true := fun c => by kernel_rfl
  obtain ⟨r, hr, hiff⟩ := run_equalIn_deep (P := Tryd.prog) 9997 3 26 (by kernel_rfl) w 3 3 (.agg a.cells.toArray) (.agg b.cells.toArray) (litsC a) (litsC b) (fo a) (fo b) (cur_lits a ha) (cur_lits b hb)
  rw [lits_show ha hb] at hiff
  have h : r = decide (showL a = showL b) := by
    by_cases he : showL a = showL b
    · rw [hiff.2 he]; simp [he]
    · have h1 : r ≠ true := fun h => he (hiff.1 h)
      cases r with
      | true => exact absurd rfl h1
      | false => simp [he]
  rw [← h]
  exact hr
theorem eql_cur (a b : Cur) (ha : a.Ok) (hb : b.Ok) (z : Bool) (hz : decide (showL a = showL b) = z) (w : World) : (binOp .eql 26 (.agg a.cells.toArray) (.agg b.cells.toArray)).run Tryd.prog w = .ok (.bool z) w := by
  rw [run_eql_struct, eq_cur a b ha hb, hz]; rfl
theorem neq_cur (a b : Cur) (ha : a.Ok) (hb : b.Ok) (z : Bool) (hz : (!decide (showL a = showL b)) = z) (w : World) : (binOp .neq 26 (.agg a.cells.toArray) (.agg b.cells.toArray)).run Tryd.prog w = .ok (.bool z) w := by
  rw [run_neq_struct, eq_cur a b ha hb, ← hz]; rfl
theorem wpList_bin_want {P : Program} {ops : Array Oper} {rest : List Oper} {op : Oper} {a : Act} {w : World} {Q : Exit → Act → World → Prop} (hw : Region.wanted op (yielded ops a.tmps) = true) (b : BinOp) (t s : TypeId) (x y : Operand) (ho : op.op = .binOp b t x y s) (u z v : Value) (hx : a.eval x = u) (hy : a.eval y = z) (hg : (eqGuard b t x y u z).run P w = .ok () w) (hr : (binOp b t u z).run P w = .ok v w)
    (h : wpList P ops Q rest (a.put op.dst v) w) : wpList P ops Q (op :: rest) a w :=
  BigFrame.wpList_want hw fun _ hK => by
    unfold Oper.wp execOp
    simp only [ho, hx, hy, Sem.run_bind, Sem.run_pure, Result.andThen_ok, hg, hr]
    exact hK _ _ h
theorem wpList_load_mid_want {P : Program} {ops : Array Oper} {rest : List Oper} {op : Oper} {a : Act} {w : World} {Q : Exit → Act → World → Prop} (hw : Region.wanted op (yielded ops a.tmps) = true) (ty : TypeId) (x : Operand) (ho : op.op = .load ty x)
    (b o : Nat) (hx : a.eval x = .pointer (some ⟨b, o, none⟩)) (cs : List Value) (d : TypeDesc) (hc : w.rangeAt b o cs)
    (hu : P.underlying ty = some d) (hd : d.isRow = true) (hi : (P.info? ty).map (·.size) = some cs.length)
    (h : wpList P ops Q rest (a.put op.dst (.agg cs.toArray)) w) : wpList P ops Q (op :: rest) a w :=
  BigFrame.wpList_want hw fun _ hK => wp_load_mid ty x ho b o hx cs d hc hu hd hi (hK _ _ h)

/-! ## a text's bytes, to be written -/
structure TxB (w : World) (g : Nat) (l : List Int) : Prop where
  all : AllB l
  lt : g < w.heap.size
  cell : ∀ i, i < l.length → w.cell? ⟨g, i, none⟩ = some (.int .u8 (l.getD i 0))
  free : ∀ i, i < l.length → w.frozen? ⟨g, i, none⟩ = false
theorem TxB.bytes {w : World} {g : Nat} {l : List Int} (h : TxB w g l) : Bytes w (some ⟨g, 0, none⟩) l := ⟨h.all, fun i hi => ⟨g, 0, rfl, h.lt, by rw [Nat.zero_add]; exact h.cell i hi⟩⟩
theorem TxB.below {w w' : World} {B g : Nat} {l : List Int} (h : TxB w g l) (hb : Below B w w') (hg : g < B) : TxB w' g l :=
  ⟨h.all, Nat.lt_of_lt_of_le h.lt hb.size, fun i hi => (hb.cell (p := ⟨g, i, none⟩) hg).trans (h.cell i hi), fun i hi => (hb.frozen (p := ⟨g, i, none⟩) hg).trans (h.free i hi)⟩
theorem TxB.set {w : World} {g : Nat} {l : List Int} (h : TxB w g l) (j : Nat) (c : Int) (h0 : 0 ≤ c) (h1 : c < 256) (hj : j < l.length) : TxB (w.setCell ⟨g, j, none⟩ (.int .u8 c)) g (l.set j c) := by
  refine ⟨h.all.set j h0 h1, by have := h.lt; simpa [World.setCell] using this, fun i hi => ?_, fun i hi => by rw [World.frozen?_setCell]; exact h.free i (by simpa using hi)⟩
  rw [List.length_set] at hi
  by_cases hij : j = i
  · subst hij
    rw [World.cell?_setCell_same' _ _ _ (by rw [h.cell j hj]; rfl)]
    simp [List.getElem?_set_self hj]
  · rw [World.cell?_setCell_other (h := fun e => hij (congrArg Addr.off e)), h.cell i hi]
    simp [List.getElem?_set_ne hij]
theorem frozen_mark (w : World) (C : Array Value) (t : TypeId) (i : Nat) (hi : i < C.size) : (w.drew.alloc (.cells C t (C.size, C.size + 1))).frozen? ⟨w.heap.size, i, none⟩ = false := by
  have hb : (w.drew.alloc (.cells C t (C.size, C.size + 1))).heap[w.heap.size]? = some (.cells C t (C.size, C.size + 1)) := heap_alloc_new w.drew _
  unfold World.frozen?
  rw [hb]
  simp
  omega
theorem text_own (l : List Int) (hA : AllB l) : ∃ (cf : World → Nat) (mk : World → World), ∀ w,
    (convert 9 53 (.string (T l))).run Tryd.prog w = .ok (.slice (some ⟨w.heap.size, 0, none⟩) l.length (cf w)) (mk w) ∧ (∀ g, w.heap.size = g → TxB (mk w) g l) ∧ Below w.heap.size w (mk w) := by
  refine ⟨fun w => grownCap w (T l).size 0 5, fun w => w.drew.alloc (.cells (bytesRow (T l) (grownCap w (T l).size 0 5)) 5 ((bytesRow (T l) (grownCap w (T l).size 0 5)).size, (bytesRow (T l) (grownCap w (T l).size 0 5)).size + 1)), fun w => ⟨?_, ?_, ?_⟩⟩
  · rw [run_bytes_of_string w 9 53 5 (T l) Tryd.underlying9 Tryd.underlying53 Tryd.underlying5, T_size]
  · rintro g rfl
    have hd : ∀ i, i < l.length → i < (T l).data.size := fun i hi => by
      have := T_size l
      show i < (T l).size
      omega
    refine ⟨hA, (Array.getElem?_eq_some_iff.1 (heap_alloc_new w.drew _)).1, fun i hi => ?_, fun i hi => ?_⟩
    · show (w.drew.alloc (.cells _ _ _)).cell? ⟨w.drew.heap.size, i, none⟩ = _
      rw [World.cell?_alloc_mark]
      refine (bytesRow_at (T l) _ i (hd i hi)).trans ?_
      have e1 : (T l).data[i]'(hd i hi) = (T l).toList[i]'(by rw [ByteArray.toList_eq]; simpa using hd i hi) := by simp only [ByteArray.toList_eq]; rfl
      rw [e1]
      simp only [T_toList, List.getElem_map]
      have hv := hA l[i] (List.getElem_mem hi)
      have e3 : l.getD i 0 = l[i] := by simp [List.getElem?_eq_getElem hi]
      rw [e3]
      have e4 : (((l[i]).toNat.toUInt8.toNat : Nat) : Int) = l[i] := by simp; omega
      rw [e4]
    · have hs : i < (bytesRow (T l) (grownCap w (T l).size 0 5)).size := by
        have := hd i hi
        unfold bytesRow
        simp only [Array.size_append, Array.size_map]
        omega
      exact frozen_mark w _ _ i hs
  · exact ((Below.refl _ w).drew).alloc (Nat.le_refl _) _
theorem wpList_own {w : World} {ops : Array Oper} {rest : List Oper} {o : Oper} {a : Act} {Q : Exit → Act → World → Prop} (hgd : o.guard = none) (x : Operand) (hop : o.op = .convert 9 53 x) (l : List Int) (hA : AllB l) (n : Nat) (hn : l.length = n) (hx : a.eval x = .string (T l))
    (h : ∀ g c w', w.heap.size = g → TxB w' g l → Below g w w' → wpList Tryd.prog ops Q rest (a.put o.dst (.slice (some ⟨g, 0, none⟩) n c)) w') : wpList Tryd.prog ops Q (o :: rest) a w :=
  wpList_plain hgd fun K hK => by
    obtain ⟨cf, mk, hmk⟩ := text_own l hA
    obtain ⟨h1, h2, h3⟩ := hmk w
    unfold Oper.wp execOp
    simp only [hop, resolve, Sem.run_bind, Sem.run_pure, Result.andThen_ok, hx, h1]
    subst hn
    exact hK _ _ (h _ _ _ rfl (h2 _ rfl) h3)

/-! ## cuts of a text -/
theorem cut_lo (s : List Int) {j : Nat} (hj : j ≤ s.length) (w : World) : (Instr.slice 9 (.string (T s)) none (some (.int .i64 (j : Int))) none).run Tryd.prog w = .ok (.string (T (s.take j))) w := by
  have hsz := T_size s
  rw [run_slice_string_to_if w 9 (T s) .i64 _ Tryd.underlying9, if_pos ⟨by omega, by rw [hsz]; omega⟩, T_cut, show ((j : Int)).toNat - 0 = j by omega, List.drop_zero]
theorem cut_hi (s : List Int) {j : Nat} (z : Int) (hz : z = (j : Int)) (hj : j ≤ s.length) (w : World) : (Instr.slice 9 (.string (T s)) (some (.int .i64 z)) none none).run Tryd.prog w = .ok (.string (T (s.drop j))) w := by
  subst hz
  have hsz := T_size s
  rw [run_slice_string_from_if w 9 (T s) .i64 _ Tryd.underlying9, if_pos ⟨by omega, by rw [hsz]; omega⟩, T_cut, hsz, show ((j : Int)).toNat = j by omega, List.take_of_length_le (by rw [List.length_drop]; omega)]
theorem cut_mid (s : List Int) {j k : Nat} (z : Int) (hz : z = (k : Int)) (hjk : j ≤ k) (hk : k ≤ s.length) (w : World) : (Instr.slice 9 (.string (T s)) (some (.int .i64 (j : Int))) (some (.int .i64 z)) none).run Tryd.prog w = .ok (.string (T ((s.drop j).take (k - j)))) w := by
  subst hz
  have hsz := T_size s
  rw [run_slice_string w 9 (T s) .i64 .i64 _ _ Tryd.underlying9 (by omega) (by omega) (by rw [hsz]; omega), T_cut, show ((j : Int)).toNat = j by omega, show ((k : Int)).toNat = k by omega]

/-! ## texts near a cursor's -/
theorem showL_all {c : Cur} (h : c.Ok) : AllB (showL c) := fun x hx => by
  have k1 := hexN_byte h.seq 16
  have k2 := hexN_byte h.boot 16
  unfold showL at hx
  simp only [List.mem_append, List.mem_cons, List.not_mem_nil, or_false] at hx
  have kk : (∃ v, x ∈ shortL v) → 0 ≤ x ∧ x < 256 := fun ⟨v, hv⟩ => by have := short_byte v x hv; omega
  have h1 : x ∈ hexL c.seq → 0 ≤ x ∧ x < 256 := fun h => by have := k1 x h; omega
  have h2 : x ∈ hexL c.boot → 0 ≤ x ∧ x < 256 := fun h => by have := k2 x h; omega
  rcases hx with ((((((h | h) | h) | h) | h) | h) | h)
  all_goals first
    | (rcases h with h | h <;> omega)
    | exact h1 h
    | exact h2 h
    | exact kk ⟨_, h⟩
    | (rcases h with h | h)
  all_goals first
    | exact h1 h
    | exact h2 h
    | exact kk ⟨_, h⟩
    | (rcases h with h | h | h <;> omega)
    | (rcases h with h | h <;> omega)
theorem fix_fine {v : Nat} (h : v < 18446744073709551616) : Kuj.fixOk (fixL v) = true ∧ Kuj.fixOf (fixL v) = v := by
  have hl : (fixL v).length = 16 := digs_len _ _
  have hv := (fix_back hl (v := v)).2 ⟨rfl, h⟩
  unfold Kuj.fixOk Kuj.fixOf
  rw [if_pos hl, decide_eq_true hl]
  unfold valB valR
  rw [hv]
  exact ⟨rfl, rfl⟩
/-- What Parse made of another text is another cursor. -/
theorem other {c : Cur} {s : List Int} (hs : s ≠ showL c) (h : okP s = true) : decide (showL (curOf s) = showL c) = false := by
  refine decide_eq_false fun e => hs ?_
  rw [(show_of h).1]
  exact e
theorem own {c : Cur} (hc : c.Ok) : decide (showL (curOf (showL c)) = showL c) = true := decide_eq_true (of_show hc).2.show
end Go.Proofs.YtpfkhcgeblihcaaDoor.Kup
