/-
  Texts beneath the proof, one behind the other.
-/
import Derived.Deep.RegionHeld3
import Derived.Test.YtldkmobncmfodaaGreatQ25
import Derived.Test.YtldkmobncmfodaaGreatQ17

/-
  The document's writer: an item into a chain of arrays.
-/
namespace Go.Proofs.YtldkmobncmfodaaGreat.Nf
open Go.ChangeShapes Go.WideShapes Go.ChangeAt Go.RowKit
open Bytes8 Blk8 Own8 OwnM OwnA OwnE LeA LeNum LeB LeP RefA RefB Rows2 Ob Oc Od Oj Ga Gn Ma Kf Mb Mc Md Me Mf Mg Fa Fb Fc Sg Dc Yc Yd Yk Na Nb Nc Nd
set_option linter.unusedVariables false
set_option linter.unusedSimpArgs false
set_option maxRecDepth 100000

/-! ## words -/
theorem run_append_row {E S : TypeId} {size bytes : Nat} {z : Value} (he : Elt E S size bytes z) (w : World) (ty : TypeId) (base : Nat) (A : Option Addr) (n c : Nat) (xs : List Value) (ho : OwnE E size w base A n c xs) (A2 : Option Addr) (m c2 : Nat) (news : List Value) (hl : news.length = m * size)
    (hnews : ∀ j u, news[j]? = some u → ∃ ad, A2 = some ad ∧ w.cell? (ad.add j) = some u) (h1 : ∀ u ∈ news, u.oneCell' = true) (h63 : n + m ≤ 4611686018427387904) (hbytes : (n + m) * bytes ≤ 140737488355328) (hml : n + m ≤ maxLen) :
    ∃ A' c' w', (Builtin.append_ #[S, S] ty #[.slice A n c, .slice A2 m c2]).run Tryz.prog w = .ok (.slice A' (n + m) c') w' ∧ OwnE E size w' base A' (n + m) c' (xs ++ news) ∧ w.grownBy w' (ownB A) ∧ (ownB A' = ownB A ∨ ownB A' = some w.heap.size) := by
  cases A2 with
  | some ad => exact run_append_elt_at he w ty base A n c xs ho ad m c2 news hl (fun j u hj => by obtain ⟨ad', e, h⟩ := hnews j u hj; injection e with e; subst e; exact h) h1 h63 hbytes hml
  | none =>
    have hm0 : m = 0 := by
      rcases Nat.eq_zero_or_pos m with h | h
      · exact h
      · have hp := he.pos
        have : 0 < news.length := by rw [hl]; exact Nat.mul_pos h hp
        obtain ⟨ad, e, _⟩ := hnews 0 news[0] (List.getElem?_eq_getElem this)
        cases e
    subst hm0
    have hn0 : news = [] := List.eq_nil_of_length_eq_zero (by simpa using hl)
    subst hn0
    obtain ⟨i, hi, hzz⟩ := Option.map_eq_some_iff.1 he.info
    simp only [Prod.mk.injEq] at hzz
    obtain ⟨hz, hs, hby⟩ := hzz
    have hgb : w.grownBy w (ownB A) := ⟨rfl, rfl, rfl, Nat.le_refl _, fun _ _ _ => rfl⟩
    refine ⟨A, c, w, ?_, by simpa using ho, hgb, .inl rfl⟩
    rcases ho.2.2 with ⟨he2, h0'⟩ | ⟨g, cap, cur, he2, _, _, hnc, _⟩
    · injection he2 with e1 e2 e3
      subst e1; subst e2; subst e3
      simp [Builtin.append_, run_underlying he.under, sizeOf, typeInfo, hi, Builtin.lenOf, Builtin.firstCells]
    · injection he2 with e1 e2 e3
      subst e1; subst e3
      simp [Builtin.append_, run_underlying he.under, sizeOf, typeInfo, hi, Builtin.lenOf, Builtin.firstCells, hnc, storeCells]
theorem wpList_append_row {E S : TypeId} {size bytes : Nat} {z : Value} (he : Elt E S size bytes z) {w : World} {ops : Array Oper} {rest : List Oper} {o : Oper} {a : Act} {Q : Exit → Act → World → Prop} (hgd : o.guard = none) (s x : Operand)
    (hop : o.op = .call { callee := .builtin .append, args := #[s, x], argTypes := #[S, S] })
    (base : Nat) (A : Option Addr) (n c : Nat) (xs : List Value) (hs : a.eval s = .slice A n c) (ho : OwnE E size w base A n c xs) (A2 : Option Addr) (m c2 : Nat) (news : List Value) (hx : a.eval x = .slice A2 m c2) (hl : news.length = m * size)
    (hnews : ∀ j u, news[j]? = some u → ∃ ad, A2 = some ad ∧ w.cell? (ad.add j) = some u) (h1 : ∀ u ∈ news, u.oneCell' = true) (h63 : n + m ≤ 4611686018427387904) (hbytes : (n + m) * bytes ≤ 140737488355328) (hml : n + m ≤ maxLen)
    (h : ∀ A' c' w', OwnE E size w' base A' (n + m) c' (xs ++ news) → w.grownBy w' (ownB A) → (ownB A' = ownB A ∨ ownB A' = some w.heap.size) → wpList Tryz.prog ops Q rest (a.put o.dst (.slice A' (n + m) c')) w') : wpList Tryz.prog ops Q (o :: rest) a w :=
  wpList_plain hgd fun _ hK => by
    obtain ⟨A', c', w', hr, h2, h3, h4⟩ := run_append_row he w o.type base A n c xs ho A2 m c2 news hl hnews h1 h63 hbytes hml
    unfold Oper.wp execOp
    simp only [hop, resolve, invoke, builtin, Sem.run_bind, Sem.run_pure, Result.andThen_ok, List.map_toArray, List.map_cons, List.map_nil, hs, hx, hr]
    exact hK _ _ (h A' c' w' h2 h3 h4)
theorem own_news {E : TypeId} {size : Nat} {w : World} {base n c : Nat} {A : Option Addr} {xs : List Value} (h : OwnE E size w base A n c xs) : xs.length = n * size ∧ ∀ j u, xs[j]? = some u → ∃ ad, A = some ad ∧ w.cell? (ad.add j) = some u :=
  ⟨h.len, fun j u hj => by
    obtain ⟨b, e, _, _, hc⟩ := h.cell (List.getElem?_eq_some_iff.1 hj).1
    exact ⟨_, e, by rw [add_none, Nat.zero_add, hc, hj]⟩⟩
theorem step_append_new {E S : TypeId} {size bytes : Nat} {z : Value} (he : Elt E S size bytes z) {w : World} {ops : Array Oper} {o : Oper} {a : Act} {K : Act → World → Prop} {Q : Exit → Act → World → Prop} {F : Prop} (hgd : o.guard = none) (s x : Operand)
    (hop : o.op = .call { callee := .builtin .append, args := #[s, x], argTypes := #[S, S] })
    (base : Nat) (A : Option Addr) (c : Nat) (hs : a.eval s = .slice A 0 c) (ho : OwnE E size w base A 0 c []) (A2 : Option Addr) (m c2 : Nat) (news : List Value) (hx : a.eval x = .slice A2 m c2) (hl : news.length = m * size)
    (hnews : ∀ j u, news[j]? = some u → ∃ ad, A2 = some ad ∧ w.cell? (ad.add j) = some u) (h1 : ∀ u ∈ news, u.oneCell' = true) (h63 : m ≤ 4611686018427387904) (hbytes : m * bytes ≤ 140737488355328) (hml : m ≤ maxLen)
    (h : ∀ A' c' w', OwnE E size w' base A' m c' news → w.grownBy w' (ownB A) → (ownB A' = ownB A ∨ ownB A' = some w.heap.size) → K (a.put o.dst (.slice A' m c')) w') :
    if Region.wanted o (yielded ops a.tmps) = true then Oper.wp Tryz.prog o a w K Q else F := by
  have hw : Region.wanted o (yielded ops a.tmps) = true := by simp [Region.wanted, hgd]
  rw [if_pos hw]
  obtain ⟨A', c', w', hr, h2, h3, h4⟩ := run_append_row he w o.type base A 0 c [] ho A2 m c2 news hl hnews h1 (by omega) (by simpa using hbytes) (by omega)
  rw [Nat.zero_add] at hr h2
  unfold Oper.wp execOp
  simp only [hop, resolve, invoke, builtin, Sem.run_bind, Sem.run_pure, Result.andThen_ok, List.map_toArray, List.map_cons, List.map_nil, hs, hx, hr]
  exact h A' c' w' h2 h3 h4
/-- .. onto an empty literal. -/
theorem wpList_append_new {E S : TypeId} {size bytes : Nat} {z : Value} (he : Elt E S size bytes z) {w : World} {ops : Array Oper} {rest : List Oper} {o : Oper} {a : Act} {Q : Exit → Act → World → Prop} (hgd : o.guard = none) (s x : Operand)
    (hop : o.op = .call { callee := .builtin .append, args := #[s, x], argTypes := #[S, S] })
    (base : Nat) (A : Option Addr) (c : Nat) (hs : a.eval s = .slice A 0 c) (ho : OwnE E size w base A 0 c []) (A2 : Option Addr) (m c2 : Nat) (news : List Value) (hx : a.eval x = .slice A2 m c2) (hl : news.length = m * size)
    (hnews : ∀ j u, news[j]? = some u → ∃ ad, A2 = some ad ∧ w.cell? (ad.add j) = some u) (h1 : ∀ u ∈ news, u.oneCell' = true) (h63 : m ≤ 4611686018427387904) (hbytes : m * bytes ≤ 140737488355328) (hml : m ≤ maxLen)
    (h : ∀ A' c' w', OwnE E size w' base A' m c' news → Below base w w' → wpList Tryz.prog ops Q rest (a.put o.dst (.slice A' m c')) w') : wpList Tryz.prog ops Q (o :: rest) a w := by
  refine wpList_append_row he hgd s x hop base A 0 c [] hs ho A2 m c2 news hx hl hnews h1 (by omega) (by simpa using hbytes) (by omega) fun A' c' w' h2 h3 h4 => ?_
  rw [Nat.zero_add] at h2 ⊢
  exact h A' c' w' h2 (below_grown h3 ho.1 fun k hk => (OwnE.ltB ho k hk).1)
theorem wordE : Elt 23 65 1 8 (.int .u64 0) := ⟨Tryz.underlying65, by kernel_rfl, rfl, by decide⟩
theorem wordI : (Tryz.prog.info? 23).map (fun i => (i.zero, i.size, i.bytes)) = some (some (.int .u64 0), 1, 8) := by kernel_rfl
theorem make_w (p : Nat) (z : Int) (hz : z = (p : Int)) (hp : p ≤ 1000000) (w : World) :
    (Instr.makeSlice 65 (.int .i64 z) (.int .i64 z)).run Tryz.prog w = .ok (.slice (some ⟨w.heap.size, 0, none⟩) p p) (w.alloc (.cells (Array.replicate p (Value.int .u64 0)) 23)) := by
  subst hz
  have h := run_make_row' (P := Tryz.prog) 65 23 (.int .u64 0) 8 Tryz.underlying65 wordI rfl .i64 .i64 p (by omega) (by omega) w
  have e : madeCells #[Value.int .u64 0] p = Array.replicate p (Value.int .u64 0) := by
    apply Array.ext'
    rw [toList_madeCells_one]
    simp
  rw [e] at h
  exact h
/-- The cells of a row of places. -/
def wv (l : List Nat) : List Value := l.map fun (x : Nat) => .int .u64 (x : Int)
theorem wv_len (l : List Nat) : (wv l).length = l.length := by simp [wv]
theorem wv_one (l : List Nat) : ∀ u ∈ wv l, u.oneCell' = true := fun u hu => by
  obtain ⟨x, _, rfl⟩ := List.mem_map.1 hu
  rfl
theorem arr_own {w : World} {base n c : Nat} {A : Option Addr} {l : List Nat} {Ft : Nat → Prop} (h : OwnE 23 1 w base A n c (wv l)) (hF : ∀ k, base ≤ k → k < w.heap.size → ¬ Ft k) : Arr w Ft (.slice A n c) l := by
  have hl := h.len
  rw [wv_len, Nat.mul_one] at hl
  refine ⟨A, n, c, rfl, hl, fun i hi => ?_⟩
  obtain ⟨b, e, h1, h2, h3⟩ := h.cell (i := i) (by rw [wv_len]; exact hi)
  refine ⟨b, e, h2, hF b h1 h2, h3.trans ?_⟩
  simp [wv, List.getElem?_eq_getElem hi]
/-- What an append asks of a row that can be read. -/
theorem arr_news {w : World} {A : Option Addr} {n c : Nat} {l : List Nat} {Ft : Nat → Prop} (h : Arr w Ft (.slice A n c) l) : (wv l).length = n * 1 ∧ ∀ j u, (wv l)[j]? = some u → ∃ ad, A = some ad ∧ w.cell? (ad.add j) = some u := by
  obtain ⟨A', n', c', e, hl, h⟩ := h
  injection e with e1 e2 e3
  subst e1; subst e2; subst e3
  refine ⟨by rw [wv_len, hl, Nat.mul_one], fun j u hj => ?_⟩
  have hlt : j < l.length := by
    have := (List.getElem?_eq_some_iff.1 hj).1
    rw [wv_len] at this
    exact this
  obtain ⟨b, rfl, hb, _, hc⟩ := h j hlt
  refine ⟨_, rfl, ?_⟩
  rw [add_none, Nat.zero_add, hc]
  rw [← hj]
  simp [wv, List.getElem?_eq_getElem hlt]
theorem empty_own (w : World) (base : Nat) (h : base ≤ w.heap.size) : OwnE 23 1 (w.alloc (.cells #[] 23)) base (some ⟨w.heap.size, 0, none⟩) 0 0 [] :=
  ⟨Nat.le_trans h (by simp), World.ownsRow_lit w #[] 0 h (by decide) rfl⟩
theorem zeros_in (w : World) (R : Nat) : InInts .u64 (w.alloc (.cells (Array.replicate R (Value.int .u64 0)) 23)) (some ⟨w.heap.size, 0, none⟩) R (fun _ => 0) := fun i hi => by
  refine ⟨w.heap.size, 0, rfl, by simp, ?_, (by show (Lit.int .u64 0).wf = true; decide)⟩
  have hb : Blk (w.alloc (.cells (List.replicate R (Value.int .u64 0)).toArray 23)) w.heap.size (List.replicate R (Value.int .u64 0)) 23 := Blk.new w _ _
  have hc := hb.cell (i := 0 + i) (v := .int .u64 0) (by rw [Nat.zero_add, List.getElem?_replicate, if_pos hi])
  simpa using hc
theorem ints_zeros (R : Nat) : Yc.ints (fun _ => 0) R = List.replicate R 0 := by
  apply List.ext_getElem
  · simp [Yc.ints]
  · intro i h1 h2; simp [Yc.ints]

/-! ## link -/
theorem arr_path {w w' : World} {g : Nat} {p p' : Pl} {v : Value} {l : List Nat} {B : Nat} (h : Arr w (p.away B g) v l) (k : Path g p w p' w') : Arr w' (p'.away B g) v l :=
  h.kept k.kept (fun _ _ h h2 => h (.inl h2)) fun b hb hf h2 => h2.elim (fun h2 => (k.foot b h2).elim (fun h => hf (.inl h)) (fun h3 => absurd hb (by omega))) (fun h => hf (.inr h))
theorem arr_len {w : World} {Ft : Nat → Prop} {A : Option Addr} {n c : Nat} {l : List Nat} (h : Arr w Ft (.slice A n c) l) : l.length = n := by
  obtain ⟨A', n', c', e, hl, _⟩ := h
  injection e with e1 e2 e3
  rw [hl, e2]
theorem arr_at {w : World} {Ft : Nat → Prop} {A : Option Addr} {n c : Nat} {l : List Nat} (h : Arr w Ft (.slice A n c) l) (i : Nat) (hi : i < n) (x : Nat) (hx : l.getD i 0 = x) : ∃ b, A = some ⟨b, 0, none⟩ ∧ w.cell? ⟨b, i, none⟩ = some (.int .u64 (x : Int)) := by
  have hl := arr_len h
  obtain ⟨A', n', c', e, _, h⟩ := h
  injection e with e1 e2 e3
  subst e1
  obtain ⟨b, e, hb, _, hc⟩ := h i (by omega)
  refine ⟨b, e, ?_⟩
  rw [hc, ← hx, List.getD_eq_getElem?_getD, List.getElem?_eq_getElem (by omega)]
  rfl
theorem last_getD (l : List Nat) (j : Nat) (h : l.length = j + 1) : l.getD j 0 = l.getLastD 0 := by
  rw [List.getLastD_eq_getLast?, List.getLast?_eq_getElem?, h, Nat.add_sub_cancel, List.getD_eq_getElem?_getD]
attribute [local irreducible] Mk.cells wpList Code.wp
variable {B g : Nat} {p : Pl} {m : Mk}
/-- What link leaves. -/
def Linked (B g : Nat) (p : Pl) (r : Mk × List Nat × Nat) (w : World) (e : Ending) (w' : World) : Prop :=
  ∃ v' p', e = .returned (.tuple #[v', .int .i64 ((r.2.2 : Nat) : Int)]) ∧ Arr w' (p'.away B g) v' r.2.1 ∧ At w' B g p' r.1 ∧ Path g p w p' w'
set_option maxHeartbeats 4000000 in
theorem link_any (A : Option Addr) (ka ca : Nat) (arr : List Nat) (n fr item : Nat) (w : World) (h : At w B g p m) (hl0 : 0 < m.b.length) (hl7 : 0 ≤ m.h.N 7 ∧ m.h.N 7 ≤ 1000000) (hl18 : 0 ≤ m.h.N 18 ∧ m.h.N 18 ≤ 1000000) (ha : Arr w (p.away B g) (.slice A ka ca) arr) (hc : Chain m.b.length arr n) (hf : fr + 8 ≤ m.b.length) (hb : m.b.length ≤ 100000) (hn : n ≤ 100000) (hit : item ≤ 1000000) :
    Calls Tryz.prog 151 #[.pointer (some ⟨g, 0, none⟩), .slice A ka ca, .int .i64 (n : Int), .int .u64 (fr : Int), .int .u64 (item : Int)] w (Linked B g p (Mk.link m arr n fr item) w) := by
  have HA := Lib.hid h
  have HR := Lib.hid ha
  have HC := Lib.hid hc
  have hka : arr.length = ka := by obtain ⟨A', n', c', e, hl, _⟩ := ha; injection e with e1 e2 e3; rw [hl, e2]
  have hkb : ka ≤ 25001 := by
    rcases Nat.eq_zero_or_pos ka with h0 | h0
    · omega
    · have h1 := hc.ge (by omega)
      have h2 := rooms_ge (arr.length - 1)
      omega
  have hrb := rooms_le ka
  have HL := Lib.hid hka
  clear h ha hc hka
  unfold Linked
  go_enter Tryz.func151, Tryz.ntmps151
  go_wp2
  go_loopw [12, 13, 14] (fun x y i wr => ∃ k : Nat, k ≤ ka ∧ i = .int .i64 (k : Int) ∧ x = .int .i64 ((rooms (k - 1) : Nat) : Int) ∧ y = .int .i64 ((rooms k : Nat) : Int) ∧ wr = w) (fun _ _ i _ => ka - (intOf i).toNat)
  case atStart => exact ⟨0, Nat.zero_le _, rfl, rfl, rfl, rfl⟩
  case round =>
    obtain ⟨k, hkk, rfl, rfl, rfl, rfl⟩ := hrel
    by_cases hlt : k < ka
    · have hr1 := rooms_le k
      have hr2 := (roomN_bd k).2
      have HS := Lib.hid (rooms_succ k)
      have HRm := Lib.hid (room_any k wr)
      generalize hrk : rooms k = rk at *
      have Hrk := Lib.hid hrk
      clear hrk
      generalize rooms (k - 1) = rk1 at *
      generalize roomN k = rn at *
      go_wp2_with (first | (go_at_call 44; (with_reducible refine HRm.out.mono ?_); rintro e w' ⟨rfl, rfl⟩) | fail)
      go_roundw
      case rel => exact ⟨k + 1, by omega, by go_num, by rw [Nat.add_sub_cancel, Hrk.out], by rw [HS.out]; go_num, trivial⟩
      case measure => simp [intOf]; omega
    · obtain rfl : k = ka := by omega
      by_cases he : n = rooms k
      · have HLk := Lib.hid (show Mk.link m arr n fr item = (Mk.linkNew m arr fr item, arr ++ [m.b.length], 1) by unfold Mk.link; rw [if_pos (by rw [HL.out]; exact he)])
        have HE := Lib.hid he
        generalize rooms (k - 1) = rk1 at *
        generalize rooms k = rk at *
        subst he
        have hr2 := (roomN_bd k).2
        have hr1 := (roomN_bd k).1
        have HRm := Lib.hid (room_any k wr)
        have hao := aobj_len k
        have hoe : objB 6 (arrB 0 (Yc.ints (fun _ => 0) (roomN k))) = aobj k := by rw [ints_zeros]; rfl
        have hpad : 16 + (8 + 8 * roomN k) + padN (8 + 8 * roomN k) = 24 + 8 * roomN k := by unfold padN; omega
        have HPA := Lib.hid (rputArray_any 0 (some ⟨wr.heap.size, 0, none⟩) (roomN k) (roomN k) (fun _ => 0) _ (zeros_in wr (roomN k)) (by omega) (by decide))
        rw [hoe, hpad] at HPA
        have hmk := make_w (roomN k) (roomN k : Int) rfl (by omega)
        generalize roomN k = R at *
        unfold Owned at HPA
        go_upto_region 9 with (first
          | (go_at_call 44; (with_reducible refine HRm.out.mono ?_); rintro e w' ⟨rfl, rfl⟩)
          | (go_at_call 199; (refine HPA.out.mono ?_); rintro e w4 ⟨A4, c4, rfl, ho4, hb4⟩; have HO4 := Lib.hid ho4; have HB4 := Lib.hid (show Below wr.heap.size wr w4 from ((Below.refl wr.heap.size wr).alloc (Nat.le_refl _) _).trans (hb4.mono (by simp))); have HA4 := Lib.hid (At.below HA.out HB4.out); clear ho4 hb4)
          | (go_at_call 149; (refine (objectS_any A4 _ c4 _ w4 HA4.out HO4.out.bytes HO4.out.2.1 hl0 (by omega) hl7).mono ?_); rintro e w5 ⟨rfl, b5, cb5, ha5, hp5⟩; have HA5 := Lib.hid ha5; have HP5 := Lib.hid ((Path.of_below (g := g) (p := p) HB4.out).trans hp5); clear ha5 hp5)
          | fail)
        have hol := object_len m (aobj k)
        rw [hao] at hol
        have z137 : w5.cell? ⟨g, 137, none⟩ = some (.int .u64 (m.h.N 18)) := At.cN HA5.out 18 137 (by decide) rfl
        have f137 := At.fz HA5.out 137
        have hwr : IntKind.u64.wrap (m.h.N 18 + 1) = m.h.N 18 + 1 := by rw [IntKind.wrap_u64]; omega
        go_region
        have HA6 := Lib.hid (At.drew (At.setN HA5.out 18 137 (by decide) rfl (m.h.N 18 + 1)))
        have HP6 := Lib.hid ((HP5.out.set 137 (.int .u64 (m.h.N 18 + 1))).drew)
        generalize (w5.setCell ⟨g, 137, none⟩ (.int .u64 (m.h.N 18 + 1))).drew = w6 at *
        clear z137 f137 hwr hmk
        obtain ⟨P, hP⟩ : ∃ x, x = (if arr = [] then fr else arr.getLastD 0 + 16) := ⟨_, rfl⟩
        have hP8 : P + 8 ≤ m.b.length := by
          rw [hP]
          split
          · omega
          · next hne => have := chain_last HC.out hne; omega
        have HPe := Lib.hid hP
        have HRr := Lib.hid (arr_path HR.out HP6.out)
        have HFoot := Lib.hid HP6.out.foot
        have hszw := HP6.out.kept.size
        clear hP
        rcases Nat.eq_zero_or_pos k with hk0 | hk0
        · have hPf : P = fr := by rw [HPe.out, if_pos (List.eq_nil_of_length_eq_zero (by rw [HL.out]; exact hk0))]
          have d0 : ((k : Int) == 0) = true := by simp [hk0]
          clear hk0
          go_upto_region 14 with (first
            | (go_at_call 152; (refine (putS_any P _ (by omega) _ w6 HA6.out (by show P + 8 ≤ (m.object (aobj k)).b.length; omega) (by show (m.object (aobj k)).b.length ≤ _; omega)).mono ?_); rintro e w7 ⟨rfl, ha7, hp7⟩; have HA7 := Lib.hid ha7; have HP7 := Lib.hid (HP6.out.trans hp7); clear ha7 hp7)
            | fail)
          have HRs := Lib.hid (Arr.kept (Ft' := Pl.away { p with bb := b5, cb := cb5 } B g) (arr_path (p' := { p with bb := b5, cb := cb5 }) HR.out HP7.out) (KeptF.of_below (F := None') ((Below.refl w7.heap.size w7).alloc (Nat.le_refl _) (.cells #[] 23))) (fun _ _ _ h => h.elim) (fun _ _ h => h))
          obtain ⟨nl, nc⟩ := arr_news HRs.out
          have hl1 : m.b.length ≤ 100000 := hb
          go_upto_region 15 with (first
            | (at_builtin; (refine wpList_append_new wordE rfl (.tmp 67) (.tmp 68) rfl w7.heap.size (some ⟨w7.heap.size, 0, none⟩) 0 rfl (empty_own w7 w7.heap.size (Nat.le_refl _)) A k ca (wv arr) rfl nl nc (wv_one _) (by omega) (by omega) (by unfold maxLen; omega) ?_); intro A9 c9 w9 ho9 hb9; have HO9 := Lib.hid ho9; have HB9 := Lib.hid (show Below w7.heap.size w7 w9 from ((Below.refl w7.heap.size w7).alloc (Nat.le_refl _) _).trans hb9); clear ho9 hb9)
            | (at_builtin; (refine wpList_append_row wordE rfl (.tmp 69) (.tmp 71) rfl w7.heap.size A9 k c9 (wv arr) rfl (OwnE.alloc HO9.out _) (some ⟨w9.heap.size, 0, none⟩) 1 1 (wv [m.b.length]) rfl rfl (fun q u hq => ⟨_, rfl, Blk.news (Blk.new w9 _ _) q u hq⟩) (wv_one _) (by omega) (by omega) (by unfold maxLen; omega) ?_); intro A10 c10 w10 ho10 hgr10 hat10; have HO10 := Lib.hid ho10; have HB10 := Lib.hid ((HB9.out.alloc HB9.out.size _).trans (below_grown hgr10 (by have := HB9.out.size; simp; omega) (fun q hq => (OwnE.ltB HO9.out q hq).1))); clear ho10 hgr10 hat10)
            | fail)
          have hwe : wv arr ++ wv [m.b.length] = wv (arr ++ [m.b.length]) := by simp [wv]
          have hoF := HO10.out
          rw [hwe] at hoF
          obtain ⟨b10, rfl, _, hbl10, hcl10⟩ := OwnE.cell hoF (i := k) (by rw [wv_len, List.length_append, List.length_singleton, HL.out]; omega)
          rw [show (wv (arr ++ [m.b.length]))[k]? = some (.int .u64 (m.b.length : Int)) by unfold wv; rw [List.getElem?_map, List.getElem?_append_right (by rw [HL.out]; omega), HL.out, Nat.sub_self]; rfl] at hcl10
          have HA10 := Lib.hid (At.below HA7.out HB10.out)
          have HP10 := Lib.hid (HP7.out.below HB10.out)
          have hl12 : (put8 (m.object (aobj k)).b P (m.b.length : Nat)).length = m.b.length + (24 + 8 * R) := by rw [put8_len _ _ _ (by omega), hol]
          go_upto_region 16 with (first
            | (go_at_call 152; (refine (putS_any (m.b.length + 24) _ (by omega) _ w10 HA10.out (by show _ ≤ (put8 (m.object (aobj k)).b P (m.b.length : Nat)).length; omega) (by show (put8 (m.object (aobj k)).b P (m.b.length : Nat)).length ≤ _; omega)).mono ?_); rintro e w11 ⟨rfl, ha11, hp11⟩; have HA11 := Lib.hid ha11; have HP11 := Lib.hid (HP10.out.trans hp11); have HPx := Lib.hid hp11; clear ha11 hp11)
            | fail)
          have HAr := Lib.hid (arr_path (arr_own (Ft := Pl.away { p with bb := b5, cb := cb5 } B g) hoF (fun q h1 h2 h3 => h3.elim (fun h3 => absurd (At.lt HA7.out q h3).2 (by omega)) (fun h3 => by have := (At.lt HA7.out g (.inl rfl)); omega))) HPx.out)
          clear hcl10 hoF
          go_wp2
          go_ret2
          rw [HLk.out]
          refine ⟨_, _, rfl, HAr.out, At.same HA11.out rfl ?_ rfl ?_ rfl rfl rfl, HP11.out⟩
          · show setN (m.object (aobj k)).h 18 _ = setN (m.object (aobj arr.length)).h 18 _
            rw [HL.out]
          · show put8 (put8 (m.b ++ aobj k) P _) _ _ = put8 (put8 (m.b ++ aobj arr.length) _ _) _ _
            rw [HL.out, HPe.out]
        · obtain ⟨j, rfl⟩ : ∃ j, k = j + 1 := ⟨k - 1, by omega⟩
          have hPf : P = arr.getLastD 0 + 16 := by rw [HPe.out, if_neg (fun e => by have := HL.out; rw [e] at this; cases this)]
          have d0 : (((j + 1 : Nat) : Int) == 0) = false := by simp; omega
          obtain ⟨b, rfl, hcl⟩ := arr_at HRr.out j (by omega) (arr.getLastD 0) (last_getD arr j HL.out)
          have hlb : arr.getLastD 0 ≤ 200000 := by omega
          obtain ⟨la, hla⟩ : ∃ x, x = arr.getLastD 0 := ⟨_, rfl⟩
          rw [← hla] at hcl hlb hPf
          clear hla
          go_upto_region 14 with (first
            | (go_at_call 152; (refine (putS_any P _ (by omega) _ w6 HA6.out (by show P + 8 ≤ (m.object (aobj (j + 1))).b.length; omega) (by show (m.object (aobj (j + 1))).b.length ≤ _; omega)).mono ?_); rintro e w7 ⟨rfl, ha7, hp7⟩; have HA7 := Lib.hid ha7; have HP7 := Lib.hid (HP6.out.trans hp7); clear ha7 hp7)
            | fail)
          have HRs := Lib.hid (Arr.kept (Ft' := Pl.away { p with bb := b5, cb := cb5 } B g) (arr_path (p' := { p with bb := b5, cb := cb5 }) HR.out HP7.out) (KeptF.of_below (F := None') ((Below.refl w7.heap.size w7).alloc (Nat.le_refl _) (.cells #[] 23))) (fun _ _ _ h => h.elim) (fun _ _ h => h))
          obtain ⟨nl, nc⟩ := arr_news HRs.out
          have hl1 : m.b.length ≤ 100000 := hb
          go_upto_region 15 with (first
            | (at_builtin; (refine wpList_append_new wordE rfl (.tmp 67) (.tmp 68) rfl w7.heap.size (some ⟨w7.heap.size, 0, none⟩) 0 rfl (empty_own w7 w7.heap.size (Nat.le_refl _)) (some ⟨b, 0, none⟩) (j + 1) ca (wv arr) rfl nl nc (wv_one _) (by omega) (by omega) (by unfold maxLen; omega) ?_); intro A9 c9 w9 ho9 hb9; have HO9 := Lib.hid ho9; have HB9 := Lib.hid (show Below w7.heap.size w7 w9 from ((Below.refl w7.heap.size w7).alloc (Nat.le_refl _) _).trans hb9); clear ho9 hb9)
            | (at_builtin; (refine wpList_append_row wordE rfl (.tmp 69) (.tmp 71) rfl w7.heap.size A9 (j + 1) c9 (wv arr) rfl (OwnE.alloc HO9.out _) (some ⟨w9.heap.size, 0, none⟩) 1 1 (wv [m.b.length]) rfl rfl (fun q u hq => ⟨_, rfl, Blk.news (Blk.new w9 _ _) q u hq⟩) (wv_one _) (by omega) (by omega) (by unfold maxLen; omega) ?_); intro A10 c10 w10 ho10 hgr10 hat10; have HO10 := Lib.hid ho10; have HB10 := Lib.hid ((HB9.out.alloc HB9.out.size _).trans (below_grown hgr10 (by have := HB9.out.size; simp; omega) (fun q hq => (OwnE.ltB HO9.out q hq).1))); clear ho10 hgr10 hat10)
            | fail)
          have hwe : wv arr ++ wv [m.b.length] = wv (arr ++ [m.b.length]) := by simp [wv]
          have hoF := HO10.out
          rw [hwe] at hoF
          obtain ⟨b10, rfl, _, hbl10, hcl10⟩ := OwnE.cell hoF (i := (j + 1)) (by rw [wv_len, List.length_append, List.length_singleton, HL.out]; omega)
          rw [show (wv (arr ++ [m.b.length]))[(j + 1)]? = some (.int .u64 (m.b.length : Int)) by unfold wv; rw [List.getElem?_map, List.getElem?_append_right (by rw [HL.out]; omega), HL.out, Nat.sub_self]; rfl] at hcl10
          have HA10 := Lib.hid (At.below HA7.out HB10.out)
          have HP10 := Lib.hid (HP7.out.below HB10.out)
          have hl12 : (put8 (m.object (aobj (j + 1))).b P (m.b.length : Nat)).length = m.b.length + (24 + 8 * R) := by rw [put8_len _ _ _ (by omega), hol]
          go_upto_region 16 with (first
            | (go_at_call 152; (refine (putS_any (m.b.length + 24) _ (by omega) _ w10 HA10.out (by show _ ≤ (put8 (m.object (aobj (j + 1))).b P (m.b.length : Nat)).length; omega) (by show (put8 (m.object (aobj (j + 1))).b P (m.b.length : Nat)).length ≤ _; omega)).mono ?_); rintro e w11 ⟨rfl, ha11, hp11⟩; have HA11 := Lib.hid ha11; have HP11 := Lib.hid (HP10.out.trans hp11); have HPx := Lib.hid hp11; clear ha11 hp11)
            | fail)
          have HAr := Lib.hid (arr_path (arr_own (Ft := Pl.away { p with bb := b5, cb := cb5 } B g) hoF (fun q h1 h2 h3 => h3.elim (fun h3 => absurd (At.lt HA7.out q h3).2 (by omega)) (fun h3 => by have := (At.lt HA7.out g (.inl rfl)); omega))) HPx.out)
          clear hcl10 hoF
          go_wp2
          go_ret2
          rw [HLk.out]
          refine ⟨_, _, rfl, HAr.out, At.same HA11.out rfl ?_ rfl ?_ rfl rfl rfl, HP11.out⟩
          · show setN (m.object (aobj (j + 1))).h 18 _ = setN (m.object (aobj arr.length)).h 18 _
            rw [HL.out]
          · show put8 (put8 (m.b ++ aobj (j + 1)) P _) _ _ = put8 (put8 (m.b ++ aobj arr.length) _ _) _ _
            rw [HL.out, HPe.out]
      · have HLk := Lib.hid (show Mk.link m arr n fr item = (Mk.linkOld m arr n item, arr, n - rooms (arr.length - 1) + 1) by unfold Mk.link; rw [if_neg (by rw [HL.out]; exact he)])
        have hch := chain_old HC.out (by rw [HL.out]; exact he)
        have hlast := chain_last HC.out (chain_ne HC.out (by rw [HL.out]; exact he))
        have hrn := (roomN_bd (arr.length - 1)).2
        rw [HL.out] at hch hlast hrn HLk
        have d0 : ((n : Int) == ((rooms k : Nat) : Int)) = false := by simp; omega
        generalize hrk1 : rooms (k - 1) = rk1 at *
        generalize hrk : rooms k = rk at *
        generalize roomN (k - 1) = R at *
        have HE0 := Lib.hid hrk
        have HE1 := Lib.hid hrk1
        clear hrk hrk1
        have hk0 : 0 < k := by
          rcases Nat.eq_zero_or_pos k with h | h
          · have h1 := List.eq_nil_of_length_eq_zero (show arr.length = 0 by rw [HL.out]; exact h)
            have h2 := HC.out.le
            rw [h1] at h2
            exfalso
            have h3 : n = 0 := Nat.le_zero.1 h2
            have h4 := HE0.out
            rw [h] at h4
            exact he (h3.trans (show 0 = rk from h4))
          · exact h
        obtain ⟨j, rfl⟩ : ∃ j, k = j + 1 := ⟨k - 1, by omega⟩
        obtain ⟨b, rfl, hcl⟩ := arr_at HR.out j (by omega) (arr.getLastD 0) (last_getD arr j HL.out)
        have hlb : arr.getLastD 0 ≤ 200000 := by omega
        obtain ⟨la, hla⟩ : ∃ x, x = arr.getLastD 0 := ⟨_, rfl⟩
        have HLa := Lib.hid hla
        rw [← hla] at hcl hlast hlb
        clear hla he
        obtain ⟨q, hq⟩ : ∃ q : Nat, n = rk1 + q := ⟨n - rk1, by omega⟩
        have HLo := Lib.hid (show Mk.linkOld m arr n item = { m with b := put8 m.b (la + 24 + 8 * q) item } by unfold Mk.linkOld; rw [← HLa.out, HL.out, HE1.out, hq, Nat.add_sub_cancel_left])
        have HQ := Lib.hid hq
        subst hq
        go_upto_region 16 with (first
          | (go_at_call 152; (refine (putS_any (la + 24 + 8 * q) _ (by omega) _ wr HA.out (by omega) (by omega)).mono ?_); rintro e w11 ⟨rfl, ha11, hp11⟩; have HA11 := Lib.hid ha11; have HP11 := Lib.hid hp11; clear ha11 hp11)
          | fail)
        go_wp2
        go_ret2
        rw [HLk.out]
        refine ⟨_, p, ?_, arr_path HR.out HP11.out, ?_, HP11.out⟩
        · have e : ((rk1 + q - rk1 + 1 : Nat) : Int) = (rk1 : Int) + (q : Int) - (rk1 : Int) + 1 := by omega
          show Ending.returned (Value.tuple #[.slice (some ⟨b, 0, none⟩) (j + 1) ca, .int .i64 ((rk1 : Int) + (q : Int) - (rk1 : Int) + 1)]) = Ending.returned (Value.tuple #[.slice (some ⟨b, 0, none⟩) (j + 1) ca, .int .i64 ((rk1 + q - rk1 + 1 : Nat) : Int)])
          rw [e]
        · show At _ _ _ _ (Mk.linkOld m arr (rk1 + q) item)
          rw [HLo.out]
          exact HA11.out
end Go.Proofs.YtldkmobncmfodaaGreat.Nf
