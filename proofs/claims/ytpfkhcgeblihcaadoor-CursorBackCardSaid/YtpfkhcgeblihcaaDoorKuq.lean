/-
  What the walk of CursorBack wants.
-/
import Derived.Test.YtpfkhcgeblihcaaDoorKup
import Derived.Test.YtpfkhcgeblihcaaDoorKug
import Derived.Test.YtpfkhcgeblihcaaDoorKuo
import Derived.Test.YtpfkhcgeblihcaaDoorNumb
import Derived.Deep.CutRange
import Derived.Deep.MidRow
namespace Go.Proofs.YtpfkhcgeblihcaaDoor.Kuq
open Go.ChangeShapes Go.WideShapes Go.ChangeAt Go.RowKit
open Bytes8 Blk8 Own8 Fa Fo Kua Kub Kuc Kud Kue Kuf Kug Kui Kuj Kuk Kun Kuo Kup Numb
set_option linter.unusedVariables false
set_option linter.unusedSimpArgs false
set_option maxRecDepth 100000

/-- Blocks that stand. -/
def Keeps : List (Nat × List Value × TypeId) → World → Prop
  | [], _ => True
  | p :: L, W => Blk W p.1 p.2.1 p.2.2 ∧ Keeps L W
theorem Keeps.below {W W' : World} (hb : Below W.heap.size W W') : ∀ {L : List (Nat × List Value × TypeId)}, Keeps L W → Keeps L W'
  | [], _ => trivial
  | p :: L, h => ⟨h.1.below hb h.1.lt, h.2.below hb⟩
/-- A world some steps behind the law's beginning. -/
structure At (w : World) (L : List (Nat × List Value × TypeId)) (W : World) : Prop where
  bel : Below w.heap.size w W
  tab : Tab W
  keep : Keeps L W
theorem At.next {w : World} {L : List (Nat × List Value × TypeId)} {W W' : World} (h : At w L W) (hb : Below W.heap.size W W') : At w L W' :=
  ⟨h.bel.trans (hb.mono h.bel.size), h.tab.below hb, h.keep.below hb⟩
theorem At.nextg {w : World} {L : List (Nat × List Value × TypeId)} {W W' : World} {k : Nat} (h : At w L W) (hk : W.heap.size = k) (hb : Below k W W') : At w L W' := h.next (hk ▸ hb)
theorem At.add {w : World} {L : List (Nat × List Value × TypeId)} {W : World} (h : At w L W) {g : Nat} {l : List Value} {t : TypeId} (hb : Blk W g l t) : At w ((g, l, t) :: L) W := ⟨h.bel, h.tab, hb, h.keep⟩
theorem new_box (W : World) (o : Obj) : Below W.heap.size W (W.alloc o) := (Below.refl _ W).alloc (Nat.le_refl _) o
theorem z0_new (W : World) : Blk (W.alloc (.cells #[.int .u8 0, .int .u8 0, .int .u8 0, .int .u8 0, .int .u8 0, .int .u8 0, .int .u8 0, .int .u8 0, .int .u8 0, .int .u8 0, .int .u8 0, .int .u8 0, .int .u8 0, .int .u8 0, .int .u8 0, .int .u8 0, .int .u64 0, .int .u8 0, .int .u8 0, .int .u8 0, .int .u8 0, .int .u8 0, .int .u8 0, .int .u8 0, .int .u8 0, .int .u8 0, .int .u8 0, .int .u8 0, .int .u8 0, .int .u8 0, .int .u8 0, .int .u8 0, .int .u8 0, .int .u64 0, .int .u64 0, .int .u64 0] 26)) W.heap.size z0.cells 26 := Blk.new W z0.cells 26
def zI : Nat → Int := fun _ => 0
theorem zI_new (W : World) : Blk (W.alloc (.cells #[.int .u8 0, .int .u8 0, .int .u8 0, .int .u8 0, .int .u8 0, .int .u8 0, .int .u8 0, .int .u8 0, .int .u8 0, .int .u8 0, .int .u8 0, .int .u8 0, .int .u8 0, .int .u8 0, .int .u8 0, .int .u8 0] 23)) W.heap.size (idCells zI) 23 := Blk.new W (idCells zI) 23
theorem box_below (W : World) (o : Obj) (cs : Array Value) : Below W.heap.size W ((W.alloc o).setRow W.heap.size cs) := below_setRow (new_box W o) (Nat.le_refl _) cs
theorem at_slotw (n : Nat) {P : Program} {ops : Array Oper} {Q : Exit → Act → World → Prop} {rest : List Oper} {a : Act} {w : World} {op : Op} {ty : TypeId} {pos : String} {af : Array Edge} {gd : Option (Nat × Bool)}
    (h : wpList P ops Q (⟨some n, op, ty, pos, af, gd⟩ :: rest) a w) : wpList P ops Q (⟨some n, op, ty, pos, af, gd⟩ :: rest) a w := h
theorem u8_wf {x : Int} (h : (Lit.int .u8 x).wf = true) : 0 ≤ x ∧ x < 256 := by
  simp [Lit.wf, IntKind.min, IntKind.max, IntKind.signed, IntKind.bits] at h
  omega
theorem xor_own {b x : Int} (hb : 0 ≤ b ∧ b < 256) (hx : 0 ≤ x ∧ x < 256) : (0 ≤ bits .xor .u8 b x ∧ bits .xor .u8 b x < 256) ∧ (bits .xor .u8 b x = b ↔ x = 0) := by
  rw [u8_xor b x hb.1 hb.2 hx.1 hx.2]
  have h1 : b.toNat ^^^ x.toNat < 2 ^ 8 := Nat.xor_lt_two_pow (by omega) (by omega)
  refine ⟨⟨by omega, by omega⟩, ?_⟩
  constructor
  · intro h
    have h2 : b.toNat ^^^ x.toNat = b.toNat := by omega
    have h3 : b.toNat ^^^ (b.toNat ^^^ x.toNat) = b.toNat ^^^ b.toNat := by rw [h2]
    rw [← Nat.xor_assoc, Nat.xor_self, Nat.zero_xor] at h3
    omega
  · rintro rfl
    simp
    omega
theorem set_own {s : List Int} {j : Nat} {y : Int} (hj : j < s.length) : s.set j y = s ↔ y = s.getD j 0 := by
  have e : s.getD j 0 = s[j] := by simp [List.getElem?_eq_getElem hj]
  rw [e]
  constructor
  · intro h
    have := List.getElem_set_self (l := s) (i := j) (a := y) (by simpa using hj)
    rw [← this]
    simp only [h]
  · rintro rfl
    exact List.set_getElem_self hj
def eqC (a b : Value) : Sem Value := binOp .eql 26 a b
def neC (a b : Value) : Sem Value := binOp .neq 26 a b
def eqI (a b : Value) : Sem Value := binOp .eql 23 a b
theorem eqC_fold (a b : Array Value) : binOp .eql 26 (.agg a) (.agg b) = eqC (.agg a) (.agg b) := rfl
theorem neC_fold (a b : Array Value) : binOp .neq 26 (.agg a) (.agg b) = neC (.agg a) (.agg b) := rfl
theorem eqI_fold (a b : Array Value) : binOp .eql 23 (.agg a) (.agg b) = eqI (.agg a) (.agg b) := rfl
attribute [local go_sem ↓] cat_fold eqC_fold neC_fold eqI_fold

theorem pv {s : List Int} (h : okP s = true) : parseV s = curOf s := by unfold parseV; rw [if_pos h]

theorem hexL_all {K : Nat → Int} (hK : IdOk K) : AllB (hexL K) := fun x hx => by have := hexN_byte hK 16 x hx; omega
theorem fixL_all (v : Nat) : AllB (fixL v) := fun x hx => by have := digs_byte _ _ x hx; omega
theorem id_whole {w : World} {g : Nat} {K : Nat → Int} {ty : TypeId} (h : Blk w g (idCells K) ty) : w.rangeAt g 0 (idCells K) := fun j v hj => by rw [Nat.zero_add]; exact h.cell hj

/-- The texts of the law. -/
structure Txt (c : Cur) (s : List Int) (j : Nat) (x : Int) (s2 s3 s4 : List Int) : Prop where
  len : 80 ≤ s.length ∧ s.length ≤ 145
  all : AllB s
  ok1 : okP s = true
  cu1 : (curOf s).Ok ∧ decide (showL (curOf s) = showL c) = true
  jlt : j < s.length
  y : 0 ≤ bits .xor .u8 (s.getD j 0) x ∧ bits .xor .u8 (s.getD j 0) x < 256
  e2 : s2 = s.set j (bits .xor .u8 (s.getD j 0) x)
  all2 : AllB s2 ∧ s2.length ≤ 1000000
  ok2 : x = 0 → okP s2 = true
  cu2 : okP s2 = true → (curOf s2).Ok ∧ showL (curOf s2) = s2 ∧ decide (showL (curOf s2) = showL c) = decide (x = 0)
  e3 : s3 = s.take j ++ s.drop (j + 1)
  all3 : AllB s3 ∧ s3.length ≤ 1000000
  cu3 : okP s3 = true → (curOf s3).Ok ∧ (!decide (showL (curOf s3) = showL c)) = true
  e4 : s4 = (s.take j ++ (s.drop j).take 1) ++ s.drop j
  all4 : AllB s4 ∧ s4.length ≤ 1000000
  cu4 : okP s4 = true → (curOf s4).Ok ∧ (!decide (showL (curOf s4) = showL c)) = true
theorem all_app {l m : List Int} (h : AllB l) (k : AllB m) : AllB (l ++ m) := fun x hx => by
  rcases List.mem_append.1 hx with hx | hx
  · exact h x hx
  · exact k x hx
theorem txt_of (c : Cur) (hc : c.Ok) (j : Nat) (x : Int) (hx : 0 ≤ x ∧ x < 256) (hj : j < (showL c).length) : ∃ s s2 s3 s4, showL c = s ∧ Txt c s j x s2 s3 s4 := by
  have hl := showL_len hc
  have hA := showL_all hc
  obtain ⟨o1, o2⟩ := of_show hc
  have o3 := own hc
  have k1 := (show_of o1).2
  have hb : 0 ≤ (showL c).getD j 0 ∧ (showL c).getD j 0 < 256 := by
    have e : (showL c).getD j 0 = (showL c)[j] := by simp [List.getElem?_eq_getElem hj]
    rw [e]
    exact hA _ (List.getElem_mem hj)
  obtain ⟨y1, y2⟩ := xor_own hb hx
  refine ⟨showL c, _, _, _, rfl, ⟨by omega, by omega⟩, hA, o1, ⟨k1, o3⟩, hj, y1, rfl, ⟨hA.set j y1.1 y1.2, by rw [List.length_set]; omega⟩, ?_, ?_, rfl, ⟨all_app (hA.take _) (hA.drop _), by simp; omega⟩, ?_, rfl, ⟨all_app (all_app (hA.take _) ((hA.drop _).take _)) (hA.drop _), by simp; omega⟩, ?_⟩
  · intro h0
    rw [(set_own hj).2 (y2.2 h0)]
    exact o1
  · intro h
    obtain ⟨e, ok⟩ := show_of h
    refine ⟨ok, e.symm, ?_⟩
    rw [← e]
    exact decide_eq_decide.2 ((set_own hj).trans y2)
  · intro h
    refine ⟨(show_of h).2, ?_⟩
    rw [other (fun e => by have := congrArg List.length e; simp at this; omega) h]
    rfl
  · intro h
    refine ⟨(show_of h).2, ?_⟩
    rw [other (fun e => by have := congrArg List.length e; simp at this; omega) h]
    rfl

/-- The law's text with one byte turned. -/
def spoilt (c : Cur) (n x : Int) : List Int := (showL c).set (numBelow n (showL c).length).toNat (bits .xor .u8 ((showL c).getD (numBelow n (showL c).length).toNat 0) x)
def Sel1 (c : Cur) (n x : Int) : Prop := x = 0
def Sel2 (c : Cur) (n x : Int) : Prop := ¬ x = 0 ∧ okP (spoilt c n x) = true
def Sel3 (c : Cur) (n x : Int) : Prop := ¬ x = 0 ∧ okP (spoilt c n x) = false
end Go.Proofs.YtpfkhcgeblihcaaDoor.Kuq
