/-
  Texts beneath the proof, one behind the other.
-/
import Derived.Deep.CutRange
import Derived.Deep.RegionHeld3
import Derived.Test.YtldkmobncmfodaaGreatQ9
import Derived.Test.YtldkmobncmfodaaGreatQ7
import Derived.Test.YtldkmobncmfodaaGreatQ6
import Derived.Test.YtldkmobncmfodaaGreatQ4
import Derived.Test.YtldkmobncmfodaaGreatQ2
import Derived.Test.YtldkmobncmfodaaGreatQ1

/-
  A head handed on as the package's.
-/
namespace Go.Proofs.YtldkmobncmfodaaGreat.Gb
open Go.ChangeShapes Go.WideShapes Go.ChangeAt Go.RowKit
open Bytes8 Blk8 Own8 OwnM LeNum Ob Oc Od Ga
set_option linter.unusedVariables false
set_option linter.unusedSimpArgs false
set_option maxRecDepth 100000

theorem wpList_build_as {P : Program} {ops : Array Oper} {rest : List Oper} {o : Oper} {a : Act} {w : World} {Q : Exit → Act → World → Prop} (hg : o.guard = none) (t : TypeId) (parts : Array (Nat × Operand)) (ho : o.op = .build t parts) (cells : Array Value)
    (hb : P.built t (parts.map fun (i, x) => (i, a.eval x)).toList = some cells) (h : wpList P ops Q rest (a.put o.dst (.agg cells)) w) : wpList P ops Q (o :: rest) a w :=
  wpList_build hg t parts ho (by rw [hb]; rfl) (by rw [hb]; exact h)
/-- The operation that writes this slot; the one that stores. -/
theorem at_slot (n : Nat) {P : Program} {ops : Array Oper} {Q : Exit → Act → World → Prop} {rest : List Oper} {a : Act} {w : World} {op : Op} {ty : TypeId} {pos : String} {af : Array Edge} {gd : Option (Nat × Bool)}
    (h : wpList P ops Q (⟨some n, op, ty, pos, af, gd⟩ :: rest) a w) : wpList P ops Q (⟨some n, op, ty, pos, af, gd⟩ :: rest) a w := h
theorem at_store (x y : Operand) {P : Program} {ops : Array Oper} {Q : Exit → Act → World → Prop} {rest : List Oper} {a : Act} {w : World} {t ty : TypeId} {pos : String} {af : Array Edge} {gd : Option (Nat × Bool)}
    (h : wpList P ops Q (⟨none, .store t x y, ty, pos, af, gd⟩ :: rest) a w) : wpList P ops Q (⟨none, .store t x y, ty, pos, af, gd⟩ :: rest) a w := h
theorem headInfo : (Tryz.prog.info? 62).map (·.size) = some 91 := by kernel_rfl
theorem rheadInfo : (Tryz.prog.info? 102).map (·.size) = some 90 := by kernel_rfl
theorem idInfo : (Tryz.prog.info? 50).map (·.size) = some 16 := by kernel_rfl
/-- With one number more. -/
def HD.plus (h : HD) (d : Int) : HD := { h with N := fun i => if i < 20 then h.N i else d }
def idc (h : HD) (k : Nat) : List Value := (h.id k).map (Value.int .u8)

theorem cells_info (h : HD) : (Tryz.prog.info? 62).map (·.size) = some (h.cells 21).toArray.size := by rw [headInfo]; simp [HD.len]
theorem zeros_size {h : HD} : Tryz.zeroCells62.size = (h.cells 21).toArray.size := by rw [show Tryz.zeroCells62.size = 91 by kernel_rfl]; simp [HD.len]
attribute [local irreducible] idc HD.cells wpList Code.wp
end Go.Proofs.YtldkmobncmfodaaGreat.Gb

/-
  A journal that grows, as plain data: what the document's writer makes. No Go in sight.
-/
namespace Go.Proofs.YtldkmobncmfodaaGreat.Ma
open Bytes8 LeNum Ob Ga
set_option linter.unusedVariables false
set_option linter.unusedSimpArgs false

/-- Eight bytes put at a place. -/
def put8 (b : List Int) (a : Nat) (v : Int) : List Int := over b a (lowB v 8)
theorem put8_len (b : List Int) (a : Nat) (v : Int) (h : a + 8 ≤ b.length) : (put8 b a v).length = b.length := over_len _ _ _ (by rw [lowB_len]; exact h)
/-- A payload, or a name, that has an object. -/
structure Kn where
  text : List Int
  at_ : Nat
  slot : Nat
  count : Nat
  arrays : List Nat
/-- A writer's configuration. -/
structure Cf where
  F : Nat → Int
  M : Nat → Int
  S : Nat → Int
  ds : Nat
  fs : Nat
  most : Nat
  keyed : Bool
structure Mk where
  C : Cf
  h : HD
  depth : Nat
  b : List Int
  datas : List Kn
  fields : List Kn
  main : List Nat
def setN (h : HD) (i : Nat) (v : Int) : HD := { h with N := fun j => if j = i then v else h.N j }
/-- An object at the end; it lies at the old end. -/
def Mk.object (m : Mk) (l : List Int) : Mk := { m with b := m.b ++ l, h := setN (setN m.h 6 m.b.length) 7 (m.h.N 7 + 1) }
/-- Of a row those of a slot: how many, the last one's place. -/
def inSlot (l : List Kn) (slot : Nat) : Nat := (l.filter fun k => k.slot == slot).length
def lastIn (l : List Kn) (slot : Nat) : Nat := ((l.filter fun k => k.slot == slot).getLast?.map Kn.at_).getD 0
/-- Into the chain of its slot. -/
def hung (b : List Int) (l : List Kn) (table a slot : Nat) : List Int :=
  put8 (if inSlot l slot = 0 then put8 b (table + 16 * slot) a else put8 b (lastIn l slot + 24) a) (table + 16 * slot + 8) a
/-- The room of the k-th array of a chain. -/
def roomN (k : Nat) : Nat := if k > 6 then 256 else min (4 * 2 ^ k) 256
def rooms (k : Nat) : Nat := ((List.range k).map roomN).foldl (· + ·) 0
theorem rooms_succ (k : Nat) : rooms (k + 1) = rooms k + roomN k := by simp [rooms, List.range_succ]
theorem inSlot_snoc (l : List Kn) (k : Kn) (slot : Nat) : inSlot (l ++ [k]) slot = inSlot l slot + if k.slot = slot then 1 else 0 := by
  unfold inSlot
  rw [List.filter_append, List.length_append]
  by_cases h : k.slot = slot
  · simp [h]
  · simp [h]
theorem lastIn_snoc (l : List Kn) (k : Kn) (slot : Nat) : lastIn (l ++ [k]) slot = if k.slot = slot then k.at_ else lastIn l slot := by
  unfold lastIn
  rw [List.filter_append]
  by_cases h : k.slot = slot
  · simp [h]
  · simp [h]
theorem take_snoc_kn (l : List Kn) (i : Nat) (h : i < l.length) : l.take (i + 1) = l.take i ++ [l[i]] := by rw [List.take_succ_eq_append_getElem h]
end Go.Proofs.YtldkmobncmfodaaGreat.Ma

/-
  What Value, Sip and Of answer.
-/
namespace Go.Proofs.YtldkmobncmfodaaGreat.Sd
open Go.ChangeShapes Go.WideShapes Go.ChangeAt Go.RowKit
open Bytes8 Blk8 LeNum LeA LeB Hm Ha Hb Hc Hd He Hf Sa Sb Sm Sc
set_option linter.unusedVariables false
set_option maxRecDepth 100000

def QuadAt (w0 : World) (g : Nat) (f : Quad) (w : World) : Prop := Blk w g [.int .u64 f.p, .int .u64 f.q, .int .u64 f.r, .int .u64 f.s] 297 ∧ Below w0.heap.size w0 w
theorem quad_step {w0 w : World} {g : Nat} {p q r s : Value} (h : Blk w g [p, q, r, s] 297) (hb : Below w0.heap.size w0 w) (hg : w0.heap.size ≤ g) (f : Quad) :
    QuadAt w0 g f ((((w.setCell ⟨g, 0, none⟩ (.int .u64 f.p)).setCell ⟨g, 1, none⟩ (.int .u64 f.q)).setCell ⟨g, 2, none⟩ (.int .u64 f.r)).setCell ⟨g, 3, none⟩ (.int .u64 f.s)) :=
  ⟨(((h.set_ 0 _).set_ 1 _).set_ 2 _).set_ 3 _, (((hb.setCell hg _).setCell hg _).setCell hg _).setCell hg _⟩
theorem sipEnd_four (f : Quad) (m : Int) (G : Quad) (hG : quadPlus f m = G) : sipEnd f m = bits .xor .u64 (bits .xor .u64 (bits .xor .u64 (rounds ⟨G.p, G.q, bits .xor .u64 G.r 255, G.s⟩ 4).p (rounds ⟨G.p, G.q, bits .xor .u64 G.r 255, G.s⟩ 4).q) (rounds ⟨G.p, G.q, bits .xor .u64 G.r 255, G.s⟩ 4).r) (rounds ⟨G.p, G.q, bits .xor .u64 G.r 255, G.s⟩ 4).s := by subst hG; rfl

theorem six_of {w : World} {g : Nat} {a b c d e f : Value} {T : TypeId} (h : Blk w g [a, b, c, d, e, f] T) :
    w.cell? ⟨g, 0, none⟩ = some a ∧ w.cell? ⟨g, 1, none⟩ = some b ∧ w.cell? ⟨g, 2, none⟩ = some c ∧ w.cell? ⟨g, 3, none⟩ = some d ∧ w.cell? ⟨g, 4, none⟩ = some e ∧ w.cell? ⟨g, 5, none⟩ = some f :=
  ⟨h.cell (i := 0) rfl, h.cell (i := 1) rfl, h.cell (i := 2) rfl, h.cell (i := 3) rfl, h.cell (i := 4) rfl, h.cell (i := 5) rfl⟩
theorem four_far {w : World} {g b : Nat} {vs : List Value} {T : TypeId} (h : Blk w g vs T) (hg : g ≠ b) (p q r s : Value) :
    Blk ((((w.setCell ⟨b, 0, none⟩ p).setCell ⟨b, 1, none⟩ q).setCell ⟨b, 2, none⟩ r).setCell ⟨b, 3, none⟩ s) g vs T :=
  (((h.far (p := ⟨b, 0, none⟩) hg _).far (p := ⟨b, 1, none⟩) hg _).far (p := ⟨b, 2, none⟩) hg _).far (p := ⟨b, 3, none⟩) hg _
theorem zero_blk {w w3 : World} (hb3 : Below (World.drew (World.alloc w (.cells #[.int .u64 0, .int .u64 0, .int .u64 0, .int .u64 0] 297))).heap.size (World.drew (World.alloc w (.cells #[.int .u64 0, .int .u64 0, .int .u64 0, .int .u64 0] 297))) w3) : Blk w3 w.heap.size [.int .u64 0, .int .u64 0, .int .u64 0, .int .u64 0] 297 := (Blk.new_at w _ _ _ rfl).drew.below hb3 (by simp)
theorem zero_below {w w3 : World} (hb3 : Below (World.drew (World.alloc w (.cells #[.int .u64 0, .int .u64 0, .int .u64 0, .int .u64 0] 297))).heap.size (World.drew (World.alloc w (.cells #[.int .u64 0, .int .u64 0, .int .u64 0, .int .u64 0] 297))) w3) : Below w.heap.size w w3 := ((Below.refl _ _).alloc (Nat.le_refl _) _).drew.trans (hb3.mono (by simp))
theorem zero_cell {w w3 : World} (hb3 : Below (World.drew (World.alloc w (.cells #[.int .u64 0, .int .u64 0, .int .u64 0, .int .u64 0] 297))).heap.size (World.drew (World.alloc w (.cells #[.int .u64 0, .int .u64 0, .int .u64 0, .int .u64 0] 297))) w3) (i : Nat) (hi : i < 4) : w3.cell? ⟨w.heap.size, i, none⟩ = some (.int .u64 0) := by
  have hB : Blk w3 w.heap.size [.int .u64 0, .int .u64 0, .int .u64 0, .int .u64 0] 297 := (Blk.new_at w _ _ _ rfl).drew.below hb3 (by simp)
  match i, hi with
  | 0, _ => exact hB.cell rfl
  | 1, _ => exact hB.cell rfl
  | 2, _ => exact hB.cell rfl
  | 3, _ => exact hB.cell rfl
theorem zero_frozen {w w3 : World} (hb3 : Below (World.drew (World.alloc w (.cells #[.int .u64 0, .int .u64 0, .int .u64 0, .int .u64 0] 297))).heap.size (World.drew (World.alloc w (.cells #[.int .u64 0, .int .u64 0, .int .u64 0, .int .u64 0] 297))) w3) (i : Nat) : w3.frozen? ⟨w.heap.size, i, none⟩ = false := by
  have hB : Blk w3 w.heap.size [.int .u64 0, .int .u64 0, .int .u64 0, .int .u64 0] 297 := (Blk.new_at w _ _ _ rfl).drew.below hb3 (by simp)
  exact hB.frozen i

set_option maxRecDepth 100000 in
set_option maxHeartbeats 4000000 in
theorem value_any (K : Nat → Int) (g : Nat) (l : List Int) (w : World) (hs : SumAt w g (idL K) l) :
    Calls Tryz.prog 179 #[.pointer (some ⟨g, 0, none⟩)] w fun e w' => e = .returned (.int .u64 (sipS (idL K) l)) ∧ Below w.heap.size w w' := by
  obtain ⟨hA, hB⟩ := hs
  obtain ⟨z, hz⟩ : ∃ z, (l.length : Int) % 256 = z := ⟨_, rfl⟩
  obtain ⟨M, hM⟩ : ∃ M, last8 l = M := ⟨_, rfl⟩
  obtain ⟨G, hG⟩ : ∃ G, quadPlus (quadAt (idL K) l (l.length / 8)) M = G := ⟨_, rfl⟩
  have hE := sipEnd_four _ _ _ hG
  have hS : sipS (idL K) l = sipEnd (quadAt (idL K) l (l.length / 8)) M := by unfold sipS; rw [hM]
  have HE := Lib.hid (hS.trans hE)
  rw [last8_left, hz] at hM
  rw [hz] at hB
  have z0 : 0 ≤ z := by omega
  have z1 : z ≤ 255 := by omega
  have hM2 : bits .or .u64 (left8 l) (IntKind.u64.wrap (z * 72057594037927936)) = M := by rw [IntKind.wrap_u64, show z * 72057594037927936 % 18446744073709551616 = z * 72057594037927936 by omega]; exact hM
  have hwz : IntKind.u64.wrap z = z := by rw [IntKind.wrap_u64]; omega
  have hp := fun w => qplus_q (quadAt (idL K) l (l.length / 8)) M w (quadAt_ok _ _ _)
  rw [hG] at hp
  have HP := Lib.hid hp
  clear hp
  have HO : Hid G.ok := by rw [← hG]; exact Lib.hid (quadPlus_ok _ _)
  generalize quadAt (idL K) l (l.length / 8) = F at *
  generalize left8 l = L at *
  clear hz hG hE hS hA
  have g0 := hB.cell (i := 0) rfl
  have g1 := hB.cell (i := 1) rfl
  have g2 := hB.cell (i := 2) rfl
  have g3 := hB.cell (i := 3) rfl
  have g4 := hB.cell (i := 4) rfl
  have g5 := hB.cell (i := 5) rfl
  have R := Lib.hid hB
  have hgl := hB.lt
  have hgne : g ≠ w.heap.size := by omega
  clear hB
  go_enter Tryz.func179, Tryz.ntmps179
  go_wp2
  go_cut [3] from 4 to 19 (fun f wx => ∃ gq, f = .pointer (some ⟨gq, 0, none⟩) ∧ w.heap.size ≤ gq ∧ Hid (QuadAt w gq G wx))
  case first =>
    go_region_held3 (fun w' => w'.cell? ⟨g, 0, none⟩ = some (.int .u64 F.p) ∧ w'.cell? ⟨g, 1, none⟩ = some (.int .u64 F.q) ∧ w'.cell? ⟨g, 2, none⟩ = some (.int .u64 F.r) ∧ w'.cell? ⟨g, 3, none⟩ = some (.int .u64 F.s) ∧ w'.cell? ⟨g, 4, none⟩ = some (.int .u64 L) ∧ w'.cell? ⟨g, 5, none⟩ = some (.int .u8 z)) (first | (with_reducible exact ⟨g0, g1, g2, g3, g4, g5⟩) | (with_reducible exact r3) | (with_reducible exact six_of (four_far R3 hgne _ _ _ _)) | (with_reducible exact six_of (R3.alloc _)) | go_keep)
      (first | (go_at_call 204; (with_reducible refine (HP.out _).mono ?_); rintro e w3 ⟨rfl, hb3⟩; first | ((with_reducible replace hb3 : Below (World.drew (World.alloc w (.cells #[.int .u64 0, .int .u64 0, .int .u64 0, .int .u64 0] 297))).heap.size (World.drew (World.alloc w (.cells #[.int .u64 0, .int .u64 0, .int .u64 0, .int .u64 0] 297))) w3 := hb3); have hB3 := zero_below hb3; have R3 := R.out.below hB3 hgl; have hg3 := R3.lt; have r3 := six_of R3; have q0 := zero_cell hb3 0 (by decide); have y0 := zero_frozen hb3 0; have q1 := zero_cell hb3 1 (by decide); have y1 := zero_frozen hb3 1; have q2 := zero_cell hb3 2 (by decide); have y2 := zero_frozen hb3 2; have q3 := zero_cell hb3 3 (by decide); have y3 := zero_frozen hb3 3) | (have hB3 := (Below.refl _ w).drew.trans hb3; have R3 := R.out.below hB3 hgl; have hg3 := R3.lt; have r3 := six_of R3)))
    all_goals
      go_wp2_with fail
      go_meet
      case rel =>
        first
          | exact ⟨_, rfl, hB3.size, Lib.hid ⟨Blk.new_at w3 _ _ _ rfl, hB3.alloc hB3.size _⟩⟩
          | exact ⟨_, rfl, Nat.le_refl _, Lib.hid (quad_step (zero_blk hb3) hB3 (Nat.le_refl _) G)⟩
  case rest =>
    obtain ⟨gq, rfl, hgq, hq⟩ := hcut
    have Q1 := Lib.hid hq.out.1
    have Q2 := Lib.hid hq.out.2
    have v0 := Q1.out.cell (i := 2) rfl
    have v1 := Q1.out.frozen 2
    clear hM hM2 hwz g0 g1 g2 g3 g4 g5 hgl hgne hq
    have HRn := Lib.hid fun k => rounds_ok ⟨G.p, G.q, bits .xor .u64 G.r 255, G.s⟩ ⟨HO.out.1, HO.out.2.1, b64 .xor _ _, HO.out.2.2.2⟩ k
    go_wp2
    clear v0 v1
    have Q3 : QuadAt w gq ⟨G.p, G.q, bits .xor .u64 G.r 255, G.s⟩ (wc.setCell ⟨gq, 2, none⟩ (.int .u64 (bits .xor .u64 G.r 255))) := ⟨Q1.out.set_ 2 _, Q2.out.setCell hgq _⟩
    generalize wc.setCell ⟨gq, 2, none⟩ (.int .u64 (bits .xor .u64 G.r 255)) = w5 at Q3 ⊢
    have Q3 := Lib.hid Q3
    generalize (⟨G.p, G.q, bits .xor .u64 G.r 255, G.s⟩ : Quad) = Y at *
    go_loopw [24] (fun i wr => ∃ k : Nat, k ≤ 4 ∧ i = .int .i64 k ∧ Hid (QuadAt w gq (rounds Y k) wr)) (fun i _ => 4 - (intOf i).toNat)
    case atStart => exact ⟨0, by omega, rfl, Q3⟩
    case round =>
      obtain ⟨k, hk, rfl, hr⟩ := hrel
      have P1 := Lib.hid hr.out.1
      have P2 := Lib.hid hr.out.2
      have g0 := P1.out.cell (i := 0) rfl
      have g1 := P1.out.cell (i := 1) rfl
      have g2 := P1.out.cell (i := 2) rfl
      have g3 := P1.out.cell (i := 3) rfl
      have hz := P1.out.lt
      by_cases hlt : k < 4
      · have hd : decide (k < 4) = true := by simpa using hlt
        have HR := Lib.hid fun W => round_q (rounds Y k) W (HRn.out k)
        have HN : rounds Y (k + 1) = round (rounds Y k) := rfl
        have HN := Lib.hid HN
        go_wp2_with (go_at_call 205; (with_reducible refine (HR.out _).mono ?_); rintro e w6 ⟨rfl, hb6⟩; have R6 := Lib.hid (P1.out.below hb6 hz); have a0 := R6.out.cell (i := 0) rfl; have a1 := R6.out.cell (i := 1) rfl; have a2 := R6.out.cell (i := 2) rfl; have a3 := R6.out.cell (i := 3) rfl; have b0 := R6.out.frozen 0; have b1 := R6.out.frozen 1; have b2 := R6.out.frozen 2; have b3 := R6.out.frozen 3)
        go_roundw
        case rel => exact ⟨k + 1, by omega, by go_num, Lib.hid (quad_step R6.out (P2.out.trans (hb6.mono P2.out.size)) hgq (round (rounds Y k)))⟩
        case measure => simp [intOf]; omega
      · obtain rfl : k = 4 := by omega
        have hd : decide (4 < 4) = false := rfl
        go_wp2
        go_ret
        exact ⟨ret_int HE.out.symm, P2.out⟩
end Go.Proofs.YtldkmobncmfodaaGreat.Sd

/-
  What Sip, Of and the chapter's examples answer.
-/
namespace Go.Proofs.YtldkmobncmfodaaGreat.Se
open Go.ChangeShapes Go.WideShapes Go.ChangeAt Go.RowKit
open Bytes8 Blk8 Own8 LeNum LeA LeB Hm Ha Hb Hc Hd He Hf Sa Sb Sm Sc Sd
set_option linter.unusedVariables false
set_option maxRecDepth 100000

theorem new_at (K : Nat → Int) (w : World) (n : Nat) (hn : w.heap.size + 1 = n) (hk : IdOk K) :
    Calls Tryz.prog 177 #[idV K] w fun e w' => e = .returned (.pointer (some ⟨n, 0, none⟩)) ∧ SumAt w' n (idL K) [] ∧ Below w.heap.size w w' := by
  subst hn; exact new_any K w hk

theorem bytes_spot {w : World} {A : Option Addr} {l : List Int} (h : Bytes w A l) {B : Nat} (hB : w.heap.size ≤ B) : 0 < l.length → ∀ b off, A = some ⟨b, off, none⟩ → b ≠ B := by
  intro hp b off e
  obtain ⟨b', off', e', hlt, _⟩ := h.spot hp
  rw [e] at e'; simp at e'; obtain ⟨rfl, rfl⟩ := e'; omega


set_option maxRecDepth 100000 in
set_option maxHeartbeats 1000000 in
theorem sip_any (K : Nat → Int) (A : Option Addr) (l : List Int) (len cap : Nat) (w : World) (hk : IdOk K) (hb : Bytes w A l) (hL : l.length = len) (hmax : len ≤ 800000) :
    Calls Tryz.prog 128 #[idV K, .slice A len cap] w fun e w' => e = .returned (.int .u64 (sipS (idL K) l)) ∧ Below w.heap.size w w' := by
  have HNew := Lib.hid (new_at K (w.alloc (idC 50 K)) (w.heap.size + 1 + 1) (by simp) hk)
  have HB := Lib.hid hb
  have HL := Lib.hid hL
  have HSp := Lib.hid (bytes_spot hb (B := w.heap.size + 1 + 1) (by omega))
  clear hb hL
  go_enter Tryz.func128, Tryz.ntmps128
  go_wp2_with (first | (go_at_call 177; (with_reducible refine HNew.out.mono ?_); rintro e w1 ⟨rfl, hs1, hb1⟩; have HS1 := Lib.hid hs1; clear hs1; have k1 := ((Below.refl w.heap.size w).alloc (Nat.le_refl _) (idC 50 K)).trans (hb1.mono (by simp)); have HAdd := Lib.hid (add_any K _ A [] l len cap w1 HS1.out (HB.out.below k1 (Nat.le_refl _)) HL.out (by omega) (by rw [← HL.out]; exact HSp.out))) | (go_at_call 178; (with_reducible refine HAdd.out.mono ?_); rintro e w2 ⟨rfl, hs2, hg2⟩; rw [List.nil_append] at hs2; have HV := Lib.hid (value_any K _ l w2 hs2); clear hs2) | (go_at_call 179; (with_reducible refine HV.out.mono ?_); rintro e w3 ⟨rfl, hb3⟩))
  go_ret
  have k2 := k1.grown hg2 k1.size (fun k h => by injection h with h; omega)
  exact ⟨rfl, k2.trans (hb3.mono k2.size)⟩

/-! ## the examples -/
def cells (k : Nat) : List Value := (List.range 16).map fun i => Value.int .u8 (if i < k then (i : Int) else 0)
theorem cells_set (k : Nat) (hk : k < 16) : (cells k).set k (.int .u8 k) = cells (k + 1) := by
  unfold cells
  apply List.ext_getElem
  · simp
  · intro i h1 h2
    rw [List.getElem_set]
    by_cases e : k = i
    · subst e; simp
    · rw [if_neg e]
      simp only [List.getElem_map, List.getElem_range]
      by_cases h : i < k
      · rw [if_pos h, if_pos (by omega)]
      · rw [if_neg h, if_neg (by omega)]

def K16 (i : Nat) : Int := if i < 16 then (i : Int) else 0
end Go.Proofs.YtldkmobncmfodaaGreat.Se

/-
  The chapter's examples come out true, and nothing that was there is written.
-/
namespace Go.Proofs.YtldkmobncmfodaaGreat.Sf
open Go.ChangeShapes Go.WideShapes Go.ChangeAt Go.RowKit
open Bytes8 Blk8 Own8 LeNum LeA LeB Hm Ha Hb Hc Hd He Hf Sa Sb Sm Sc Sd Se
set_option linter.unusedVariables false
set_option maxRecDepth 100000

theorem one_byte (k : Nat) (h : k < 16) : AllB [(k : Int)] := fun n hn => by simp at hn; omega

theorem look_none (w : World) : Calls Tryz.prog 129 #[.slice none 0 0] w fun e w' => e = .returned (.int .u64 16045690984833335023) ∧ Below w.heap.size w w' := by
  have h := look_nil_any none 0 w
  rw [look_nil] at h
  exact h

end Go.Proofs.YtldkmobncmfodaaGreat.Sf

/-
  What Of, and the document's own Of, answer; a boxed key kept.
-/
namespace Go.Proofs.YtldkmobncmfodaaGreat.Sg
open Go.ChangeShapes Go.WideShapes Go.ChangeAt Go.RowKit
open Bytes8 Blk8 Own8 LeNum LeA LeB Hm Ha Hb Hc Hd He Hf Sa Sb Sm Sc Sd Se Sf
set_option linter.unusedVariables false
set_option maxRecDepth 100000

theorem of_any (t : Bool) (K : Nat → Int) (A : Option Addr) (l : List Int) (len cap : Nat) (w : World) (hk : IdOk K) (hb : Bytes w A l) (hL : l.length = len) (hmax : len ≤ 800000) (hcap : len ≤ cap) (hcap2 : cap ≤ maxLen) :
    Calls Tryz.prog 68 #[.bool t, idV K, .slice A len cap] w fun e w' => e = .returned (.int .u64 (ofS t (idL K) l)) ∧ Below w.heap.size w w' := by
  have HB := Lib.hid hb
  cases t with
  | true =>
    have HC := Lib.hid (sip_any K A l len cap (w.alloc (idC 50 K)) hk (hb.below ((Below.refl _ _).alloc (Nat.le_refl _) _) (Nat.le_refl _)) hL hmax)
    clear hb
    go_enter Tryz.func68, Tryz.ntmps68
    go_wp2_with (go_at_call 128; (with_reducible refine HC.out.mono ?_); rintro e w1 ⟨rfl, hb1⟩)
    go_ret
    exact ⟨rfl, ((Below.refl w.heap.size w).alloc (Nat.le_refl _) _).trans (hb1.mono (by simp))⟩
  | false =>
    have HC := Lib.hid (look_all A l len cap (w.alloc (idC 50 K)) (hb.below ((Below.refl _ _).alloc (Nat.le_refl _) _) (Nat.le_refl _)) hL hmax hcap hcap2)
    clear hb hcap2
    go_enter Tryz.func68, Tryz.ntmps68
    go_wp2_with (go_at_call 129; (with_reducible refine HC.out.mono ?_); rintro e w1 ⟨rfl, hb1⟩)
    go_ret
    exact ⟨rfl, ((Below.refl w.heap.size w).alloc (Nat.le_refl _) _).trans (hb1.mono (by simp))⟩

end Go.Proofs.YtldkmobncmfodaaGreat.Sg
