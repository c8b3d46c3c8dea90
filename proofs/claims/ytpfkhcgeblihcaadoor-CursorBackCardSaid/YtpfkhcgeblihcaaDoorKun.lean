/-
  A whole cursor read: the program's Parse.
-/
import Derived.Test.YtpfkhcgeblihcaaDoorKum
import Derived.Deep.CutRange
namespace Go.Proofs.YtpfkhcgeblihcaaDoor.Kun
open Go.ChangeShapes Go.WideShapes Go.ChangeAt Go.RowKit
open Bytes8 Blk8 Own8 Fa Kua Kub Kuc Kud Kue Kui Kuj Kuk Kul Kum
open Kug (z0)
open Seq8 (KeptB Blk.keptB)
set_option linter.unusedVariables false
set_option linter.unusedSimpArgs false
set_option maxRecDepth 100000

def setsL : List Value → Nat → List Value → List Value
  | l, _, [] => l
  | l, o, v :: r => setsL (l.set o v) (o + 1) r
theorem blk_sets {g : Nat} {T : TypeId} : ∀ (vs : List Value) (o : Nat) (l : List Value) (w : World), Blk w g l T → Blk (w.setCells g o vs) g (setsL l o vs) T
  | [], o, l, w, h => h
  | v :: r, o, l, w, h => blk_sets r (o + 1) (l.set o v) _ (h.set_ o v)
theorem cur_sets (b : Cur) (K : Nat → Int) : setsL b.cells 0 (idCells K) = ({ b with seq := K } : Cur).cells := rfl
theorem cur_sets17 (b : Cur) (K : Nat → Int) : setsL b.cells 17 (idCells K) = ({ b with boot := K } : Cur).cells := by kernel_rfl
theorem stored {w : World} {g : Nat} {T : TypeId} {b : Cur} (K : Nat → Int) (h : Blk w g b.cells T) : Blk (w.setCells g 0 (idCells K)) g ({ b with seq := K } : Cur).cells T := by
  exact Eq.mp (congrArg (fun l => Blk (w.setCells g 0 (idCells K)) g l T) (cur_sets b K)) (blk_sets (idCells K) 0 b.cells w h)
theorem stored17 {w : World} {g : Nat} {T : TypeId} {b : Cur} (K : Nat → Int) (h : Blk w g b.cells T) : Blk (w.setCells g 17 (idCells K)) g ({ b with boot := K } : Cur).cells T := by
  exact Eq.mp (congrArg (fun l => Blk (w.setCells g 17 (idCells K)) g l T) (cur_sets17 b K)) (blk_sets (idCells K) 17 b.cells w h)
theorem far_sets {g k : Nat} {T : TypeId} {l : List Value} (hk : k ≠ g) : ∀ (vs : List Value) (o : Nat) (w : World), Blk w k l T → Blk (w.setCells g o vs) k l T
  | [], o, w, h => h
  | v :: r, o, w, h => far_sets hk r (o + 1) _ (h.far (p := ⟨g, o, none⟩) hk v)
theorem below_sets {B g : Nat} (hg : B ≤ g) {a : World} : ∀ (vs : List Value) (o : Nat) (w : World), Below B a w → Below B a (w.setCells g o vs)
  | [], o, w, h => h
  | v :: r, o, w, h => below_sets hg r (o + 1) _ (h.setCell (p := (⟨g, o, none⟩ : Addr)) hg v)
theorem there_of {w : World} {g : Nat} {l : List Value} {T : TypeId} (h : Blk w g l T) (o n : Nat) (hn : o + n ≤ l.length) : w.there g o n := fun j hj => ⟨by rw [h.cell (i := o + j) (List.getElem?_eq_getElem (by omega))]; rfl, h.frozen _⟩
theorem kept_below {g k : Nat} {w w' : World} (h : KeptB w.heap.size k w w') (hk : k < w.heap.size) (hg : g ≤ k) : Below g w w' := (h.mono (Nat.le_of_lt (Nat.lt_of_le_of_lt hg hk))).below hg
theorem cur_info {c : Cur} : (Tryd.prog.info? 26).map (·.size) = some c.cells.length := by
  show (Tryd.prog.info? 26).map (·.size) = some 36
  kernel_rfl
theorem cur_one (c : Cur) : ∀ v ∈ c.cells, v.oneCell' = true := fun v hv => by
  have e : c.cells = idCells c.seq ++ [.int .u64 c.n] ++ idCells c.boot ++ [.int .u64 c.mono, .int .u64 c.real, .int .u64 c.xor] := rfl
  rw [e] at hv
  simp only [List.mem_append] at hv
  rcases hv with ((hv | hv) | hv) | hv
  · exact ids_one _ v hv
  · simp at hv; subst hv; rfl
  · exact ids_one _ v hv
  · simp at hv; rcases hv with rfl | rfl | rfl <;> rfl
theorem cur_whole {w : World} {g : Nat} {c : Cur} {ty : TypeId} (h : Blk w g c.cells ty) : w.rangeAt g 0 c.cells := fun j v hj => by rw [Nat.zero_add]; exact h.cell hj
/-- What Parse answers. -/
def parseV (s : List Int) : Cur := if okP s = true then curOf s else z0
theorem ok_chain (s : List Int) : okP s = (((((((((((((true && L1.isPrefixOf s) && idOk (pc L1 s)) && L2.isPrefixOf (s1 s)) && numOk (pc L2 (s1 s))) && L3.isPrefixOf (s2 s)) && idOk (pc L3 (s2 s))) && L4.isPrefixOf (s3 s)) && numOk (pc L4 (s3 s))) && L5.isPrefixOf (s4 s)) && numOk (pc L5 (s4 s))) && L6.isPrefixOf (s5 s)) && numOk (pc L6 (s5 s))) && decide (s6 s = [])) := by
  unfold okP stepOk
  simp only [Bool.true_and, Bool.and_assoc]
set_option maxHeartbeats 8000000 in
theorem parse_any (s : List Int) (hA : AllB s) (hl : s.length ≤ 1000000) (w : World) : Calls Tryd.prog 7 #[.string (T s)] w fun e w' => e = .returned (.tuple #[(parseV s).v, .bool (okP s)]) ∧ Below w.heap.size w w' := by
  have hOC := Lib.hid (ok_chain s)
  have HA0 := Lib.hid hA
  have HB0 := Lib.hid hl
  have B0 := Lib.hid (show Below w.heap.size w (((w.alloc (.cells #[.int .u8 0, .int .u8 0, .int .u8 0, .int .u8 0, .int .u8 0, .int .u8 0, .int .u8 0, .int .u8 0, .int .u8 0, .int .u8 0, .int .u8 0, .int .u8 0, .int .u8 0, .int .u8 0, .int .u8 0, .int .u8 0, .int .u64 0, .int .u8 0, .int .u8 0, .int .u8 0, .int .u8 0, .int .u8 0, .int .u8 0, .int .u8 0, .int .u8 0, .int .u8 0, .int .u8 0, .int .u8 0, .int .u8 0, .int .u8 0, .int .u8 0, .int .u8 0, .int .u8 0, .int .u64 0, .int .u64 0, .int .u64 0] 26)).alloc (.cells #[.string (T s), .bool true] 57)).alloc (.cells #[.int .u8 0, .int .u8 0, .int .u8 0, .int .u8 0, .int .u8 0, .int .u8 0, .int .u8 0, .int .u8 0, .int .u8 0, .int .u8 0, .int .u8 0, .int .u8 0, .int .u8 0, .int .u8 0, .int .u8 0, .int .u8 0, .int .u64 0, .int .u8 0, .int .u8 0, .int .u8 0, .int .u8 0, .int .u8 0, .int .u8 0, .int .u8 0, .int .u8 0, .int .u8 0, .int .u8 0, .int .u8 0, .int .u8 0, .int .u8 0, .int .u8 0, .int .u8 0, .int .u8 0, .int .u64 0, .int .u64 0, .int .u64 0] 26)) from (((Below.refl w.heap.size w).alloc (Nat.le_refl _) _).alloc (by simp) _).alloc (by simp <;> omega) _)
  have Z0 := Lib.hid (show Blk (((w.alloc (.cells #[.int .u8 0, .int .u8 0, .int .u8 0, .int .u8 0, .int .u8 0, .int .u8 0, .int .u8 0, .int .u8 0, .int .u8 0, .int .u8 0, .int .u8 0, .int .u8 0, .int .u8 0, .int .u8 0, .int .u8 0, .int .u8 0, .int .u64 0, .int .u8 0, .int .u8 0, .int .u8 0, .int .u8 0, .int .u8 0, .int .u8 0, .int .u8 0, .int .u8 0, .int .u8 0, .int .u8 0, .int .u8 0, .int .u8 0, .int .u8 0, .int .u8 0, .int .u8 0, .int .u8 0, .int .u64 0, .int .u64 0, .int .u64 0] 26)).alloc (.cells #[.string (T s), .bool true] 57)).alloc (.cells #[.int .u8 0, .int .u8 0, .int .u8 0, .int .u8 0, .int .u8 0, .int .u8 0, .int .u8 0, .int .u8 0, .int .u8 0, .int .u8 0, .int .u8 0, .int .u8 0, .int .u8 0, .int .u8 0, .int .u8 0, .int .u8 0, .int .u64 0, .int .u8 0, .int .u8 0, .int .u8 0, .int .u8 0, .int .u8 0, .int .u8 0, .int .u8 0, .int .u8 0, .int .u8 0, .int .u8 0, .int .u8 0, .int .u8 0, .int .u8 0, .int .u8 0, .int .u8 0, .int .u8 0, .int .u64 0, .int .u64 0, .int .u64 0] 26)) w.heap.size z0.cells 26 from ((Blk.new w z0.cells 26).alloc _).alloc _)
  have R0 := Lib.hid (show Rd (((w.alloc (.cells #[.int .u8 0, .int .u8 0, .int .u8 0, .int .u8 0, .int .u8 0, .int .u8 0, .int .u8 0, .int .u8 0, .int .u8 0, .int .u8 0, .int .u8 0, .int .u8 0, .int .u8 0, .int .u8 0, .int .u8 0, .int .u8 0, .int .u64 0, .int .u8 0, .int .u8 0, .int .u8 0, .int .u8 0, .int .u8 0, .int .u8 0, .int .u8 0, .int .u8 0, .int .u8 0, .int .u8 0, .int .u8 0, .int .u8 0, .int .u8 0, .int .u8 0, .int .u8 0, .int .u8 0, .int .u64 0, .int .u64 0, .int .u64 0] 26)).alloc (.cells #[.string (T s), .bool true] 57)).alloc (.cells #[.int .u8 0, .int .u8 0, .int .u8 0, .int .u8 0, .int .u8 0, .int .u8 0, .int .u8 0, .int .u8 0, .int .u8 0, .int .u8 0, .int .u8 0, .int .u8 0, .int .u8 0, .int .u8 0, .int .u8 0, .int .u8 0, .int .u64 0, .int .u8 0, .int .u8 0, .int .u8 0, .int .u8 0, .int .u8 0, .int .u8 0, .int .u8 0, .int .u8 0, .int .u8 0, .int .u8 0, .int .u8 0, .int .u8 0, .int .u8 0, .int .u8 0, .int .u8 0, .int .u8 0, .int .u64 0, .int .u64 0, .int .u64 0] 26)) (w.heap.size + 1) s true from (Blk.new_at (w.alloc (.cells #[.int .u8 0, .int .u8 0, .int .u8 0, .int .u8 0, .int .u8 0, .int .u8 0, .int .u8 0, .int .u8 0, .int .u8 0, .int .u8 0, .int .u8 0, .int .u8 0, .int .u8 0, .int .u8 0, .int .u8 0, .int .u8 0, .int .u64 0, .int .u8 0, .int .u8 0, .int .u8 0, .int .u8 0, .int .u8 0, .int .u8 0, .int .u8 0, .int .u8 0, .int .u8 0, .int .u8 0, .int .u8 0, .int .u8 0, .int .u8 0, .int .u8 0, .int .u8 0, .int .u8 0, .int .u64 0, .int .u64 0, .int .u64 0] 26)) [.string (T s), .bool true] 57 (w.heap.size + 1) (by simp)).alloc _)
  have C0 := Lib.hid (show Blk (((w.alloc (.cells #[.int .u8 0, .int .u8 0, .int .u8 0, .int .u8 0, .int .u8 0, .int .u8 0, .int .u8 0, .int .u8 0, .int .u8 0, .int .u8 0, .int .u8 0, .int .u8 0, .int .u8 0, .int .u8 0, .int .u8 0, .int .u8 0, .int .u64 0, .int .u8 0, .int .u8 0, .int .u8 0, .int .u8 0, .int .u8 0, .int .u8 0, .int .u8 0, .int .u8 0, .int .u8 0, .int .u8 0, .int .u8 0, .int .u8 0, .int .u8 0, .int .u8 0, .int .u8 0, .int .u8 0, .int .u64 0, .int .u64 0, .int .u64 0] 26)).alloc (.cells #[.string (T s), .bool true] 57)).alloc (.cells #[.int .u8 0, .int .u8 0, .int .u8 0, .int .u8 0, .int .u8 0, .int .u8 0, .int .u8 0, .int .u8 0, .int .u8 0, .int .u8 0, .int .u8 0, .int .u8 0, .int .u8 0, .int .u8 0, .int .u8 0, .int .u8 0, .int .u64 0, .int .u8 0, .int .u8 0, .int .u8 0, .int .u8 0, .int .u8 0, .int .u8 0, .int .u8 0, .int .u8 0, .int .u8 0, .int .u8 0, .int .u8 0, .int .u8 0, .int .u8 0, .int .u8 0, .int .u8 0, .int .u8 0, .int .u64 0, .int .u64 0, .int .u64 0] 26)) (w.heap.size + 1 + 1) z0.cells 26 from Blk.new_at _ z0.cells 26 (w.heap.size + 1 + 1) (by simp))
  clear hA hl
  go_enter Tryd.func7, Tryd.ntmps7
  go_upto_region 3 with fail
  generalize ((w.alloc (.cells #[.int .u8 0, .int .u8 0, .int .u8 0, .int .u8 0, .int .u8 0, .int .u8 0, .int .u8 0, .int .u8 0, .int .u8 0, .int .u8 0, .int .u8 0, .int .u8 0, .int .u8 0, .int .u8 0, .int .u8 0, .int .u8 0, .int .u64 0, .int .u8 0, .int .u8 0, .int .u8 0, .int .u8 0, .int .u8 0, .int .u8 0, .int .u8 0, .int .u8 0, .int .u8 0, .int .u8 0, .int .u8 0, .int .u8 0, .int .u8 0, .int .u8 0, .int .u8 0, .int .u8 0, .int .u64 0, .int .u64 0, .int .u64 0] 26)).alloc (.cells #[.string (T s), .bool true] 57)).alloc (.cells #[.int .u8 0, .int .u8 0, .int .u8 0, .int .u8 0, .int .u8 0, .int .u8 0, .int .u8 0, .int .u8 0, .int .u8 0, .int .u8 0, .int .u8 0, .int .u8 0, .int .u8 0, .int .u8 0, .int .u8 0, .int .u8 0, .int .u64 0, .int .u8 0, .int .u8 0, .int .u8 0, .int .u8 0, .int .u8 0, .int .u8 0, .int .u8 0, .int .u8 0, .int .u8 0, .int .u8 0, .int .u8 0, .int .u8 0, .int .u8 0, .int .u8 0, .int .u8 0, .int .u8 0, .int .u64 0, .int .u64 0, .int .u64 0] 26) = w1 at *
  generalize hg : w.heap.size = g at *
  have HG := Lib.hid hg
  clear hg
  have H1 := Lib.hid (show Calls Tryd.prog 25 #[.pointer (some ⟨g + 1, 0, none⟩), .string { data := #[115, 61] }] w1 fun e w' => e = .returned (idV (idOf (pc L1 s))) ∧ Rd w' (g + 1) (s1 s) ((true && L1.isPrefixOf s) && idOk (pc L1 s)) ∧ KeptB w1.heap.size (g + 1) w1 w' from by
    rw [lits.1]
    exact rid_any L1 s _ (g + 1) w1 HA0.out (by unfold L1; intro x hx; simp at hx; omega) HB0.out R0.out)
  generalize hK1 : idOf (pc L1 s) = K1 at H1
  generalize hb1 : ((true && L1.isPrefixOf s) && idOk (pc L1 s)) = b1 at H1
  have EK1 := Lib.hid hK1
  have Eb1 := Lib.hid hb1
  clear hK1 hb1
  have FZ0 := Lib.hid fun (W : World) (hk : KeptB w1.heap.size (g + 1) w1 W) => (show Blk W g z0.cells 26 from Seq8.Blk.keptB Z0.out hk Z0.out.lt (show g ≠ g + 1 by omega))
  have FC0 := Lib.hid fun (W : World) (hk : KeptB w1.heap.size (g + 1) w1 W) => (show Blk W (g + 1 + 1) z0.cells 26 from Seq8.Blk.keptB C0.out hk C0.out.lt (show g + 1 + 1 ≠ g + 1 by omega))
  have FB0 := Lib.hid fun (W : World) (hk : KeptB w1.heap.size (g + 1) w1 W) => (show Below g w W from B0.out.trans (kept_below hk R0.out.lt (show g ≤ g + 1 by omega)))
  have FF0 := Lib.hid fun (W : World) (hk : KeptB w1.heap.size (g + 1) w1 W) => (FC0.out W hk).frozen 0
  have FK0 := Lib.hid fun (W : World) (hk : KeptB w1.heap.size (g + 1) w1 W) => (show W.cell? ⟨g + 1 + 1, 0, none⟩ = some (.int .u8 (zK 0)) from (FC0.out W hk).cell rfl)
  go_upto_region 4 with (first | (go_at_call 25; (with_reducible refine H1.out.mono ?_); rintro e w2 ⟨rfl, hr, hk⟩; have R0c := Lib.hid hr; have Z0c := Lib.hid (FZ0.out _ hk); have C0c := Lib.hid (FC0.out _ hk); have B0c := Lib.hid (FB0.out _ hk); have fz0 := FF0.out _ hk; have cz0 := FK0.out _ hk; clear hr hk) | ((with_reducible apply at_store (.tmp 9) (.tmp 8)); refine wpList_store_mid rfl 23 (.tmp 9) (.tmp 8) rfl (g + 1 + 1) 0 (idCells K1).toArray rfl rfl (there_of C0c.out 0 16 (show 0 + 16 ≤ 36 by decide)) id_info (all_oneCell_toArray (ids_one _)) ?_) | fail)
  have C1 := Lib.hid (show Blk (w2.setCells (g + 1 + 1) 0 (idCells K1)) (g + 1 + 1) (⟨K1, 0, zK, 0, 0, 0⟩ : Cur).cells 26 from stored K1 C0c.out)
  have Z1 := Lib.hid (show Blk (w2.setCells (g + 1 + 1) 0 (idCells K1)) g z0.cells 26 from far_sets (show g ≠ g + 1 + 1 by omega) _ _ _ Z0c.out)
  have R1 := Lib.hid (show Rd (w2.setCells (g + 1 + 1) 0 (idCells K1)) (g + 1) (s1 s) b1 from far_sets (show g + 1 ≠ g + 1 + 1 by omega) _ _ _ R0c.out)
  have B1 := Lib.hid (show Below g w (w2.setCells (g + 1 + 1) 0 (idCells K1)) from below_sets (show g ≤ g + 1 + 1 by omega) _ _ _ B0c.out)
  generalize w2.setCells (g + 1 + 1) 0 (idCells K1) = w3 at *
  clear FZ0 FC0 FB0 FF0 FK0 H1 R0 C0 Z0 B0 R0c C0c Z0c B0c fz0 cz0
  have HA1 := Lib.hid (nx_all (lab := L1) HA0.out)
  have HB1 := Lib.hid (Nat.le_trans (nx_len (lab := L1) (l := s)) HB0.out)
  have H2 := Lib.hid (show Calls Tryd.prog 26 #[.pointer (some ⟨g + 1, 0, none⟩), .string { data := #[59, 105, 61] }] w3 fun e w' => e = .returned (.int .u64 (((Kub.numOf (pc L2 (s1 s)) : Nat) : Int))) ∧ Rd w' (g + 1) (s2 s) ((b1 && L2.isPrefixOf (s1 s)) && numOk (pc L2 (s1 s))) ∧ KeptB w3.heap.size (g + 1) w3 w' from by
    rw [lits.2.1]
    exact rnum_any L2 (s1 s) _ (g + 1) w3 HA1.out (by unfold L2; intro x hx; simp at hx; omega) HB1.out R1.out)
  generalize hN2 : ((Kub.numOf (pc L2 (s1 s)) : Nat) : Int) = N2 at H2
  generalize hb2 : ((b1 && L2.isPrefixOf (s1 s)) && numOk (pc L2 (s1 s))) = b2 at H2
  have EN2 := Lib.hid hN2
  have Eb2 := Lib.hid hb2
  clear hN2 hb2
  have FZ1 := Lib.hid fun (W : World) (hk : KeptB w3.heap.size (g + 1) w3 W) => (show Blk W g z0.cells 26 from Seq8.Blk.keptB Z1.out hk Z1.out.lt (show g ≠ g + 1 by omega))
  have FC1 := Lib.hid fun (W : World) (hk : KeptB w3.heap.size (g + 1) w3 W) => (show Blk W (g + 1 + 1) (⟨K1, 0, zK, 0, 0, 0⟩ : Cur).cells 26 from Seq8.Blk.keptB C1.out hk C1.out.lt (show g + 1 + 1 ≠ g + 1 by omega))
  have FB1 := Lib.hid fun (W : World) (hk : KeptB w3.heap.size (g + 1) w3 W) => (show Below g w W from B1.out.trans (kept_below hk R1.out.lt (show g ≤ g + 1 by omega)))
  have FF1 := Lib.hid fun (W : World) (hk : KeptB w3.heap.size (g + 1) w3 W) => (FC1.out W hk).frozen 16
  have FK1 := Lib.hid fun (W : World) (hk : KeptB w3.heap.size (g + 1) w3 W) => (show W.cell? ⟨g + 1 + 1, 16, none⟩ = some (.int .u64 0) from (FC1.out W hk).cell rfl)
  go_upto_region 5 with (first | (go_at_call 26; (with_reducible refine H2.out.mono ?_); rintro e w4 ⟨rfl, hr, hk⟩; have R1c := Lib.hid hr; have Z1c := Lib.hid (FZ1.out _ hk); have C1c := Lib.hid (FC1.out _ hk); have B1c := Lib.hid (FB1.out _ hk); have fz1 := FF1.out _ hk; have cz1 := FK1.out _ hk; clear hr hk) | fail)
  have C2 := Lib.hid (show Blk (w4.setCell ⟨g + 1 + 1, 16, none⟩ (.int .u64 N2)) (g + 1 + 1) (⟨K1, N2, zK, 0, 0, 0⟩ : Cur).cells 26 from C1c.out.set_ 16 (.int .u64 N2))
  have Z2 := Lib.hid (show Blk (w4.setCell ⟨g + 1 + 1, 16, none⟩ (.int .u64 N2)) g z0.cells 26 from Z1c.out.far (p := ⟨g + 1 + 1, 16, none⟩) (show g ≠ g + 1 + 1 by omega) _)
  have R2 := Lib.hid (show Rd (w4.setCell ⟨g + 1 + 1, 16, none⟩ (.int .u64 N2)) (g + 1) (s2 s) b2 from R1c.out.far (p := ⟨g + 1 + 1, 16, none⟩) (show g + 1 ≠ g + 1 + 1 by omega) _)
  have B2 := Lib.hid (show Below g w (w4.setCell ⟨g + 1 + 1, 16, none⟩ (.int .u64 N2)) from B1c.out.setCell (p := (⟨g + 1 + 1, 16, none⟩ : Addr)) (by show g ≤ g + 1 + 1; omega) _)
  generalize w4.setCell ⟨g + 1 + 1, 16, none⟩ (.int .u64 N2) = w5 at *
  clear FZ1 FC1 FB1 FF1 FK1 H2 R1 C1 Z1 B1 R1c C1c Z1c B1c fz1 cz1
  have HA2 := Lib.hid (nx_all (lab := L2) HA1.out)
  have HB2 := Lib.hid (Nat.le_trans (nx_len (lab := L2) (l := (s1 s))) HB1.out)
  have H3 := Lib.hid (show Calls Tryd.prog 25 #[.pointer (some ⟨g + 1, 0, none⟩), .string { data := #[59, 98, 61] }] w5 fun e w' => e = .returned (idV (idOf (pc L3 (s2 s)))) ∧ Rd w' (g + 1) (s3 s) ((b2 && L3.isPrefixOf (s2 s)) && idOk (pc L3 (s2 s))) ∧ KeptB w5.heap.size (g + 1) w5 w' from by
    rw [lits.2.2.1]
    exact rid_any L3 (s2 s) _ (g + 1) w5 HA2.out (by unfold L3; intro x hx; simp at hx; omega) HB2.out R2.out)
  generalize hK3 : idOf (pc L3 (s2 s)) = K3 at H3
  generalize hb3 : ((b2 && L3.isPrefixOf (s2 s)) && idOk (pc L3 (s2 s))) = b3 at H3
  have EK3 := Lib.hid hK3
  have Eb3 := Lib.hid hb3
  clear hK3 hb3
  have FZ2 := Lib.hid fun (W : World) (hk : KeptB w5.heap.size (g + 1) w5 W) => (show Blk W g z0.cells 26 from Seq8.Blk.keptB Z2.out hk Z2.out.lt (show g ≠ g + 1 by omega))
  have FC2 := Lib.hid fun (W : World) (hk : KeptB w5.heap.size (g + 1) w5 W) => (show Blk W (g + 1 + 1) (⟨K1, N2, zK, 0, 0, 0⟩ : Cur).cells 26 from Seq8.Blk.keptB C2.out hk C2.out.lt (show g + 1 + 1 ≠ g + 1 by omega))
  have FB2 := Lib.hid fun (W : World) (hk : KeptB w5.heap.size (g + 1) w5 W) => (show Below g w W from B2.out.trans (kept_below hk R2.out.lt (show g ≤ g + 1 by omega)))
  have FF2 := Lib.hid fun (W : World) (hk : KeptB w5.heap.size (g + 1) w5 W) => (FC2.out W hk).frozen 17
  have FK2 := Lib.hid fun (W : World) (hk : KeptB w5.heap.size (g + 1) w5 W) => (show W.cell? ⟨g + 1 + 1, 17, none⟩ = some (.int .u8 (zK 0)) from (FC2.out W hk).cell rfl)
  go_upto_region 6 with (first | (go_at_call 25; (with_reducible refine H3.out.mono ?_); rintro e w6 ⟨rfl, hr, hk⟩; have R2c := Lib.hid hr; have Z2c := Lib.hid (FZ2.out _ hk); have C2c := Lib.hid (FC2.out _ hk); have B2c := Lib.hid (FB2.out _ hk); have fz2 := FF2.out _ hk; have cz2 := FK2.out _ hk; clear hr hk) | ((with_reducible apply at_store (.tmp 13) (.tmp 12)); refine wpList_store_mid rfl 23 (.tmp 13) (.tmp 12) rfl (g + 1 + 1) 17 (idCells K3).toArray rfl rfl (there_of C2c.out 17 16 (show 17 + 16 ≤ 36 by decide)) id_info (all_oneCell_toArray (ids_one _)) ?_) | fail)
  have C3 := Lib.hid (show Blk (w6.setCells (g + 1 + 1) 17 (idCells K3)) (g + 1 + 1) (⟨K1, N2, K3, 0, 0, 0⟩ : Cur).cells 26 from stored17 K3 C2c.out)
  have Z3 := Lib.hid (show Blk (w6.setCells (g + 1 + 1) 17 (idCells K3)) g z0.cells 26 from far_sets (show g ≠ g + 1 + 1 by omega) _ _ _ Z2c.out)
  have R3 := Lib.hid (show Rd (w6.setCells (g + 1 + 1) 17 (idCells K3)) (g + 1) (s3 s) b3 from far_sets (show g + 1 ≠ g + 1 + 1 by omega) _ _ _ R2c.out)
  have B3 := Lib.hid (show Below g w (w6.setCells (g + 1 + 1) 17 (idCells K3)) from below_sets (show g ≤ g + 1 + 1 by omega) _ _ _ B2c.out)
  generalize w6.setCells (g + 1 + 1) 17 (idCells K3) = w7 at *
  clear FZ2 FC2 FB2 FF2 FK2 H3 R2 C2 Z2 B2 R2c C2c Z2c B2c fz2 cz2
  have HA3 := Lib.hid (nx_all (lab := L3) HA2.out)
  have HB3 := Lib.hid (Nat.le_trans (nx_len (lab := L3) (l := (s2 s))) HB2.out)
  have H4 := Lib.hid (show Calls Tryd.prog 26 #[.pointer (some ⟨g + 1, 0, none⟩), .string { data := #[59, 109, 61] }] w7 fun e w' => e = .returned (.int .u64 (((Kub.numOf (pc L4 (s3 s)) : Nat) : Int))) ∧ Rd w' (g + 1) (s4 s) ((b3 && L4.isPrefixOf (s3 s)) && numOk (pc L4 (s3 s))) ∧ KeptB w7.heap.size (g + 1) w7 w' from by
    rw [lits.2.2.2.1]
    exact rnum_any L4 (s3 s) _ (g + 1) w7 HA3.out (by unfold L4; intro x hx; simp at hx; omega) HB3.out R3.out)
  generalize hN4 : ((Kub.numOf (pc L4 (s3 s)) : Nat) : Int) = N4 at H4
  generalize hb4 : ((b3 && L4.isPrefixOf (s3 s)) && numOk (pc L4 (s3 s))) = b4 at H4
  have EN4 := Lib.hid hN4
  have Eb4 := Lib.hid hb4
  clear hN4 hb4
  have FZ3 := Lib.hid fun (W : World) (hk : KeptB w7.heap.size (g + 1) w7 W) => (show Blk W g z0.cells 26 from Seq8.Blk.keptB Z3.out hk Z3.out.lt (show g ≠ g + 1 by omega))
  have FC3 := Lib.hid fun (W : World) (hk : KeptB w7.heap.size (g + 1) w7 W) => (show Blk W (g + 1 + 1) (⟨K1, N2, K3, 0, 0, 0⟩ : Cur).cells 26 from Seq8.Blk.keptB C3.out hk C3.out.lt (show g + 1 + 1 ≠ g + 1 by omega))
  have FB3 := Lib.hid fun (W : World) (hk : KeptB w7.heap.size (g + 1) w7 W) => (show Below g w W from B3.out.trans (kept_below hk R3.out.lt (show g ≤ g + 1 by omega)))
  have FF3 := Lib.hid fun (W : World) (hk : KeptB w7.heap.size (g + 1) w7 W) => (FC3.out W hk).frozen 33
  have FK3 := Lib.hid fun (W : World) (hk : KeptB w7.heap.size (g + 1) w7 W) => (show W.cell? ⟨g + 1 + 1, 33, none⟩ = some (.int .u64 0) from (FC3.out W hk).cell rfl)
  go_upto_region 7 with (first | (go_at_call 26; (with_reducible refine H4.out.mono ?_); rintro e w8 ⟨rfl, hr, hk⟩; have R3c := Lib.hid hr; have Z3c := Lib.hid (FZ3.out _ hk); have C3c := Lib.hid (FC3.out _ hk); have B3c := Lib.hid (FB3.out _ hk); have fz3 := FF3.out _ hk; have cz3 := FK3.out _ hk; clear hr hk) | fail)
  have C4 := Lib.hid (show Blk (w8.setCell ⟨g + 1 + 1, 33, none⟩ (.int .u64 N4)) (g + 1 + 1) (⟨K1, N2, K3, N4, 0, 0⟩ : Cur).cells 26 from C3c.out.set_ 33 (.int .u64 N4))
  have Z4 := Lib.hid (show Blk (w8.setCell ⟨g + 1 + 1, 33, none⟩ (.int .u64 N4)) g z0.cells 26 from Z3c.out.far (p := ⟨g + 1 + 1, 33, none⟩) (show g ≠ g + 1 + 1 by omega) _)
  have R4 := Lib.hid (show Rd (w8.setCell ⟨g + 1 + 1, 33, none⟩ (.int .u64 N4)) (g + 1) (s4 s) b4 from R3c.out.far (p := ⟨g + 1 + 1, 33, none⟩) (show g + 1 ≠ g + 1 + 1 by omega) _)
  have B4 := Lib.hid (show Below g w (w8.setCell ⟨g + 1 + 1, 33, none⟩ (.int .u64 N4)) from B3c.out.setCell (p := (⟨g + 1 + 1, 33, none⟩ : Addr)) (by show g ≤ g + 1 + 1; omega) _)
  generalize w8.setCell ⟨g + 1 + 1, 33, none⟩ (.int .u64 N4) = w9 at *
  clear FZ3 FC3 FB3 FF3 FK3 H4 R3 C3 Z3 B3 R3c C3c Z3c B3c fz3 cz3
  have HA4 := Lib.hid (nx_all (lab := L4) HA3.out)
  have HB4 := Lib.hid (Nat.le_trans (nx_len (lab := L4) (l := (s3 s))) HB3.out)
  have H5 := Lib.hid (show Calls Tryd.prog 26 #[.pointer (some ⟨g + 1, 0, none⟩), .string { data := #[59, 116, 61] }] w9 fun e w' => e = .returned (.int .u64 (((Kub.numOf (pc L5 (s4 s)) : Nat) : Int))) ∧ Rd w' (g + 1) (s5 s) ((b4 && L5.isPrefixOf (s4 s)) && numOk (pc L5 (s4 s))) ∧ KeptB w9.heap.size (g + 1) w9 w' from by
    rw [lits.2.2.2.2.1]
    exact rnum_any L5 (s4 s) _ (g + 1) w9 HA4.out (by unfold L5; intro x hx; simp at hx; omega) HB4.out R4.out)
  generalize hN5 : ((Kub.numOf (pc L5 (s4 s)) : Nat) : Int) = N5 at H5
  generalize hb5 : ((b4 && L5.isPrefixOf (s4 s)) && numOk (pc L5 (s4 s))) = b5 at H5
  have EN5 := Lib.hid hN5
  have Eb5 := Lib.hid hb5
  clear hN5 hb5
  have FZ4 := Lib.hid fun (W : World) (hk : KeptB w9.heap.size (g + 1) w9 W) => (show Blk W g z0.cells 26 from Seq8.Blk.keptB Z4.out hk Z4.out.lt (show g ≠ g + 1 by omega))
  have FC4 := Lib.hid fun (W : World) (hk : KeptB w9.heap.size (g + 1) w9 W) => (show Blk W (g + 1 + 1) (⟨K1, N2, K3, N4, 0, 0⟩ : Cur).cells 26 from Seq8.Blk.keptB C4.out hk C4.out.lt (show g + 1 + 1 ≠ g + 1 by omega))
  have FB4 := Lib.hid fun (W : World) (hk : KeptB w9.heap.size (g + 1) w9 W) => (show Below g w W from B4.out.trans (kept_below hk R4.out.lt (show g ≤ g + 1 by omega)))
  have FF4 := Lib.hid fun (W : World) (hk : KeptB w9.heap.size (g + 1) w9 W) => (FC4.out W hk).frozen 34
  have FK4 := Lib.hid fun (W : World) (hk : KeptB w9.heap.size (g + 1) w9 W) => (show W.cell? ⟨g + 1 + 1, 34, none⟩ = some (.int .u64 0) from (FC4.out W hk).cell rfl)
  go_upto_region 8 with (first | (go_at_call 26; (with_reducible refine H5.out.mono ?_); rintro e w10 ⟨rfl, hr, hk⟩; have R4c := Lib.hid hr; have Z4c := Lib.hid (FZ4.out _ hk); have C4c := Lib.hid (FC4.out _ hk); have B4c := Lib.hid (FB4.out _ hk); have fz4 := FF4.out _ hk; have cz4 := FK4.out _ hk; clear hr hk) | fail)
  have C5 := Lib.hid (show Blk (w10.setCell ⟨g + 1 + 1, 34, none⟩ (.int .u64 N5)) (g + 1 + 1) (⟨K1, N2, K3, N4, N5, 0⟩ : Cur).cells 26 from C4c.out.set_ 34 (.int .u64 N5))
  have Z5 := Lib.hid (show Blk (w10.setCell ⟨g + 1 + 1, 34, none⟩ (.int .u64 N5)) g z0.cells 26 from Z4c.out.far (p := ⟨g + 1 + 1, 34, none⟩) (show g ≠ g + 1 + 1 by omega) _)
  have R5 := Lib.hid (show Rd (w10.setCell ⟨g + 1 + 1, 34, none⟩ (.int .u64 N5)) (g + 1) (s5 s) b5 from R4c.out.far (p := ⟨g + 1 + 1, 34, none⟩) (show g + 1 ≠ g + 1 + 1 by omega) _)
  have B5 := Lib.hid (show Below g w (w10.setCell ⟨g + 1 + 1, 34, none⟩ (.int .u64 N5)) from B4c.out.setCell (p := (⟨g + 1 + 1, 34, none⟩ : Addr)) (by show g ≤ g + 1 + 1; omega) _)
  generalize w10.setCell ⟨g + 1 + 1, 34, none⟩ (.int .u64 N5) = w11 at *
  clear FZ4 FC4 FB4 FF4 FK4 H5 R4 C4 Z4 B4 R4c C4c Z4c B4c fz4 cz4
  have HA5 := Lib.hid (nx_all (lab := L5) HA4.out)
  have HB5 := Lib.hid (Nat.le_trans (nx_len (lab := L5) (l := (s4 s))) HB4.out)
  have H6 := Lib.hid (show Calls Tryd.prog 26 #[.pointer (some ⟨g + 1, 0, none⟩), .string { data := #[59, 120, 61] }] w11 fun e w' => e = .returned (.int .u64 (((Kub.numOf (pc L6 (s5 s)) : Nat) : Int))) ∧ Rd w' (g + 1) (s6 s) ((b5 && L6.isPrefixOf (s5 s)) && numOk (pc L6 (s5 s))) ∧ KeptB w11.heap.size (g + 1) w11 w' from by
    rw [lits.2.2.2.2.2]
    exact rnum_any L6 (s5 s) _ (g + 1) w11 HA5.out (by unfold L6; intro x hx; simp at hx; omega) HB5.out R5.out)
  generalize hN6 : ((Kub.numOf (pc L6 (s5 s)) : Nat) : Int) = N6 at H6
  generalize hb6 : ((b5 && L6.isPrefixOf (s5 s)) && numOk (pc L6 (s5 s))) = b6 at H6
  have EN6 := Lib.hid hN6
  have Eb6 := Lib.hid hb6
  clear hN6 hb6
  have FZ5 := Lib.hid fun (W : World) (hk : KeptB w11.heap.size (g + 1) w11 W) => (show Blk W g z0.cells 26 from Seq8.Blk.keptB Z5.out hk Z5.out.lt (show g ≠ g + 1 by omega))
  have FC5 := Lib.hid fun (W : World) (hk : KeptB w11.heap.size (g + 1) w11 W) => (show Blk W (g + 1 + 1) (⟨K1, N2, K3, N4, N5, 0⟩ : Cur).cells 26 from Seq8.Blk.keptB C5.out hk C5.out.lt (show g + 1 + 1 ≠ g + 1 by omega))
  have FB5 := Lib.hid fun (W : World) (hk : KeptB w11.heap.size (g + 1) w11 W) => (show Below g w W from B5.out.trans (kept_below hk R5.out.lt (show g ≤ g + 1 by omega)))
  have FF5 := Lib.hid fun (W : World) (hk : KeptB w11.heap.size (g + 1) w11 W) => (FC5.out W hk).frozen 35
  have FK5 := Lib.hid fun (W : World) (hk : KeptB w11.heap.size (g + 1) w11 W) => (show W.cell? ⟨g + 1 + 1, 35, none⟩ = some (.int .u64 0) from (FC5.out W hk).cell rfl)
  go_upto_region 9 with (first | (go_at_call 26; (with_reducible refine H6.out.mono ?_); rintro e w12 ⟨rfl, hr, hk⟩; have R5c := Lib.hid hr; have Z5c := Lib.hid (FZ5.out _ hk); have C5c := Lib.hid (FC5.out _ hk); have B5c := Lib.hid (FB5.out _ hk); have fz5 := FF5.out _ hk; have cz5 := FK5.out _ hk; clear hr hk) | fail)
  have C6 := Lib.hid (show Blk (w12.setCell ⟨g + 1 + 1, 35, none⟩ (.int .u64 N6)) (g + 1 + 1) (⟨K1, N2, K3, N4, N5, N6⟩ : Cur).cells 26 from C5c.out.set_ 35 (.int .u64 N6))
  have Z6 := Lib.hid (show Blk (w12.setCell ⟨g + 1 + 1, 35, none⟩ (.int .u64 N6)) g z0.cells 26 from Z5c.out.far (p := ⟨g + 1 + 1, 35, none⟩) (show g ≠ g + 1 + 1 by omega) _)
  have R6 := Lib.hid (show Rd (w12.setCell ⟨g + 1 + 1, 35, none⟩ (.int .u64 N6)) (g + 1) (s6 s) b6 from R5c.out.far (p := ⟨g + 1 + 1, 35, none⟩) (show g + 1 ≠ g + 1 + 1 by omega) _)
  have B6 := Lib.hid (show Below g w (w12.setCell ⟨g + 1 + 1, 35, none⟩ (.int .u64 N6)) from B5c.out.setCell (p := (⟨g + 1 + 1, 35, none⟩ : Addr)) (by show g ≤ g + 1 + 1; omega) _)
  generalize w12.setCell ⟨g + 1 + 1, 35, none⟩ (.int .u64 N6) = w13 at *
  clear FZ5 FC5 FB5 FF5 FK5 H6 R5 C5 Z5 B5 R5c C5c Z5c B5c fz5 cz5
  have HA6 := Lib.hid (nx_all (lab := L6) HA5.out)
  have HB6 := Lib.hid (Nat.le_trans (nx_len (lab := L6) (l := (s5 s))) HB5.out)
  have hemp := T_empty (l := s6 s)
  have hk0 := R6.out.cell (i := 0) rfl
  have hk1 := R6.out.cell (i := 1) rfl
  have HV := Lib.hid (show okP s = (b6 && decide (s6 s = [])) from by rw [hOC.out, Eb1.out, Eb2.out, Eb3.out, Eb4.out, Eb5.out, Eb6.out])
  have HC := Lib.hid (show curOf s = (⟨K1, N2, K3, N4, N5, N6⟩ : Cur) from by unfold curOf; rw [EK1.out, EN2.out, EK3.out, EN4.out, EN5.out, EN6.out])
  have zero : ∀ W, (zeroValue 26).run Tryd.prog W = .ok (.agg z0.cells.toArray) W := fun W => by kernel_rfl
  by_cases hs6 : s6 s = []
  · rw [decide_eq_true (by rw [hs6]; rfl)] at hemp
    rw [decide_eq_true hs6, Bool.and_true] at HV
    clear hs6
    generalize T (s6 s) = S6 at *
    cases b6
    · have HF := Lib.hid (show parseV s = z0 from by unfold parseV; rw [HV.out]; rfl)
      go_wp2_with (first
        | ((with_reducible apply at_store (.tmp 2) (.tmp 28)); refine wpList_store_row rfl 26 (.tmp 2) (.tmp 28) rfl g z0.cells.toArray rfl rfl 26 z0.cells.toArray Z6.out cur_info rfl (all_oneCell_toArray (cur_one _)) ?_)
        | fail)
      refine bodyPost_ret (v := .tuple #[z0.v, .bool false]) (by exact res_id Tryd.results7 _ _ g 26 _ (0, 0) _ _ rfl rfl (row_set Z6.out z0.cells) Tryd.underlying26 rfl cur_info) rfl ?_
      exact ⟨by rw [HV.out, HF.out], HG.out ▸ below_setRow B6.out (Nat.le_refl _) _⟩
    · have HF := Lib.hid (show parseV s = (⟨K1, N2, K3, N4, N5, N6⟩ : Cur) from by unfold parseV; rw [HV.out, ← HC.out]; rfl)
      go_wp2_with (first
        | ((with_reducible apply at_slot 29); refine wpList_load_mid rfl 26 (.tmp 5) rfl (g + 1 + 1) 0 rfl (⟨K1, N2, K3, N4, N5, N6⟩ : Cur).cells _ (cur_whole C6.out) Tryd.underlying26 rfl cur_info ?_)
        | ((with_reducible apply at_store (.tmp 2) (.tmp 29)); refine wpList_store_row rfl 26 (.tmp 2) (.tmp 29) rfl g (⟨K1, N2, K3, N4, N5, N6⟩ : Cur).cells.toArray rfl rfl 26 z0.cells.toArray Z6.out cur_info rfl (all_oneCell_toArray (cur_one _)) ?_)
        | fail)
      refine bodyPost_ret (v := .tuple #[(⟨K1, N2, K3, N4, N5, N6⟩ : Cur).v, .bool true]) (by exact res_id Tryd.results7 _ _ g 26 _ (0, 0) _ _ rfl rfl (row_set Z6.out (⟨K1, N2, K3, N4, N5, N6⟩ : Cur).cells) Tryd.underlying26 rfl cur_info) rfl ?_
      exact ⟨by rw [HV.out, HF.out], HG.out ▸ below_setRow B6.out (Nat.le_refl _) _⟩
  · rw [decide_eq_false (fun h => hs6 (List.length_eq_zero_iff.1 h))] at hemp
    rw [decide_eq_false hs6, Bool.and_false] at HV
    have HF := Lib.hid (show parseV s = z0 from by unfold parseV; rw [HV.out]; rfl)
    clear hs6
    generalize T (s6 s) = S6 at *
    cases b6
    all_goals
      go_wp2_with (first
        | ((with_reducible apply at_store (.tmp 2) (.tmp 28)); refine wpList_store_row rfl 26 (.tmp 2) (.tmp 28) rfl g z0.cells.toArray rfl rfl 26 z0.cells.toArray Z6.out cur_info rfl (all_oneCell_toArray (cur_one _)) ?_)
        | fail)
      refine bodyPost_ret (v := .tuple #[z0.v, .bool false]) (by exact res_id Tryd.results7 _ _ g 26 _ (0, 0) _ _ rfl rfl (row_set Z6.out z0.cells) Tryd.underlying26 rfl cur_info) rfl ?_
      exact ⟨by rw [HV.out, HF.out], HG.out ▸ below_setRow B6.out (Nat.le_refl _) _⟩
end Go.Proofs.YtpfkhcgeblihcaaDoor.Kun
