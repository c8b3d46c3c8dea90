/-
  Texts beneath the proof, one behind the other.
-/
import Derived.Test.YtldkmobncmfodaaGreatR16
import Derived.Test.YtldkmobncmfodaaGreatR15
import Derived.Test.YtldkmobncmfodaaGreatR9
import Derived.Test.YtldkmobncmfodaaGreatR10

/-
  The document's writer, plain: chains of arrays.
-/
namespace Go.Proofs.YtldkmobncmfodaaGreat.Nc
open Bytes8 LeNum Ob Oc Ga Ma Mb Mc Mf Mg Yd Yc Sg Na Nb
set_option linter.unusedVariables false
set_option linter.unusedSimpArgs false

/-- A new array's bytes. -/
def aobj (k : Nat) : List Int := objB 6 (arrB 0 (List.replicate (roomN k) 0))
/-- An array more, which an item is the first one of. -/
def Mk.linkNew (m : Mk) (arr : List Nat) (fr item : Nat) : Mk :=
  { m.object (aobj arr.length) with
    h := setN (m.object (aobj arr.length)).h 18 (m.h.N 18 + 1)
    b := put8 (put8 (m.b ++ aobj arr.length) (if arr = [] then fr else arr.getLastD 0 + 16) m.b.length) (m.b.length + 24) item }
def Mk.linkOld (m : Mk) (arr : List Nat) (n item : Nat) : Mk := { m with b := put8 m.b (arr.getLastD 0 + 24 + 8 * (n - rooms (arr.length - 1))) item }
/-- An item behind n others into a chain: what there is then, the chain, how many are in its last one. -/
def Mk.link (m : Mk) (arr : List Nat) (n fr item : Nat) : Mk × List Nat × Nat :=
  if n = rooms arr.length then (Mk.linkNew m arr fr item, arr ++ [m.b.length], 1) else (Mk.linkOld m arr n item, arr, n - rooms (arr.length - 1) + 1)
end Go.Proofs.YtldkmobncmfodaaGreat.Nc

/-
  The document's writer: its last number; its image's head.
-/
namespace Go.Proofs.YtldkmobncmfodaaGreat.Mh
open Go.ChangeShapes Go.WideShapes Go.ChangeAt Go.RowKit
open Bytes8 Blk8 Own8 OwnM OwnA OwnE LeA LeNum LeB LeP RefA RefB Ob Oc Od Ga Ma Kf Mb Mc Md Mf Gb Gc Gd Ge
open Gq (rcells_info rcells_len rzeros_size)
open Gp (cells_set)
set_option linter.unusedVariables false
set_option linter.unusedSimpArgs false
set_option maxRecDepth 100000

theorem head_range {w : World} {g : Nat} {T : TypeId} {m : Mk} {S : Sl} (hb : Blk w g (Mk.cells m S) T) : w.rangeAt g 52 (m.h.cells 20) := fun j v hj => by
  have hl : j < 90 := by
    have := (List.getElem?_eq_some_iff.1 hj).1
    rw [HD.len] at this
    omega
  have h2 := hb.cell (Mk.get m S (52 + j) (by omega))
  unfold Mk.at_ at h2
  rw [if_pos (by omega), if_neg (by omega), show 52 + j - 52 = j by omega] at h2
  rw [m.h.get 20 j (by omega)] at hj
  injection hj with hj
  subst hj
  exact h2
theorem set_st (h : HD) (m : Nat) (v : Int) : (h.cells m).set 2 (.int .i64 v) = ({ h with st := v } : HD).cells m := by
  refine cells_set _ _ m _ _ (by omega) ?_ (fun i hi hne => ?_)
  · unfold HD.at_
    rfl
  · unfold HD.at_
    repeat' split
    all_goals first | rfl | (exfalso; omega)
theorem set_n1 (h : HD) (v : Int) : (h.cells 20).set 68 (.int .u64 v) = (setN h 1 v).cells 20 := by
  refine cells_set _ _ 20 _ _ (by omega) rfl (fun i hi hne => ?_)
  unfold HD.at_
  simp only [setN]
  repeat' split
  all_goals first | rfl | (exfalso; omega)
attribute [local irreducible] Mk.cells HD.cells wpList Code.wp
/-- The head that an image has. -/
def Mk.head (m : Mk) (st : Int) : HD := setN { m.h with st := st } 1 ((m.b.length : Int) - 272)
set_option maxHeartbeats 2000000 in
theorem image_any (B g bb cb : Nat) (S : Sl) (m : Mk) (st : Int) (w : World) (h : MkB w B g bb cb S m) (hb : 272 ≤ m.b.length ∧ m.b.length ≤ 1000000) (ok : (Mk.head m st).Ok 20) (hdp : m.depth ≤ 1000000) :
    Calls Tryz.prog 47 #[.pointer (some ⟨g, 0, none⟩), .int .i64 st] w (Owned ((HD.plus (Mk.head m st) (m.depth : Int)).bytes 21 ++ m.b.drop 272) m.b.length w) := by
  obtain ⟨hb0, hb1⟩ := hb
  have hgl := h.st.lt
  have HR := Lib.hid (head_range h.st)
  have hcap := (own_cap h.own).1
  have HM := Lib.hid h
  generalize hN : m.b.length = n at *
  have HN := Lib.hid hN
  clear hN
  have HC := Lib.hid fun (W : World) (hW : Below w.heap.size w W) (hR : Blk W w.heap.size ((Mk.head m st).cells 20) 102) => show W.rangeAt w.heap.size 0 ((Mk.head m st).cells 20) ∧ W.cell? ⟨g, 142, none⟩ = some (.int .u64 (m.depth : Int)) ∧ W.cell? ⟨g, 143, none⟩ = some (.slice (some ⟨bb, 0, none⟩) n cb) from
    ⟨fun j v hj => by rw [Nat.zero_add]; exact hR.cell hj, (MkB.below HM.out hW).st.cell (Mk.get_depth _ _), HN.out ▸ (MkB.below HM.out hW).st.cell (Mk.get_b _ _)⟩
  have HD4 := Lib.hid fun (W : World) (hW : Below w.heap.size w W) => show Bytes W (cutA (some ⟨bb, 0, none⟩) cb 272) (m.b.drop 272) from by
    have := Bytes.cut (MkB.below HM.out hW).own.bytes cb 272 (n - 272) (by rw [HN.out]; exact hcap)
    rw [List.take_of_length_le (by rw [List.length_drop, HN.out]; exact Nat.le_refl _)] at this
    exact this
  have hcut : ∀ W : World, (Instr.slice 25 (.slice (some ⟨bb, 0, none⟩) n cb) (some (.int .i64 272)) none none).run Tryz.prog W = .ok (.slice (cutA (some ⟨bb, 0, none⟩) cb 272) (n - 272) (cb - 272)) W := fun W => cut_l (some ⟨bb, 0, none⟩) n cb 272 hb0 W
  have b1 := Lib.hid ((Below.refl w.heap.size w).alloc (Nat.le_refl _) (.cells Tryz.zeroCells102 102))
  have Z1 := Lib.hid (heap_alloc_new w (.cells Tryz.zeroCells102 102))
  have B1 := Lib.hid (below_setRow b1.out (Nat.le_refl _) (m.h.cells 20).toArray)
  have R1 := Lib.hid (show Blk ((w.alloc (.cells Tryz.zeroCells102 102)).setRow w.heap.size (m.h.cells 20).toArray) w.heap.size (m.h.cells 20) 102 from setRow_heap _ w.heap.size _ _ 102 (0, 0) Z1.out)
  clear h
  go_enter Tryz.func47, Tryz.ntmps47
  go_upto_region 2 with (first
    | ((with_reducible apply at_slot 9); refine wpList_load_mid rfl 102 (.tmp 8) rfl g 52 rfl (m.h.cells 20) _ HR.out Tryz.underlying102 rfl (rcells_len _) ?_)
    | ((with_reducible apply at_store (.tmp 5) (.tmp 9)); refine wpList_store_row rfl 102 (.tmp 5) (.tmp 9) rfl w.heap.size (m.h.cells 20).toArray rfl rfl 102 Tryz.zeroCells102 Z1.out (rcells_info _) rzeros_size (HD.one _ 20) ?_)
    | fail)
  generalize (w.alloc (.cells Tryz.zeroCells102 102)).setRow w.heap.size (m.h.cells 20).toArray = w1 at *
  have r2 := R1.out.cell (m.h.get 20 2 (by decide))
  have z2 := R1.out.frozen 2
  have R2 := Lib.hid (R1.out.set_ 2 (.int .i64 st))
  have r68 := R2.out.cell (i := 68) ((List.getElem?_set_ne (by decide)).trans (m.h.get_N 20 1 (by decide)))
  have z68 := R2.out.frozen 68
  have B2 := Lib.hid (B1.out.setCell (p := ⟨w.heap.size, 2, none⟩) (Nat.le_refl _) (.int .i64 st))
  have y143 : (w1.setCell ⟨w.heap.size, 2, none⟩ (.int .i64 st)).cell? ⟨g, 143, none⟩ = some (.slice (some ⟨bb, 0, none⟩) n cb) := HN.out ▸ (MkB.below HM.out B2.out).st.cell (Mk.get_b _ _)
  go_upto_region 4 with fail
  have R3 := R2.out.set_ 68 (.int .u64 ((n : Int) - 272))
  rw [set_st, set_n1] at R3
  have B3 := Lib.hid (B2.out.setCell (p := ⟨w.heap.size, 68, none⟩) (Nat.le_refl _) (.int .u64 ((n : Int) - 272)))
  have R3 := Lib.hid (show Blk _ w.heap.size ((Mk.head m st).cells 20) 102 from by unfold Mk.head; rw [HN.out]; exact R3)
  generalize (w1.setCell ⟨w.heap.size, 2, none⟩ (.int .i64 st)).setCell ⟨w.heap.size, 68, none⟩ (.int .u64 ((n : Int) - 272)) = w3 at *
  have hd : 0 ≤ (m.depth : Int) ∧ (m.depth : Int) ≤ 18446744073709551615 := ⟨by omega, by omega⟩
  refine wp_region_noPanic ?_
  refine wp_region_held_drew (S := fun W : World => W.rangeAt w.heap.size 0 ((Mk.head m st).cells 20) ∧ W.cell? ⟨g, 142, none⟩ = some (.int .u64 (m.depth : Int)) ∧ W.cell? ⟨g, 143, none⟩ = some (.slice (some ⟨bb, 0, none⟩) n cb)) (by kernel_rfl) (by exact HC.out _ B3.out.drew R3.out) (fun hHeld => ?_)
  refine wpAnyH_take (i := 0) (oi := ⟨some 21, _, _, _, _, _⟩) rfl (by kernel_rfl) (by kernel_rfl) (by kernel_rfl) (fun _ _ _ h => h) (yieldsIf_load_mid (by rfl) _ _ rfl _ _ rfl _ _ (fun _ h => h.1) Tryz.underlying102 rfl (rcells_len _)) (by assumption) ?_
  try simp only [Act.put, List.setIfInBounds_toArray, List.set_cons_zero, List.set_cons_succ]
  refine wpAnyH_take (i := 1) (oi := ⟨some 22, _, _, _, _, _⟩) (v := ?_) rfl (by kernel_rfl) (by kernel_rfl) (by kernel_rfl) (fun _ _ _ h => h) (Or.inl ⟨by rfl, ?_⟩) (by assumption) ?_
  rotate_left
  · intro W hSw; go_simp; try (with_reducible rfl)
  try simp only [Act.put, List.setIfInBounds_toArray, List.set_cons_zero, List.set_cons_succ]
  refine wpAnyH_take (i := 2) (oi := ⟨some 23, _, _, _, _, _⟩) (v := ?_) rfl (by kernel_rfl) (by kernel_rfl) (by kernel_rfl) (fun _ _ _ h => h) (Or.inl ⟨by rfl, ?_⟩) (by assumption) ?_
  rotate_left
  · intro W hSw; go_simp; try (with_reducible rfl)
  try simp only [Act.put, List.setIfInBounds_toArray, List.set_cons_zero, List.set_cons_succ]
  refine wpAnyH_take (i := 3) (oi := ⟨some 24, _, _, _, _, _⟩) (v := ?_) rfl (by kernel_rfl) (by kernel_rfl) (by kernel_rfl) (fun _ _ _ h => h) (Or.inl ⟨by rfl, ?_⟩) (by assumption) ?_
  rotate_left
  · intro W hSw; go_simp; try (with_reducible rfl)
  try simp only [Act.put, List.setIfInBounds_toArray, List.set_cons_zero, List.set_cons_succ]
  refine wpAnyH_take (i := 4) (oi := ⟨some 25, _, _, _, _, _⟩) (v := ?_) rfl (by kernel_rfl) (by kernel_rfl) (by kernel_rfl) (fun _ _ _ h => h) (Or.inl ⟨by rfl, ?_⟩) (by assumption) ?_
  rotate_left
  · intro W hSw; have hSx := hSw.2.1; go_simp; try (with_reducible rfl)
  try simp only [Act.put, List.setIfInBounds_toArray, List.set_cons_zero, List.set_cons_succ]
  refine wpAnyH_take (i := 6) (oi := ⟨some 27, _, _, _, _, _⟩) (v := ?_) rfl (by kernel_rfl) (by kernel_rfl) (by kernel_rfl) (fun _ _ _ h => h) (Or.inl ⟨by rfl, ?_⟩) (by assumption) ?_
  rotate_left
  · intro W hSw; go_simp; try (with_reducible rfl)
  try simp only [Act.put, List.setIfInBounds_toArray, List.set_cons_zero, List.set_cons_succ]
  refine wpAnyH_take (i := 7) (oi := ⟨some 28, _, _, _, _, _⟩) (v := ?_) rfl (by kernel_rfl) (by kernel_rfl) (by kernel_rfl) (fun _ _ _ h => h) (Or.inl ⟨by rfl, ?_⟩) (by assumption) ?_
  rotate_left
  · intro W hSw; go_simp; try (with_reducible rfl)
  try simp only [Act.put, List.setIfInBounds_toArray, List.set_cons_zero, List.set_cons_succ]
  refine wpAnyH_take (i := 8) (oi := ⟨some 29, _, _, _, _, _⟩) (v := ?_) rfl (by kernel_rfl) (by kernel_rfl) (by kernel_rfl) (fun _ _ _ h => h) (Or.inl ⟨by rfl, ?_⟩) (by assumption) ?_
  rotate_left
  · intro W hSw; go_simp; try (with_reducible rfl)
  try simp only [Act.put, List.setIfInBounds_toArray, List.set_cons_zero, List.set_cons_succ]
  refine wpAnyH_take (i := 9) (oi := ⟨some 30, _, _, _, _, _⟩) (v := ?_) rfl (by kernel_rfl) (by kernel_rfl) (by kernel_rfl) (fun _ _ _ h => h) (Or.inl ⟨by rfl, ?_⟩) (by assumption) ?_
  rotate_left
  · intro W hSw; have hSx := hSw.2.2; go_simp; try (with_reducible rfl)
  try simp only [Act.put, List.setIfInBounds_toArray, List.set_cons_zero, List.set_cons_succ]
  refine wpAnyH_take (i := 10) (oi := ⟨some 31, _, _, _, _, _⟩) (v := ?_) rfl (by kernel_rfl) (by kernel_rfl) (by kernel_rfl) (fun _ _ _ h => h) (Or.inl ⟨by rfl, ?_⟩) (by assumption) ?_
  rotate_left
  · intro W hSw; go_simp; try (with_reducible rfl)
  try simp only [Act.put, List.setIfInBounds_toArray, List.set_cons_zero, List.set_cons_succ]
  refine wpAnyH_ready (rs := [5]) (by kernel_rfl) (by simp) ?_
  refine AllReadyH.cons (o := ⟨some 26, _, _, _, _, _⟩) rfl (fun K hK => ?_) AllReadyH.nil
  go_simp
  (refine (rbytes_any (Mk.head m st) ok (m.depth : Int) hd _).mono ?_); rintro e w4 ⟨A4, c4, rfl, ho4, hb4⟩; have HO4 := Lib.hid ho4; have B4 := Lib.hid (B3.out.trans (((Below.refl w3.heap.size w3).drew.trans hb4).mono B3.out.size)); have R4 := Lib.hid (R3.out.below ((Below.refl w3.heap.size w3).drew.trans hb4) R3.out.lt); clear ho4 hb4
  try go_wp2_with fail
  refine hK.out _ _ (by exact HC.out _ B4.out R4.out) (fun hHeld => ?_)
  clear hK K
  try simp only [Act.put, List.setIfInBounds_toArray, List.set_cons_zero, List.set_cons_succ]
  refine wpAnyH_ready (rs := [11]) (by kernel_rfl) (by simp) ?_
  refine AllReadyH.cons (o := ⟨some 32, _, _, _, _, _⟩) rfl (fun K hK => ?_) AllReadyH.nil
  refine step_append_bytes (o := ⟨some 32, _, _, _, _, _⟩) rfl (.tmp 26) (.tmp 31) rfl w3.heap.size A4 272 c4 _ rfl HO4.out (cutA (some ⟨bb, 0, none⟩) cb 272) (n - 272) (cb - 272) (m.b.drop 272) rfl (HD4.out _ B4.out) (by rw [List.length_drop, HN.out]) (by omega) ?_
  intro A5 c5 w5 ho5 hb5
  have HO5 := Lib.hid ho5
  have B5 := Lib.hid (B4.out.trans (hb5.mono B3.out.size))
  have R5 := Lib.hid (R4.out.below hb5 R3.out.lt)
  clear ho5 hb5
  refine hK.out _ _ (by exact HC.out _ B5.out R5.out) (fun hHeld => ?_)
  clear hK K
  try simp only [Act.put, List.setIfInBounds_toArray, List.set_cons_zero, List.set_cons_succ]
  refine wpAnyH_take (i := 12) (oi := ⟨some 4, _, _, _, _, _⟩) (v := ?_) rfl (by kernel_rfl) (by kernel_rfl) (by kernel_rfl) (fun _ _ _ h => h) (Or.inl ⟨by rfl, ?_⟩) (by assumption) ?_
  rotate_left
  · intro W hSw; go_simp; try (with_reducible rfl)
  try simp only [Act.put, List.setIfInBounds_toArray, List.set_cons_zero, List.set_cons_succ]
  refine wpAnyH_done (by kernel_rfl) ?_ _
  refine NoPanic.normal ?_
  go_wp2
  go_ret
  have e9 : 272 + (n - 272) = n := by omega
  have ho := HO5.out
  rw [e9] at ho
  exact ⟨A5, c5, rfl, Own.base ho B3.out.size, B5.out⟩
end Go.Proofs.YtldkmobncmfodaaGreat.Mh

/-
  The document's writer in memory: what its small calls leave of all of it.
-/
namespace Go.Proofs.YtldkmobncmfodaaGreat.Nd
open Go.ChangeShapes Go.WideShapes Go.ChangeAt Go.RowKit
open Bytes8 Blk8 Own8 OwnM OwnA OwnE LeA LeNum LeB LeP RefA RefB Ob Oc Od Oj Ga Ma Kf Mb Mc Md Me Mf Mg Fa Fb Fc Sg Dc Na Nb Nc
set_option linter.unusedVariables false
set_option linter.unusedSimpArgs false
set_option maxRecDepth 100000

/-- From one placement to another one. -/
structure Path (g : Nat) (p : Pl) (w : World) (p' : Pl) (w' : World) : Prop where
  foot : ∀ k, p'.foot g k → p.foot g k ∨ w.heap.size ≤ k
  kept : KeptF (p.foot g) w w'
theorem Path.refl (g : Nat) (p : Pl) (w : World) : Path g p w p w := ⟨fun _ h => .inl h, KeptF.refl _ _⟩
theorem Path.trans {g : Nat} {p p1 p2 : Pl} {w w1 w2 : World} (h : Path g p w p1 w1) (k : Path g p1 w1 p2 w2) : Path g p w p2 w2 :=
  ⟨fun i hi => (k.foot i hi).elim (h.foot i) (fun h1 => .inr (Nat.le_trans h.kept.size h1)), h.kept.trans k.kept fun i hi hF => (h.foot i hF).elim id (fun h1 => absurd hi (by omega))⟩
theorem Path.below {g : Nat} {p p1 : Pl} {w w1 w2 : World} (h : Path g p w p1 w1) (hb : Below w1.heap.size w1 w2) : Path g p w p1 w2 := ⟨h.foot, h.kept.trans (KeptF.of_below (F := None') hb) fun _ _ h => h.elim⟩
theorem Path.of_below {g : Nat} {p : Pl} {w w2 : World} (hb : Below w.heap.size w w2) : Path g p w p w2 := (Path.refl g p w).below hb
theorem Path.base {g B : Nat} {p p' : Pl} {w w' : World} (h : Path g p w p' w') (hB : B ≤ w.heap.size) (hp : ∀ k, p.foot g k → B ≤ k) : Below B w w' := h.kept.below hB hp
theorem Path.set {g : Nat} {p p1 : Pl} {w w1 : World} (h : Path g p w p1 w1) (i : Nat) (v : Value) : Path g p w p1 (w1.setCell ⟨g, i, none⟩ v) := ⟨h.foot, h.kept.setCell (p := ⟨g, i, none⟩) (fun _ => Or.inl rfl) v⟩
theorem Path.drew {g : Nat} {p p1 : Pl} {w w1 : World} (h : Path g p w p1 w1) : Path g p w p1 w1.drew := ⟨h.foot, h.kept.drew⟩
theorem Path.put8 {g : Nat} {p : Pl} {w w1 : World} (h : Put8 p.bb w w1) : Path g p w p w1 := ⟨fun _ h => .inl h, h.kept.mono fun i hi => .inr (.inl hi)⟩
variable {w w' : World} {B g : Nat} {p p' : Pl} {m m' : Mk}
theorem At.drew (h : At w B g p m) : At w.drew B g p m := h.below (Below.refl _ _).drew
theorem At.cb (h : At w B g p m) : w.cell? ⟨g, 143, none⟩ = some (.slice (some ⟨p.bb, 0, none⟩) m.b.length p.cb) := h.st.st.cell (Mk.get_b _ _)
theorem At.cd (h : At w B g p m) : w.cell? ⟨g, 144, none⟩ = some (.slice p.D p.nd p.cd) := h.st.st.cell (Mk.get_d _ _)
theorem At.cf (h : At w B g p m) : w.cell? ⟨g, 145, none⟩ = some (.slice p.F p.nf p.cf) := h.st.st.cell (Mk.get_f _ _)
theorem At.cm (h : At w B g p m) : w.cell? ⟨g, 146, none⟩ = some p.M := h.st.st.cell (Mk.get_m _ _)
theorem At.cN (h : At w B g p m) (i k : Nat) (hi : i < 20) (hk : k = 119 + i) : w.cell? ⟨g, k, none⟩ = some (.int .u64 (m.h.N i)) := h.st.st.cell (Mk.get_Nk _ _ i k hi hk)
theorem At.fz (h : At w B g p m) (i : Nat) : w.frozen? ⟨g, i, none⟩ = false := h.st.st.frozen i
/-- The struct alone is another one. -/
theorem At.struct {S' : Nat} {v : Value} (h : At w B g p m) (i : Nat) (v : Value) (st : MkB (w.setCell ⟨g, i, none⟩ v) B g p.bb p.cb p.S m') (hd : m.datas = m'.datas) (hf : m.fields = m'.fields) (hm : m.main = m'.main) : At (w.setCell ⟨g, i, none⟩ v) B g p m' :=
  h.turn ((KeptF.refl _ w).setCell (p := ⟨g, i, none⟩) (fun _ => Or.inl rfl) v) (fun _ h => .inl h) st
    (OwnE.keptF h.dr (KeptF.set1 w g i v) fun j hj e => (h.dg j hj).1 e) (OwnE.keptF h.fr (KeptF.set1 w g i v) fun j hj e => (h.fg j hj).1 e)
    (h.dm.trans hd) (h.fm.trans hf) (fun q hq => .inl hq) (.inl ⟨rfl, hm.symm⟩) h.dg h.fg h.df (fun q hq => .inl hq)
theorem At.setN (h : At w B g p m) (i k : Nat) (hi : i < 20) (hk : k = 119 + i) (v : Int) : At (w.setCell ⟨g, k, none⟩ (.int .u64 v)) B g p { m with h := Ma.setN m.h i v } :=
  At.struct (S' := 0) (v := .bool true) h k _ (MkB.setN h.st i k hi hk v) rfl rfl rfl
theorem At.depth (h : At w B g p m) (v : Nat) : At (w.setCell ⟨g, 142, none⟩ (.int .u64 (v : Int))) B g p { m with depth := v } :=
  At.struct (S' := 0) (v := .bool true) h 142 _ (MkB.depth h.st v) rfl rfl rfl
theorem At.same (h : At w B g p m) (h1 : m.C = m'.C) (h2 : m.h = m'.h) (h3 : m.depth = m'.depth) (h4 : m.b = m'.b) (h5 : m.datas = m'.datas) (h6 : m.fields = m'.fields) (h7 : m.main = m'.main) : At w B g p m' :=
  { st := MkB.same h.st h1 h2 h3 h4, dr := h.dr, fr := h.fr, dm := h.dm.trans h5, fm := h.fm.trans h6, da := h.da, ma := h7 ▸ h.ma, dg := h.dg, fg := h.fg, df := h.df, gB := h.gB, fo := h.fo }
theorem At.put8 (h : At w B g p m) {l : List Int} (hl : l.length = m.b.length) (ho : Own w' B (some ⟨p.bb, 0, none⟩) m.b.length p.cb l) (hp : Put8 p.bb w w') : At w' B g p { m with b := l } :=
  h.turn (hp.kept.mono fun i hi => .inr (.inl hi)) (fun _ h => .inl h) (h.st.put hl ho hp) (OwnE.keptF h.dr hp.kept fun j hj e => (h.dg j hj).2 e) (OwnE.keptF h.fr hp.kept fun j hj e => (h.fg j hj).2 e) h.dm h.fm (fun q hq => .inl hq) (.inl ⟨rfl, rfl⟩) h.dg h.fg h.df (fun q hq => .inl hq)
end Go.Proofs.YtldkmobncmfodaaGreat.Nd
