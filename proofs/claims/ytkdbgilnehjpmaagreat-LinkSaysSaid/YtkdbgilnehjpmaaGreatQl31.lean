/-
  Texts beneath the proof, one behind the other.
-/
import Derived.BigRegion
import Derived.Test.YtkdbgilnehjpmaaGreatQl30
import Derived.Test.YtkdbgilnehjpmaaGreatQl19
import Derived.Test.YtkdbgilnehjpmaaGreatQl12
import Derived.Test.YtkdbgilnehjpmaaGreatQl27
import Derived.Test.YtkdbgilnehjpmaaGreatQl29
import Derived.Test.YtkdbgilnehjpmaaGreatQl28
import Derived.Test.YtkdbgilnehjpmaaGreatQl7
import Derived.Test.YtkdbgilnehjpmaaGreatQl13
import Derived.Test.YtkdbgilnehjpmaaGreatQl4
import Derived.Test.YtkdbgilnehjpmaaGreatQl10
/-
  The document's SameRecord: of two records that say the same.
-/
namespace Go.Proofs.YtkdbgilnehjpmaaGreat.Rq
open Go.ChangeShapes Go.WideShapes Go.ChangeAt Go.RowKit
open Bytes8 Blk8 Own8 OwnM OwnE Rows2 Ob Nr Np Pr8 Pa8 Yq
set_option linter.unusedVariables false
set_option linter.unusedSimpArgs false
set_option maxRecDepth 100000
attribute [local irreducible] wpList Code.wp
end Go.Proofs.YtkdbgilnehjpmaaGreat.Rq
/-
  What the program's View.Record and View.Payload tell, in one form; an image opened, with whatever bytes behind it.
-/
namespace Go.Proofs.YtkdbgilnehjpmaaGreat.Rr
open Go.ChangeShapes Go.WideShapes Go.ChangeAt Go.RowKit
open Bytes8 Blk8 Own8 OwnM OwnE LeA LeNum LeP Rows2 Ob Oc Od Ga Gb Gc Gd Gf Gi Gj Gk Gl Gm Oi Oj Ok7 Ma Mh Na Np Nr Pr8 Ns Nt Nu Nv Ra Rc Rk Rl Rm Rn Ro Rp
open Yc Yp Yd Ye Yf Yg Yh Ri
open Rd (dcode dz)
open Go1 (hcode rhd hread_any HTold magicB)
set_option linter.unusedVariables false
set_option linter.unusedSimpArgs false
set_option maxRecDepth 100000
/-! ## behind the end nothing is there -/
/-! ## an image -/
attribute [local irreducible] HD.cells wpList Code.wp
end Go.Proofs.YtkdbgilnehjpmaaGreat.Rr
/-
  The document's View: End, in, Data, Field, Entry, Array; the program's told in the same form.
-/
namespace Go.Proofs.YtkdbgilnehjpmaaGreat.Va
open Go.ChangeShapes Go.WideShapes Go.ChangeAt Go.RowKit
open Bytes8 Blk8 Own8 OwnM OwnE LeA LeNum LeP Rows2 Ob Oc Od Ga Gb Gc Gd Gf Gi Gj Oi Oj Ok7 Ol7 Np Nr Pr8 Ra Rc Rm Rr
open Yc Yp Yd Ye Yf Yg Yh Yn Ym
open Rd (dcode dz)
open Re (AskD)
open Rg (arcode az AskA arrAsk)
set_option linter.unusedVariables false
set_option linter.unusedSimpArgs false
set_option maxRecDepth 100000
/-- A document's view in memory. -/
structure ViewR (w : World) (gv : Nat) (h : HD) (d : Int) (A : Option Addr) (n c : Nat) (l : List Int) : Prop where
  blk : Blk w gv (h.cells 20 ++ [.int .u64 d, .slice A n c]) 122
  by_ : Bytes w A l
  len : l.length = n
  cap : n ≤ c
  capm : c ≤ maxLen
  big : n ≤ 800000
  ok : h.Ok 21
theorem ViewR.below {w w' : World} {gv : Nat} {h : HD} {d : Int} {A : Option Addr} {n c : Nat} {l : List Int} (v : ViewR w gv h d A n c l) (hb : Below w.heap.size w w') : ViewR w' gv h d A n c l :=
  ⟨v.blk.below hb v.blk.lt, v.by_.below hb (Nat.le_refl _), v.len, v.cap, v.capm, v.big, v.ok⟩
theorem rview_N (h : HD) (d : Int) (b : Value) (i : Nat) (hi : i < 20) : (h.cells 20 ++ [.int .u64 d, b])[67 + i]? = some (.int .u64 (h.N i)) := by
  rw [List.getElem?_append_left (by rw [HD.len]; omega)]
  exact h.get_N 20 i hi
theorem rview_b (h : HD) (d : Int) (b : Value) : (h.cells 20 ++ [.int .u64 d, b])[91]? = some b := by
  rw [List.getElem?_append_right (by rw [HD.len]; omega), HD.len]
  rfl
abbrev rng (h : HD) (n a : Nat) : Prop := h.N 0 ≤ (a : Int) ∧ a < n
/-! ## the same form -/
def dN (h : HD) (l : List Int) (n a i : Nat) : Int := if rng h n a then bnum l a 1 6 i else 0
def dP (h : HD) (l : List Int) (n a : Nat) : List Int := if rng h n a then bpay l a 1 6 else []
def TellD (B : Nat) (h : HD) (l : List Int) (n a : Nat) (w : World) (e : Ending) (w' : World) : Prop := Below w.heap.size w w' ∧ ∃ A' m c, e = .returned (.tuple #[dataV (dN h l n a 0) (dN h l n a 1) (dN h l n a 2) (dN h l n a 3) (dN h l n a 4) (dN h l n a 5) A' m c, .int .i64 (dcode h l n a)]) ∧ Bytes w' A' (dP h l n a) ∧ (dP h l n a).length = m ∧ Cap B A' m c
def aX9 (h : HD) (l : List Int) (n a : Nat) : Int := if rng h n a then arX l a else 0
def aC9 (h : HD) (l : List Int) (n a : Nat) : Nat := if rng h n a then arM l a else 0
def TellA (B : Nat) (h : HD) (l : List Int) (n a : Nat) (w : World) (e : Ending) (w' : World) : Prop := Below w.heap.size w w' ∧ ∃ A' c, e = .returned (.tuple #[arrV (aX9 h l n a) A' (aC9 h l n a) c, .int .i64 (arcode h l n a)]) ∧ InInts .u64 w' A' (aC9 h l n a) (arF (bodyL l a)) ∧ NewIn B A'
theorem none_new (B : Nat) : NewIn B none := fun b off e => by cases e
theorem cap_none (B : Nat) : Cap B none 0 0 := ⟨by decide, by decide, by decide, fun b off e => by cases e⟩
theorem dataTell {gv : Nat} {h : HD} {A : Option Addr} {n c : Nat} {l : List Int} (a : Nat) (w : World) (v : ViewAt w gv h A n c l) (hcm : c ≤ maxLen) :
    Calls Tryz.prog 44 #[.pointer (some ⟨gv, 0, none⟩), .int .u64 (a : Int)] w (TellD w.heap.size h l n a w) := by
  refine (Re.dataAsk a w v hcm).mono ?_
  rintro e w' ⟨hb, hh⟩
  refine ⟨hb, ?_⟩
  unfold dN dP dcode
  by_cases hr : rng h n a
  · rcases hh with ⟨hz, rfl⟩ | ⟨hz, A', m', c', rfl, h1, h2, h3⟩
    · have e0 : dcode h l n a = bcode l a 1 6 := if_pos hr
      rw [e0] at hz
      have hn : ∀ i, bnum l a 1 6 i = 0 := fun i => if_neg hz
      have hp : bpay l a 1 6 = [] := if_neg hz
      simp only [if_pos hr, hn, hp]
      rw [e0]
      exact ⟨none, 0, 0, rfl, Bytes.nil _ _, rfl, cap_none _⟩
    · have e0 : dcode h l n a = bcode l a 1 6 := if_pos hr
      rw [e0] at hz
      simp only [if_pos hr]
      rw [hz]
      exact ⟨A', m', c', rfl, h1, h2, h3⟩
  · rcases hh with ⟨hz, rfl⟩ | ⟨hz, _⟩
    · simp only [if_neg hr]
      rw [show dcode h l n a = 2 from if_neg hr]
      exact ⟨none, 0, 0, rfl, Bytes.nil _ _, rfl, cap_none _⟩
    · rw [show dcode h l n a = 2 from if_neg hr] at hz; cases hz
theorem arrTell {gv : Nat} {h : HD} {A : Option Addr} {n c : Nat} {l : List Int} (a : Nat) (w : World) (v : ViewAt w gv h A n c l) (hcm : c ≤ maxLen) :
    Calls Tryz.prog 70 #[.pointer (some ⟨gv, 0, none⟩), .int .u64 (a : Int)] w (TellA w.heap.size h l n a w) := by
  refine (arrAsk a w v hcm).mono ?_
  rintro e w' ⟨hb, hh⟩
  refine ⟨hb, ?_⟩
  unfold aX9 aC9 arcode
  by_cases hr : rng h n a
  · rcases hh with ⟨hz, rfl⟩ | ⟨hz, A', c', rfl, h1, h2⟩
    · have e0 : arcode h l n a = ecode l a 6 8 8 := if_pos hr
      rw [e0] at hz
      have t1 : arX l a = 0 := if_neg hz
      have t2 : arM l a = 0 := if_neg hz
      simp only [if_pos hr, t1, t2]
      rw [e0]
      exact ⟨none, 0, rfl, fun i hi => absurd hi (Nat.not_lt_zero i), none_new _⟩
    · have e0 : arcode h l n a = ecode l a 6 8 8 := if_pos hr
      rw [e0] at hz
      simp only [if_pos hr]
      rw [hz]
      exact ⟨A', c', rfl, h1, h2⟩
  · rcases hh with ⟨hz, rfl⟩ | ⟨hz, _⟩
    · simp only [if_neg hr]
      rw [show arcode h l n a = 2 from if_neg hr]
      exact ⟨none, 0, rfl, fun i hi => absurd hi (Nat.not_lt_zero i), none_new _⟩
    · rw [show arcode h l n a = 2 from if_neg hr] at hz; cases hz
/-! ## the document's -/
theorem bytes_row {w : World} {A : Option Addr} {l : List Int} (h : Bytes w A l) {s : Nat} (hs : ∀ b off, A = some ⟨b, off, none⟩ → b ≠ s) (cs : Array Value) : Bytes (w.setRow s cs) A l := bytes_keptB h (by simp) (fun b off e _ => setRow_other w s b cs (hs b off e))
attribute [local irreducible] HD.cells wpList Code.wp
theorem rvend_any {gv : Nat} {h : HD} {d : Int} {A : Option Addr} {n c : Nat} {l : List Int} (w : World) (v : ViewR w gv h d A n c l) : Calls Tryz.prog 20 #[.pointer (some ⟨gv, 0, none⟩)] w fun e w' => e = .returned (.int .u64 (n : Int)) ∧ w = w' := by
  have c91 := v.blk.cell (rview_b _ _ _)
  have hn := v.big
  have hw : IntKind.u64.wrap (n : Int) = (n : Int) := by rw [IntKind.wrap_u64]; omega
  clear v
  go_enter Tryz.func20, Tryz.ntmps20
  go_wp2
  go_ret
  exact ⟨rfl, rfl⟩
theorem in_yes {gv : Nat} {h : HD} {d : Int} {A : Option Addr} {n c : Nat} {l : List Int} (a : Nat) (w : World) (v : ViewR w gv h d A n c l) (hr : rng h n a) : Calls Tryz.prog 124 #[.pointer (some ⟨gv, 0, none⟩), .int .u64 (a : Int)] w fun e w' => e = .returned (.int .i64 0) ∧ w = w' := by
  have c67 : w.cell? ⟨gv, 67, none⟩ = some (.int .u64 (h.N 0)) := v.blk.cell (rview_N _ _ _ 0 (by decide))
  have HE := Lib.hid (rvend_any w v)
  have d1 : decide ((a : Int) < h.N 0) = false := by have := hr.1; simp; omega
  have d2 : decide ((a : Int) ≥ (n : Int)) = false := by have := hr.2; simp; omega
  have d3 : decide (n ≤ a) = false := by have := hr.2; simp; omega
  clear v hr
  go_enter Tryz.func124, Tryz.ntmps124
  go_wp2_with (first
    | (go_at_call 20; (refine HE.out.mono ?_); rintro e w1 ⟨rfl, rfl⟩)
    | fail)
  go_ret
  exact ⟨rfl, rfl⟩
theorem in_no {gv : Nat} {h : HD} {d : Int} {A : Option Addr} {n c : Nat} {l : List Int} (a : Nat) (w : World) (v : ViewR w gv h d A n c l) (hr : ¬ rng h n a) : Calls Tryz.prog 124 #[.pointer (some ⟨gv, 0, none⟩), .int .u64 (a : Int)] w fun e w' => e = .returned (.int .i64 2) ∧ w = w' := by
  have c67 : w.cell? ⟨gv, 67, none⟩ = some (.int .u64 (h.N 0)) := v.blk.cell (rview_N _ _ _ 0 (by decide))
  have HE := Lib.hid (rvend_any w v)
  clear v
  by_cases h3 : h.N 0 ≤ (a : Int)
  · have d1 : decide ((a : Int) < h.N 0) = false := by simp; omega
    have d2 : decide ((a : Int) ≥ (n : Int)) = true := by
      have : ¬ a < n := fun h4 => hr ⟨h3, h4⟩
      simp; omega
    have d3 : decide (n ≤ a) = true := by
      have : ¬ a < n := fun h4 => hr ⟨h3, h4⟩
      simp; omega
    clear hr h3
    go_enter Tryz.func124, Tryz.ntmps124
    go_wp2_with (first
      | (go_at_call 20; (refine HE.out.mono ?_); rintro e w1 ⟨rfl, rfl⟩)
      | fail)
    go_ret
    exact ⟨rfl, rfl⟩
  · have d1 : decide ((a : Int) < h.N 0) = true := by simp; omega
    clear hr h3
    go_enter Tryz.func124, Tryz.ntmps124
    go_wp2_with fail
    go_ret
    exact ⟨rfl, rfl⟩
set_option maxHeartbeats 4000000 in
theorem rdataTell {gv : Nat} {h : HD} {d : Int} {A : Option Addr} {n c : Nat} {l : List Int} (a : Nat) (w : World) (v : ViewR w gv h d A n c l) :
    Calls Tryz.prog 66 #[.pointer (some ⟨gv, 0, none⟩), .int .u64 (a : Int)] w (TellD w.heap.size h l n a w) := by
  have b1 := Lib.hid ((Below.refl w.heap.size w).alloc (Nat.le_refl _) (.cells dz 127))
  have v1 := v.below b1.out
  have c91 := v1.blk.cell (rview_b _ _ _)
  have Z1 := Lib.hid (heap_alloc_new w (.cells dz 127))
  have s1 := Lib.hid (show w.heap.size < (w.alloc (.cells dz 127)).heap.size by simp)
  unfold TellD
  by_cases hr : rng h n a
  · have HI := Lib.hid (in_yes a _ v1 hr)
    have HR := Lib.hid (rreadData_n A l n c a _ v1.by_ v1.len (by have := v1.big; omega) v1.cap v1.capm (by have := v1.big; have := hr.2; omega))
    unfold DataTold2 at HR
    unfold dN dP dcode
    simp only [if_pos hr]
    clear v v1 hr
    generalize bnum l a 1 6 0 = x0 at *
    generalize bnum l a 1 6 1 = x1 at *
    generalize bnum l a 1 6 2 = x2 at *
    generalize bnum l a 1 6 3 = x3 at *
    generalize bnum l a 1 6 4 = x4 at *
    generalize bnum l a 1 6 5 = x5 at *
    generalize bcode l a 1 6 = cd at *
    generalize bpay l a 1 6 = pl at *
    go_enter Tryz.func66, Tryz.ntmps66
    go_wp2_with (first
      | (go_at_call 124; (refine HI.out.mono ?_); rintro e w1 ⟨rfl, rfl⟩)
      | (go_at_call 125; (refine HR.out.mono ?_); rintro e w2 ⟨A2, m2, c2, rfl, hb2, hy2, hl2, hm2⟩; have B2 := Lib.hid (b1.out.trans (hb2.mono b1.out.size)); have Z2 := Lib.hid ((hb2.block _ s1.out).trans Z1.out); have HY2 := Lib.hid hy2; have HC2 := Lib.hid hm2; clear hy2 hm2; clear hb2)
      | ((with_reducible apply at_store (.tmp 4) (.tmp 20)); refine wpList_store_row rfl 127 (.tmp 4) (.tmp 20) rfl w.heap.size #[.int .u64 x0, .int .u64 x1, .int .u64 x2, .int .u64 x3, .int .u64 x4, .int .u64 x5, .slice A2 m2 c2] rfl rfl 127 dz Z2.out (by kernel_rfl) rfl (by simp [Value.oneCell']) ?_)
      | fail)
    refine bodyPost_ret (v := .tuple #[dataV x0 x1 x2 x3 x4 x5 A2 m2 c2, .int .i64 cd]) (by exact res_rowG Tryz.results66 _ _ w.heap.size 127 _ (0, 0) _ _ rfl rfl (setRow_heap _ w.heap.size _ _ _ (0, 0) Z2.out) Tryz.underlying127 rfl (by kernel_rfl)) rfl ?_
    exact ⟨below_setRow B2.out (Nat.le_refl _) _, A2, m2, c2, rfl, bytes_row HY2.out (fun b off e => Nat.ne_of_gt (Nat.lt_of_lt_of_le s1.out (HC2.out.2.2.2 b off e))) _, hl2, HC2.out.mono (Nat.le_of_lt s1.out)⟩
  · have HI := Lib.hid (in_no a _ v1 hr)
    unfold dN dP dcode
    simp only [if_neg hr]
    clear v v1 hr
    go_enter Tryz.func66, Tryz.ntmps66
    go_wp2_with (first
      | (go_at_call 124; (refine HI.out.mono ?_); rintro e w1 ⟨rfl, rfl⟩)
      | ((with_reducible apply at_slot 12); refine Yz.wpList_build_as rfl 127 _ rfl dz (by kernel_rfl) ?_)
      | ((with_reducible apply at_store (.tmp 4) (.tmp 12)); refine wpList_store_row rfl 127 (.tmp 4) (.tmp 12) rfl w.heap.size dz rfl rfl 127 dz Z1.out (by kernel_rfl) rfl (by simp [Value.oneCell']) ?_)
      | fail)
    refine bodyPost_ret (v := .tuple #[.agg dz, .int .i64 2]) (by exact res_rowG Tryz.results66 _ _ w.heap.size 127 _ (0, 0) _ _ rfl rfl (setRow_heap _ w.heap.size _ _ _ (0, 0) Z1.out) Tryz.underlying127 rfl (by kernel_rfl)) rfl ?_
    exact ⟨below_setRow b1.out (Nat.le_refl _) _, none, 0, 0, rfl, Bytes.nil _ _, rfl, cap_none _⟩
set_option maxHeartbeats 4000000 in
theorem rarrTell {gv : Nat} {h : HD} {d : Int} {A : Option Addr} {n c : Nat} {l : List Int} (a : Nat) (w : World) (v : ViewR w gv h d A n c l) :
    Calls Tryz.prog 71 #[.pointer (some ⟨gv, 0, none⟩), .int .u64 (a : Int)] w (TellA w.heap.size h l n a w) := by
  have b1 := Lib.hid ((Below.refl w.heap.size w).alloc (Nat.le_refl _) (.cells az 147))
  have v1 := v.below b1.out
  have c91 := v1.blk.cell (rview_b _ _ _)
  have Z1 := Lib.hid (heap_alloc_new w (.cells az 147))
  have s1 := Lib.hid (show w.heap.size < (w.alloc (.cells az 147)).heap.size by simp)
  unfold TellA
  by_cases hr : rng h n a
  · have HI := Lib.hid (in_yes a _ v1 hr)
    have HR := Lib.hid (rreadArray_n A l n c a _ v1.by_ v1.len (by have := v1.big; omega) v1.cap v1.capm (by have := v1.big; have := hr.2; omega))
    unfold ArrTold2 at HR
    unfold aX9 aC9 arcode
    simp only [if_pos hr]
    clear v v1 hr
    generalize arX l a = x0 at *
    generalize arM l a = mm at *
    generalize arF (bodyL l a) = fa at *
    generalize ecode l a 6 8 8 = cd at *
    go_enter Tryz.func71, Tryz.ntmps71
    go_wp2_with (first
      | (go_at_call 124; (refine HI.out.mono ?_); rintro e w1 ⟨rfl, rfl⟩)
      | (go_at_call 135; (refine HR.out.mono ?_); rintro e w2 ⟨A2, c2, rfl, hb2, hy2, hw2⟩; have B2 := Lib.hid (b1.out.trans (hb2.mono b1.out.size)); have Z2 := Lib.hid ((hb2.block _ s1.out).trans Z1.out); have HY2 := Lib.hid hy2; have HW2 := Lib.hid hw2; clear hy2 hw2; clear hb2)
      | ((with_reducible apply at_store (.tmp 4) (.tmp 20)); refine wpList_store_row rfl 147 (.tmp 4) (.tmp 20) rfl w.heap.size #[.int .u64 x0, .slice A2 mm c2] rfl rfl 147 az Z2.out (by kernel_rfl) rfl (by simp [Value.oneCell']) ?_)
      | fail)
    refine bodyPost_ret (v := .tuple #[arrV x0 A2 mm c2, .int .i64 cd]) (by exact res_rowG Tryz.results71 _ _ w.heap.size 147 _ (0, 0) _ _ rfl rfl (setRow_heap _ w.heap.size _ _ _ (0, 0) Z2.out) Tryz.underlying147 rfl (by kernel_rfl)) rfl ?_
    exact ⟨below_setRow B2.out (Nat.le_refl _) _, A2, c2, rfl, InInts.setRow HY2.out (Ri.new_ne HW2.out s1.out) _, Ri.new_mono HW2.out (Nat.le_of_lt s1.out)⟩
  · have HI := Lib.hid (in_no a _ v1 hr)
    unfold aX9 aC9 arcode
    simp only [if_neg hr]
    clear v v1 hr
    go_enter Tryz.func71, Tryz.ntmps71
    go_wp2_with (first
      | (go_at_call 124; (refine HI.out.mono ?_); rintro e w1 ⟨rfl, rfl⟩)
      | ((with_reducible apply at_slot 12); refine Yz.wpList_build_as rfl 147 _ rfl az (by kernel_rfl) ?_)
      | ((with_reducible apply at_store (.tmp 4) (.tmp 12)); refine wpList_store_row rfl 147 (.tmp 4) (.tmp 12) rfl w.heap.size az rfl rfl 147 az Z1.out (by kernel_rfl) rfl (by simp [Value.oneCell']) ?_)
      | fail)
    refine bodyPost_ret (v := .tuple #[.agg az, .int .i64 2]) (by exact res_rowG Tryz.results71 _ _ w.heap.size 147 _ (0, 0) _ _ rfl rfl (setRow_heap _ w.heap.size _ _ _ (0, 0) Z1.out) Tryz.underlying147 rfl (by kernel_rfl)) rfl ?_
    exact ⟨below_setRow b1.out (Nat.le_refl _) _, none, 0, rfl, fun i hi => absurd hi (Nat.not_lt_zero i), none_new _⟩
end Go.Proofs.YtkdbgilnehjpmaaGreat.Va
/-
  The entries by their arrays, plainly; the document's Nothing, Entries.
-/
namespace Go.Proofs.YtkdbgilnehjpmaaGreat.Wa
open Go.ChangeShapes Go.WideShapes Go.ChangeAt Go.RowKit
open Bytes8 Blk8 Own8 OwnA OwnM OwnE LeA LeNum LeP Rows2 Ob Oc Od Ga Gb Gc Gd Gf Gi Gj Oi Oj Ok7 Ra Rc Va Dc
open Yc Yp Yd Ye Yf Yg Yh
open Rg (arcode)
open Ym (wordElt)
set_option linter.unusedVariables false
set_option linter.unusedSimpArgs false
set_option maxRecDepth 100000
/-! ## plainly -/
def nothB (n : Nat) (x : Int) : Bool := decide (x = 0) || decide ((n : Int) ≤ x)
def lastI (out : List Int) : Int := out.getLastD 0
/-- The items of an array, from the i-th on, m of them; behind them K. -/
def inA (K : List Int → List Int × Int) (E : Nat) (n ni : Int) (g : Nat → Int) : Nat → Nat → List Int → List Int × Int
  | 0, _, out => K out
  | m + 1, i, out => if (out.length : Int) = n then (out, 0) else if nothB E (g i) = true then (out, ni) else if g i ≤ lastI out then (out, 13) else inA K E n ni g m (i + 1) (out ++ [g i])
def chase (h : HD) (l : List Int) (E : Nat) (n na ni : Int) : Nat → List Int → Nat → Nat → List Int × Int
  | 0, out, _, _ => (out, 0)
  | f + 1, out, a, last => if (out.length : Int) = n then (out, 0) else if nothB E a = true then (out, na) else if a ≤ last then (out, 12) else if arcode h l E a ≠ 0 then (out, arcode h l E a) else inA (fun o => chase h l E n na ni f o (aX9 h l E a).toNat a) E n ni (arF (bodyL l a)) (aC9 h l E a) 0 out
theorem inA_full (K : List Int → List Int × Int) (E : Nat) (n ni : Int) (g : Nat → Int) (m i : Nat) (out : List Int) (h : (out.length : Int) = n) (hK : K out = (out, 0)) : inA K E n ni g m i out = (out, 0) := by
  cases m with
  | zero => exact hK
  | succ m => exact if_pos h
theorem chase_full (h : HD) (l : List Int) (E : Nat) (n na ni : Int) (f : Nat) (out : List Int) (a last : Nat) (hl : (out.length : Int) = n) : chase h l E n na ni f out a last = (out, 0) := by
  cases f with
  | zero => rfl
  | succ f => exact if_pos hl
theorem aX9_nn {h : HD} {l : List Int} {E a : Nat} (hA : AllB l) : aX9 h l E a = ((aX9 h l E a).toNat : Int) ∧ (aX9 h l E a).toNat ≤ 18446744073709551615 := by
  have hb : AllB (bodyL l a) := fun x hx => hA x (List.mem_of_mem_drop (List.mem_of_mem_take hx))
  have h1 := u8_bd hb 0
  have h2 : 0 ≤ aX9 h l E a ∧ aX9 h l E a ≤ 18446744073709551615 := by
    unfold aX9 arX
    split
    · split
      · exact h1
      · omega
    · omega
  omega
theorem arF_nn {l : List Int} {a : Nat} (hA : AllB l) (i : Nat) : 0 ≤ arF (bodyL l a) i ∧ arF (bodyL l a) i ≤ 18446744073709551615 := u8_bd (fun x hx => hA x (List.mem_of_mem_drop (List.mem_of_mem_take hx))) _
theorem aC_le {h : HD} {l : List Int} {n a : Nat} (hl : l.length ≤ 1000000) : aC9 h l n a ≤ 1000000 := by
  have hb : (bodyL l a).length ≤ l.length := by unfold bodyL; rw [List.length_take, List.length_drop]; omega
  unfold aC9
  split
  · unfold arM arN
    split <;> omega
  · omega
theorem lastI_snoc (out : List Int) (x : Int) : lastI (out ++ [x]) = x := by simp [lastI]
/-- So many as the last one says, at most. -/
def Up (E : Nat) (out : List Int) : Prop := (out.length : Int) ≤ lastI out ∧ lastI out ≤ (E : Int)
theorem Up.nil (E : Nat) : Up E [] := ⟨by simp [lastI], by simp [lastI]⟩
theorem Up.snoc {E : Nat} {out : List Int} {x : Int} (h : Up E out) (h1 : lastI out < x) (h2 : nothB E x = false) : Up E (out ++ [x]) := by
  have h3 : ¬ (E : Int) ≤ x := by simp [nothB] at h2; omega
  refine ⟨?_, ?_⟩
  · rw [lastI_snoc, List.length_append, List.length_singleton]; have := h.1; omega
  · rw [lastI_snoc]; omega
theorem last_cell (out : List Int) (m : Nat) (h : out.length = m + 1) : (out.map (Value.int .u64))[m]? = some (.int .u64 (lastI out)) := by
  rw [List.getElem?_map]
  have : out[m]? = some (lastI out) := by
    rw [show m = out.length - 1 by omega, ← List.getLast?_eq_getElem?]
    cases out with
    | nil => simp at h
    | cons x t => simp [lastI, List.getLastD_cons, List.getLast?_cons]
  rw [this]; rfl
attribute [local irreducible] HD.cells wpList Code.wp
theorem rnoth_any {gv : Nat} {h : HD} {d : Int} {A : Option Addr} {n c : Nat} {l : List Int} (x : Int) (w : World) (v : ViewR w gv h d A n c l) : Calls Tryz.prog 95 #[.pointer (some ⟨gv, 0, none⟩), .int .u64 x] w fun e w' => e = .returned (.bool (nothB n x)) ∧ w = w' := by
  have HE := Lib.hid (rvend_any w v)
  clear v
  unfold nothB
  by_cases hx : x = 0
  · subst hx
    go_enter Tryz.func95, Tryz.ntmps95
    go_wp2_with (first
      | (go_at_call 20; (refine HE.out.mono ?_); rintro e w1 ⟨rfl, rfl⟩)
      | fail)
    go_ret
    exact ⟨rfl, rfl⟩
  · have hd : (x == 0) = false := by simpa using hx
    have hd2 : decide (x = 0) = false := by simpa using hx
    rw [hd2, Bool.false_or]
    go_enter Tryz.func95, Tryz.ntmps95
    go_wp2_with (first
      | (go_at_call 20; (refine HE.out.mono ?_); rintro e w1 ⟨rfl, rfl⟩)
      | fail)
    go_ret
    exact ⟨rfl, rfl⟩
theorem noth_any {gv : Nat} {h : HD} {A : Option Addr} {n c : Nat} {l : List Int} (x : Int) (w : World) (v : ViewAt w gv h A n c l) : Calls Tryz.prog 108 #[.pointer (some ⟨gv, 0, none⟩), .int .u64 x] w fun e w' => e = .returned (.bool (nothB n x)) ∧ w = w' := by
  have HE := Lib.hid (vend_any w v)
  clear v
  unfold nothB
  by_cases hx : x = 0
  · subst hx
    go_enter Tryz.func108, Tryz.ntmps108
    go_wp2_with (first
      | (go_at_call 19; (refine HE.out.mono ?_); rintro e w1 ⟨rfl, rfl⟩)
      | fail)
    go_ret
    exact ⟨rfl, rfl⟩
  · have hd : (x == 0) = false := by simpa using hx
    have hd2 : decide (x = 0) = false := by simpa using hx
    rw [hd2, Bool.false_or]
    go_enter Tryz.func108, Tryz.ntmps108
    go_wp2_with (first
      | (go_at_call 19; (refine HE.out.mono ?_); rintro e w1 ⟨rfl, rfl⟩)
      | fail)
    go_ret
    exact ⟨rfl, rfl⟩
/-- Places told: a row of the call's own, and a code. -/
def TellL (R : List Int × Int) (w : World) (e : Ending) (w' : World) : Prop := Below w.heap.size w w' ∧ ∃ A m c, e = .returned (.tuple #[.slice A m c, .int .i64 R.2]) ∧ OwnE 23 1 w' w.heap.size A m c (R.1.map (Value.int .u64)) ∧ R.1.length = m
end Go.Proofs.YtkdbgilnehjpmaaGreat.Wa
/-
  The document's Open; the program's of what is no journal.
-/
namespace Go.Proofs.YtkdbgilnehjpmaaGreat.Vd
open Go.ChangeShapes Go.WideShapes Go.ChangeAt Go.RowKit
open Bytes8 Blk8 Own8 OwnM OwnE LeA LeNum LeP Rows2 Ob Oc Od Ga Gb Gc Gd Gf Gi Gj Gk Gl Gm Gq Gt Oi Oj Ok7 Ns Nt Ra Rc Rp Va
open Go1 (hcode rhd hread_any HTold magicB)
set_option linter.unusedVariables false
set_option linter.unusedSimpArgs false
set_option maxRecDepth 100000
theorem rwhole {w : World} {g : Nat} {T : TypeId} {h : HD} {m : Nat} (hb : Blk w g (h.cells m) T) : w.rangeAt g 0 (h.cells m) := fun j v hj => by rw [Nat.zero_add]; exact hb.cell hj
theorem rview_built (h : HD) (d : Int) (b : Value) (A : Option Addr) (n c : Nat) (e : b = .slice A n c) : Tryz.prog.built 122 [(0, .agg (h.cells 20).toArray), (1, .int .u64 d), (2, b)] = some (h.cells 20 ++ ([.int .u64 d, b] : List Value)).toArray := by subst e; kernel_rfl
def bldRV (parts : Array (Nat × Value)) : Sem Value := Instr.build 122 parts
theorem bldRV_fold (parts : Array (Nat × Value)) : Instr.build 122 parts = bldRV parts := rfl
theorem build_rview (h : HD) (d : Int) (A : Option Addr) (n c : Nat) (w : World) : (bldRV #[(0, .agg (h.cells 20).toArray), (1, .int .u64 d), (2, .slice A n c)]).run Tryz.prog w = .ok (.agg (h.cells 20 ++ ([.int .u64 d, .slice A n c] : List Value)).toArray) w := by
  unfold bldRV
  exact run_build w _ _ _ (rview_built h d _ A n c rfl)
/-- A document's view of bytes that are a journal. -/
def OpenedR (l : List Int) (E : Nat) (w : World) (e : Ending) (w' : World) : Prop := ∃ (gv : Nat) (A2 : Option Addr) (c2 : Nat), e = .returned (.tuple #[.pointer (some ⟨gv, 0, none⟩), .int .i64 0]) ∧ w.heap.size ≤ gv ∧ ViewR w' gv (hdOf l) (Ob.u8 l 248) A2 E c2 (l.take E) ∧ Below w.heap.size w w'
attribute [local irreducible] HD.cells wpList Code.wp
set_option maxHeartbeats 4000000 in
theorem open_bad (l : List Int) (A : Option Addr) (n c : Nat) (w : World) (hb : Bytes w A l) (hL : l.length = n) (hn : n ≤ 800000) (hc : n ≤ c) (hz : hcode l n ≠ 0) :
    Calls Tryz.prog 15 #[.slice A n c] w fun e w' => e = .returned (.tuple #[.pointer none, .int .i64 (hcode l n)]) ∧ Below w.heap.size w w' := by
  have HR := Lib.hid (by have k := hread_any A l n c w hb hL (by omega) hc; rw [show rhd l n = hd0 from if_neg hz] at k; exact k)
  unfold HTold at HR
  have d1 : (hcode l n != 0) = true := by simpa using hz
  generalize hcode l n = cd at *
  clear hb hL
  go_enter Tryz.func15, Tryz.ntmps15
  go_wp2_with (first
    | (go_at_call 57; ((refine HR.out.mono ?_); rintro e w1 ⟨rfl, hb1⟩; have B1 := Lib.hid hb1; clear hb1))
    | ((with_reducible apply at_store (.tmp 4) (.tmp 11)); refine wpList_store_row rfl 59 (.tmp 4) (.tmp 11) rfl w1.heap.size (hd0.cells 21).toArray rfl rfl 59 Tryz.zeroCells59 (heap_alloc_new w1 _) (cells_info _) zeros_size (HD.one _ 21) ?_)
    | fail)
  have B2 := Lib.hid (show Below w.heap.size w ((w1.alloc (.cells Tryz.zeroCells59 59)).setRow w1.heap.size (hd0.cells 21).toArray) from below_setRow (B1.out.alloc B1.out.size _) B1.out.size _)
  go_ret2
  exact ⟨rfl, B2.out⟩
set_option maxHeartbeats 4000000 in
theorem ropen_bad (l : List Int) (A : Option Addr) (n c : Nat) (w : World) (hb : Bytes w A l) (hL : l.length = n) (hn : n ≤ 800000) (hc : n ≤ c) (hz : hcode l n ≠ 0) :
    Calls Tryz.prog 16 #[.slice A n c] w fun e w' => e = .returned (.tuple #[.pointer none, .int .i64 (hcode l n)]) ∧ Below w.heap.size w w' := by
  have HR := Lib.hid (rreadHead_any A l n c w hb hL (by omega) hc)
  rw [if_neg hz, if_neg hz] at HR
  unfold RTold at HR
  have d1 : (hcode l n != 0) = true := by simpa using hz
  generalize hcode l n = cd at *
  clear hb hL
  go_enter Tryz.func16, Tryz.ntmps16
  go_wp2_with (first
    | (go_at_call 60; ((refine HR.out.mono ?_); rintro e w1 ⟨rfl, hb1⟩; have B1 := Lib.hid hb1; clear hb1))
    | ((with_reducible apply at_store (.tmp 4) (.tmp 12)); refine wpList_store_row rfl 117 (.tmp 4) (.tmp 12) rfl w1.heap.size (hd0.cells 20).toArray rfl rfl 117 Tryz.zeroCells117 (heap_alloc_new w1 _) (rcells_info _) rzeros_size (HD.one _ 20) ?_)
    | fail)
  have B2 := Lib.hid (show Below w.heap.size w ((w1.alloc (.cells Tryz.zeroCells117 117)).setRow w1.heap.size (hd0.cells 20).toArray) from below_setRow (B1.out.alloc B1.out.size _) B1.out.size _)
  go_ret2
  exact ⟨rfl, B2.out⟩
attribute [local go_sem ↓] bldRV_fold
set_option maxHeartbeats 4000000 in
theorem ropen_fine (l : List Int) (A : Option Addr) (n c : Nat) (w : World) (hb : Bytes w A l) (hL : l.length = n) (hn : n ≤ 800000) (hc : n ≤ c) (hz : hcode l n = 0) (E : Nat) (hE : endV (hdOf l) = (E : Int)) (hEB : endB (hdOf l) = true) (hEn : E ≤ n) (hok : (hdOf l).Ok 21) :
    Calls Tryz.prog 16 #[.slice A n c] w (OpenedR l E w) := by
  have HR := Lib.hid (rreadHead_any A l n c w hb hL (by omega) hc)
  rw [if_pos hz, if_pos hz, hz] at HR
  unfold RTold at HR
  have HE := Lib.hid fun (W : World) => rend_any (hdOf l) (hdOf_ok hb.1 20) W
  rw [hE, hEB] at HE
  have HB := Lib.hid hb
  unfold OpenedR
  have HLB := Lib.hid hL
  have HOk := Lib.hid hok
  have hTk : (l.take E).length = E := by rw [List.length_take]; omega
  generalize hdOf l = H at *
  generalize Ob.u8 l 248 = dp at *
  clear hok hb hL hz hE hEB
  go_enter Tryz.func16, Tryz.ntmps16
  go_upto_region 4 with (first
    | (go_at_call 60; ((refine HR.out.mono ?_); rintro e w1 ⟨rfl, hb1⟩; have B1 := Lib.hid hb1; clear hb1))
    | ((with_reducible apply at_store (.tmp 4) (.tmp 12)); refine wpList_store_row rfl 117 (.tmp 4) (.tmp 12) rfl w1.heap.size (H.cells 20).toArray rfl rfl 117 Tryz.zeroCells117 (heap_alloc_new w1 _) (rcells_info _) rzeros_size (HD.one _ 20) ?_)
    | fail)
  have R2 := Lib.hid (show Blk ((w1.alloc (.cells Tryz.zeroCells117 117)).setRow w1.heap.size (H.cells 20).toArray) w1.heap.size (H.cells 20) 117 from setRow_heap _ _ _ _ _ (0, 0) (heap_alloc_new w1 _))
  have B2 := Lib.hid (show Below w.heap.size w ((w1.alloc (.cells Tryz.zeroCells117 117)).setRow w1.heap.size (H.cells 20).toArray) from below_setRow (B1.out.alloc B1.out.size _) B1.out.size _)
  generalize (w1.alloc (.cells Tryz.zeroCells117 117)).setRow w1.heap.size (H.cells 20).toArray = w2 at *
  generalize w1.heap.size = s4 at *
  clear HR B1
  go_upto_region 5 with (first
    | ((with_reducible apply at_slot 19); refine wpList_load_row rfl 117 (.tmp 4) rfl s4 rfl 117 (H.cells 20).toArray (0, 0) _ R2.out Tryz.underlying117 rfl (rcells_info _) ?_)
    | (go_at_call 61; ((refine (HE.out _).mono ?_); rintro e w4 ⟨rfl, hb4⟩; have B4 := Lib.hid (B2.out.trans (hb4.mono B2.out.size)); have R4 := Lib.hid (R2.out.below hb4 R2.out.lt); clear hb4))
    | fail)
  have D4 := Lib.hid (show Below w4.heap.size w4 w4.drew from (Below.refl w4.heap.size w4).drew)
  have HS := Lib.hid fun (W : World) (hW : Below w4.heap.size w4 W) => show (fun W : World => W.rangeAt s4 0 (H.cells 20)) W from rwhole (R4.out.below hW R4.out.lt)
  have hcut := fun W : World => cut_hu A n c E (by omega) (by omega) W
  have BE := Lib.hid (show Below w4.heap.size w4 (w4.drew.alloc (.cells #[] 5)) from D4.out.alloc D4.out.size _)
  have HOw := Lib.hid (Own.made w4.drew w4.heap.size (Nat.le_refl _))
  have HBe := Lib.hid (show Bytes (w4.drew.alloc (.cells #[] 5)) (cutA A c 0) (l.take E) from by
    have k := Bytes.cut ((HB.out.below B4.out (Nat.le_refl _)).below BE.out (Nat.le_refl _)) c 0 E (by rw [HLB.out]; exact hc)
    rw [List.drop_zero] at k
    exact k)
  have hbld := fun (A' : Option Addr) (c' : Nat) (W : World) => build_rview H dp A' E c' W
  clear HE R2 B2 HB HLB hc
  refine wp_region_noPanic ?_
  refine wp_region_held_drew (S := fun W : World => W.rangeAt s4 0 (H.cells 20)) (by kernel_rfl) (by exact (HS.out _ D4.out)) (fun hHeld => ?_)
  refine wpAnyH_take (i := 0) (oi := ⟨some 23, _, _, _, _, _⟩) rfl (by kernel_rfl) (by kernel_rfl) (by kernel_rfl) (fun _ _ _ h => h) (yieldsIf_load_mid (by rfl) _ _ rfl _ _ rfl _ _ (fun _ h => h) Tryz.underlying117 rfl (rcells_len _)) (by assumption) ?_
  try simp only [Act.put, List.setIfInBounds_toArray, List.set_cons_zero, List.set_cons_succ]
  refine wpAnyH_take (i := 1) (oi := ⟨some 24, _, _, _, _, _⟩) (v := ?_) rfl (by kernel_rfl) (by kernel_rfl) (by kernel_rfl) (fun _ _ _ h => h) (Or.inl ⟨by rfl, ?_⟩) (by assumption) ?_
  rotate_left
  · intro W hSw; go_simp; try (with_reducible rfl)
  try simp only [Act.put, List.setIfInBounds_toArray, List.set_cons_zero, List.set_cons_succ]
  refine wpAnyH_take (i := 3) (oi := ⟨some 26, _, _, _, _, _⟩) (v := ?_) rfl (by kernel_rfl) (by kernel_rfl) (by kernel_rfl) (fun _ _ _ h => h) (Or.inl ⟨by rfl, ?_⟩) (by assumption) ?_
  rotate_left
  · intro W hSw; go_simp; try (with_reducible rfl)
  try simp only [Act.put, List.setIfInBounds_toArray, List.set_cons_zero, List.set_cons_succ]
  refine wpAnyH_take (i := 4) (oi := ⟨some 27, _, _, _, _, _⟩) (v := ?_) rfl (by kernel_rfl) (by kernel_rfl) (by kernel_rfl) (fun _ _ _ h => h) (Or.inl ⟨by rfl, ?_⟩) (by assumption) ?_
  rotate_left
  · intro W hSw; go_simp; try (with_reducible rfl)
  try simp only [Act.put, List.setIfInBounds_toArray, List.set_cons_zero, List.set_cons_succ]
  refine wpAnyH_take (i := 5) (oi := ⟨some 28, _, _, _, _, _⟩) (v := ?_) rfl (by kernel_rfl) (by kernel_rfl) (by kernel_rfl) (fun _ _ _ h => h) (Or.inl ⟨by rfl, ?_⟩) (by assumption) ?_
  rotate_left
  · intro W hSw; go_simp; try (with_reducible rfl)
  try simp only [Act.put, List.setIfInBounds_toArray, List.set_cons_zero, List.set_cons_succ]
  refine wpAnyH_ready (rs := [2]) (by kernel_rfl) (by simp) ?_
  refine AllReadyH.cons (o := ⟨some 25, _, _, _, _, _⟩) rfl (fun K hK => ?_) AllReadyH.nil
  go_simp
  skip
  try go_wp2_with fail
  refine hK.out _ _ (by exact (HS.out _ BE.out)) (fun hHeld => ?_)
  clear hK K
  try simp only [Act.put, List.setIfInBounds_toArray, List.set_cons_zero, List.set_cons_succ]
  refine wpAnyH_ready (rs := [6]) (by kernel_rfl) (by simp) ?_
  refine AllReadyH.cons (o := ⟨some 29, _, _, _, _, _⟩) rfl (fun K hK => ?_) AllReadyH.nil
  refine step_append_bytes (o := ⟨some 29, _, _, _, _, _⟩) rfl (.tmp 25) (.tmp 28) rfl w4.heap.size _ 0 0 [] rfl HOw.out (cutA A c 0) E c (l.take E) rfl HBe.out hTk (by omega) ?_
  intro A5 c5 w5 ho5 hb5
  rw [Nat.zero_add, List.nil_append] at ho5
  have HO5 := Lib.hid ho5
  have B5 := Lib.hid (BE.out.trans hb5)
  clear ho5 hb5
  refine hK.out _ _ (by exact (HS.out _ B5.out)) (fun hHeld => ?_)
  clear hK K
  try simp only [Act.put, List.setIfInBounds_toArray, List.set_cons_zero, List.set_cons_succ]
  refine wpAnyH_take (i := 7) (oi := ⟨some 30, _, _, _, _, _⟩) (v := ?_) rfl (by kernel_rfl) (by kernel_rfl) (by kernel_rfl) (fun _ _ _ h => h) (Or.inl ⟨by rfl, ?_⟩) (by assumption) ?_
  rotate_left
  · intro W hSw; go_simp; try (with_reducible rfl)
  try simp only [Act.put, List.setIfInBounds_toArray, List.set_cons_zero, List.set_cons_succ]
  refine wpAnyH_ready (rs := [8]) (by kernel_rfl) (by simp) ?_
  refine AllReadyH.cons (o := ⟨some 31, _, _, _, _, _⟩) rfl (fun K hK => ?_) AllReadyH.nil
  go_simp
  skip
  try go_wp2_with fail
  refine hK.out _ _ (by exact (HS.out _ (B5.out.alloc B5.out.size _))) (fun hHeld => ?_)
  clear hK K
  try simp only [Act.put, List.setIfInBounds_toArray, List.set_cons_zero, List.set_cons_succ]
  refine wpAnyH_take (i := 9) (oi := ⟨some 2, _, _, _, _, _⟩) (v := ?_) rfl (by kernel_rfl) (by kernel_rfl) (by kernel_rfl) (fun _ _ _ h => h) (Or.inl ⟨by rfl, ?_⟩) (by assumption) ?_
  rotate_left
  · intro W hSw; go_simp; try (with_reducible rfl)
  try simp only [Act.put, List.setIfInBounds_toArray, List.set_cons_zero, List.set_cons_succ]
  refine wpAnyH_take (i := 10) (oi := ⟨some 3, _, _, _, _, _⟩) (v := ?_) rfl (by kernel_rfl) (by kernel_rfl) (by kernel_rfl) (fun _ _ _ h => h) (Or.inl ⟨by rfl, ?_⟩) (by assumption) ?_
  rotate_left
  · intro W hSw; go_simp; try (with_reducible rfl)
  try simp only [Act.put, List.setIfInBounds_toArray, List.set_cons_zero, List.set_cons_succ]
  refine wpAnyH_done (by kernel_rfl) ?_ _
  refine NoPanic.normal ?_
  go_wp2
  go_ret2
  exact ⟨_, A5, c5, rfl, Nat.le_trans B4.out.size B5.out.size, ⟨Blk.new w5 _ _, HO5.out.bytes.below ((Below.refl _ _).alloc (Nat.le_refl _) _) (Nat.le_refl _), hTk, (own_cap HO5.out).1, (own_cap HO5.out).2, by omega, HOk.out⟩, B4.out.trans ((B5.out.alloc B5.out.size _).mono B4.out.size)⟩
end Go.Proofs.YtkdbgilnehjpmaaGreat.Vd
