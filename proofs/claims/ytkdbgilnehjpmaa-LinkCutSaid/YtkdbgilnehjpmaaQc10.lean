/-
  Texts beneath the proof, one behind the other.
-/
import Derived.Laws.ResultCell
import Derived.Laws.Rows
import Derived.Laws.Tables
import Derived.Deep.MidRow
import Derived.DeepKeys
import Derived.DeepKeys4
import Derived.Test.YtkdbgilnehjpmaaQc9
import Derived.Test.YtkdbgilnehjpmaaQc4
import Derived.Test.YtkdbgilnehjpmaaQc1
import Derived.Test.YtkdbgilnehjpmaaQc5
/-
  What the program's Read tells of an entry.
-/
namespace Go.Proofs.Ytkdbgilnehjpmaa.Yg
open Go.ChangeShapes Go.WideShapes Go.ChangeAt Go.RowKit
open Bytes8 Blk8 Own8 OwnM OwnE OwnA LeA LeAl LeNum LeB LeP RefA RefB Ob Oc Od Oe Og Oi Rows2 Kf Yc Yp Yd Ye Yf
set_option linter.unusedVariables false
set_option linter.unusedSimpArgs false
set_option maxRecDepth 100000
theorem res_row {P : Program} {fn : Func} {p u : Tmp} {ty : TypeId} (h : fn.results = #[.cell p ty, .tmp u]) (tmps : Array Value) (w : World) (g : Nat) (t : TypeId) (cs : Array Value) (fr : Nat × Nat) (d : TypeDesc) (c : Value)
    (hp : tmps.getD p undef = .pointer (some ⟨g, 0, none⟩)) (hc : tmps.getD u undef = c) (hg : w.heap[g]? = some (.cells cs t fr)) (hu : P.underlying ty = some d) (hd : (match d with | .struct _ | .array _ _ => true | _ => false) = true) (hi : (P.info? ty).map (·.size) = some cs.size) :
    (results fn tmps).run P w = .ok (.tuple #[.agg cs, c]) w := by
  rw [results_cell_tmp h, hp, hc]
  simp [asAddr, run_loadVar_row w g t ty cs fr d hg hu hd hi, Result.andThen]
theorem Blk.setRow {w : World} {g : Nat} {vs : List Value} {T : TypeId} (h : Blk w g vs T) (cs : List Value) : Blk (w.setRow g cs.toArray) g cs T := setRow_heap w g _ _ T (0, 0) h
theorem setRow_keepB {B : Nat} {w0 w : World} (hb : Below B w0 w) {g : Nat} (hg : B ≤ g) (cs : Array Value) : Below B w0 (w.setRow g cs) := below_setRow hb hg cs
/-- The same, and the items' row is new. -/
def NewIn (B : Nat) (A : Option Addr) : Prop := ∀ b off, A = some ⟨b, off, none⟩ → B ≤ b
end Go.Proofs.Ytkdbgilnehjpmaa.Yg
/-
  What the program's ReadArray and ReadTable tell.
-/
namespace Go.Proofs.Ytkdbgilnehjpmaa.Yh
open Go.ChangeShapes Go.WideShapes Go.ChangeAt Go.RowKit
open Bytes8 Blk8 Own8 OwnM OwnE OwnA LeA LeAl LeNum LeB LeP RefA RefB Ob Oc Od Oe Og Oi Rows2 Kf Yc Yp Yd Ye Yf Yg
set_option linter.unusedVariables false
set_option linter.unusedSimpArgs false
set_option maxRecDepth 100000
/-- What is told of an array. -/
def arX (l : List Int) (a : Nat) : Int := if ecode l a 6 8 8 = 0 then u8 (bodyL l a) 0 else 0
def arM (l : List Int) (a : Nat) : Nat := if ecode l a 6 8 8 = 0 then arN (bodyL l a) else 0
/-- The same, and the row is new. -/
def ArrTold2 (l : List Int) (a : Nat) (w : World) (e : Ending) (w' : World) : Prop :=
  ∃ A c, e = .returned (.tuple #[arrV (arX l a) A (arM l a) c, .int .i64 (ecode l a 6 8 8)]) ∧ Below w.heap.size w w' ∧ InInts .u64 w' A (arM l a) (arF (bodyL l a)) ∧ NewIn w.heap.size A
/-- A block of numbers that is being filled. -/
def Part1 (w : World) (g m k : Nat) (f : Nat → Int) (T : TypeId) : Prop :=
  ∃ vs : List Value, Blk w g vs T ∧ vs.length = m ∧ ∀ i, i < k → vs[i]? = some (.int .u64 (f i))
theorem Part1.new (w : World) (m : Nat) (f : Nat → Int) (T : TypeId) (g : Nat) (hg : w.heap.size = g) : Part1 (w.alloc (.cells (Array.replicate m (Value.int .u64 0)) T)) g m 0 f T :=
  ⟨List.replicate m (.int .u64 0), by subst hg; have := Blk.new w (List.replicate m (.int .u64 0)) T; simpa using this, by simp, fun i hi => absurd hi (by omega)⟩
theorem Part1.cells {w : World} {g m k : Nat} {f : Nat → Int} {T : TypeId} (hp : Part1 w g m k f T) (hk : k < m) : (∃ u, w.cell? ⟨g, k, none⟩ = some u) ∧ w.frozen? ⟨g, k, none⟩ = false := by
  obtain ⟨vs, hb, hl, _⟩ := hp
  exact ⟨⟨vs[k], hb.cell (List.getElem?_eq_getElem (by omega))⟩, hb.frozen _⟩
theorem Part1.step {w : World} {g m k : Nat} {f : Nat → Int} {T : TypeId} (hp : Part1 w g m k f T) (hk : k < m) : Part1 (w.setCell ⟨g, k, none⟩ (.int .u64 (f k))) g m (k + 1) f T := by
  obtain ⟨vs, hb, hl, hv⟩ := hp
  refine ⟨_, hb.set_ k _, by simp [hl], fun i hi => ?_⟩
  rcases Nat.lt_or_ge i k with h1 | h1
  · rw [List.getElem?_set, if_neg (by omega)]
    exact hv i h1
  · obtain rfl : i = k := by omega
    rw [List.getElem?_set, if_pos rfl, if_pos (by omega)]
theorem Part1.lt {w : World} {g m k : Nat} {f : Nat → Int} {T : TypeId} (hp : Part1 w g m k f T) : g < w.heap.size := by
  obtain ⟨vs, hb, _⟩ := hp
  exact hb.lt
theorem Part1.blk {w w' : World} {g m k : Nat} {f : Nat → Int} {T : TypeId} (hp : Part1 w g m k f T) (h : w'.heap[g]? = w.heap[g]?) : Part1 w' g m k f T := by
  obtain ⟨vs, hb, h2⟩ := hp
  exact ⟨vs, h.trans hb, h2⟩
theorem Part1.old {w : World} {g m k : Nat} {f : Nat → Int} {T : TypeId} (hp : Part1 w g m k f T) (o : Obj) : Part1 (w.alloc o).drew g m k f T := hp.blk (Below.heap_alloc w o g hp.lt)
theorem Part1.ints {w : World} {g m : Nat} {f : Nat → Int} {T : TypeId} (hp : Part1 w g m m f T) (hf : ∀ i, 0 ≤ f i ∧ f i ≤ 18446744073709551615) : InInts .u64 w (some ⟨g, 0, none⟩) m f := fun i hi => by
  obtain ⟨vs, hb, hl, hv⟩ := hp
  refine ⟨g, 0, rfl, hb.lt, by rw [Nat.zero_add]; exact hb.cell (hv i hi), ?_⟩
  have := hf i
  simp [Lit.wf, IntKind.min, IntKind.max, IntKind.signed, IntKind.bits]
  omega
theorem wordInfo : (Try.prog.info? 36).map (fun i => (i.zero, i.size, i.bytes)) = some (some (.int .u64 0), 1, 8) := by kernel_rfl
theorem make_words (p : Nat) (z : Int) (hz : z = (p : Int)) (hp : p ≤ 1000000) (w : World) :
    (Instr.makeSlice 46 (.int .i64 z) (.int .i64 z)).run Try.prog w = .ok (.slice (some ⟨w.heap.size, 0, none⟩) p p) (w.alloc (.cells (Array.replicate p (Value.int .u64 0)) 36)) := by
  subst hz
  have h := run_make_row' (P := Try.prog) 46 36 (.int .u64 0) 8 Try.underlying46 wordInfo rfl .i64 .i64 p (by omega) (by omega) w
  have e : madeCells #[Value.int .u64 0] p = Array.replicate p (Value.int .u64 0) := by
    apply Array.ext'
    rw [toList_madeCells_one]
    simp
  rw [e] at h
  exact h
theorem arrInfo : (Try.prog.info? 145).map (·.size) = some 2 := by kernel_rfl
abbrev aL (x : Int) (A : Option Addr) (n c : Nat) : List Value := [.int .u64 x, .slice A n c]
theorem InInts.setRow {k : IntKind} {w : World} {a : Option Addr} {n : Nat} {f : Nat → Int} (hi : InInts k w a n f) {g : Nat} (hg : ∀ b off, a = some ⟨b, off, none⟩ → b ≠ g) (cs : Array Value) : InInts k (w.setRow g cs) a n f := fun i hx => by
  obtain ⟨b, off, e, h1, h2, h3⟩ := hi i hx
  exact ⟨b, off, e, by simpa using h1, (cell_setRow_other w g cs _ (hg b off e)).trans h2, h3⟩
set_option maxHeartbeats 4000000 in
theorem readArray_n (A : Option Addr) (l : List Int) (n cap a : Nat) (w : World) (hb : Bytes w A l) (hL : l.length = n) (hn : n ≤ 1000000) (hc : n ≤ cap) (hcm : cap ≤ maxLen) (ha : a ≤ 18446744073709551615) :
    Calls Try.prog 82 #[.slice A n cap, .int .u64 (a : Int)] w (ArrTold2 l a w) := by
  have b0 := Lib.hid ((Below.refl w.heap.size w).alloc (Nat.le_refl _) (arrC 145 0 none 0 0))
  have R0 := Lib.hid (show Blk (w.alloc (arrC 145 0 none 0 0)) w.heap.size (aL 0 none 0 0) 145 from Blk.new w _ _)
  have HBo := Lib.hid (bodyOf_z A l n cap a 8 8 6 8 8 (w.alloc (arrC 145 0 none 0 0)) (hb.below b0.out (Nat.le_refl _)) hL hn hc hcm ha (by decide) (by decide) (by decide) (by decide) rfl rfl)
  unfold Bodied2 at HBo
  have HAb := Lib.hid (body_all (a := a) hb.1)
  have hno : ecode l a 6 8 8 ≠ 0 → arX l a = 0 ∧ arM l a = 0 := fun h => ⟨if_neg h, if_neg h⟩
  have hyes : ecode l a 6 8 8 = 0 → arX l a = u8 (bodyL l a) 0 ∧ arM l a = arN (bodyL l a) := fun h => ⟨if_pos h, if_pos h⟩
  by_cases h1 : ecode l a 6 8 8 ≠ 0
  · have HF := Lib.hid (hno h1)
    have HX := Lib.hid h1
    obtain ⟨cd, hcd⟩ : ∃ cd, cd = ecode l a 6 8 8 := ⟨_, rfl⟩
    rw [← hcd] at HBo HX h1
    have HCe := Lib.hid hcd
    clear hcd hno hyes hb hL
    go_enter Try.func82, Try.ntmps82
    go_wp2_with (first
      | (go_at_call 87; (with_reducible refine HBo.out.mono ?_); rintro e w2 ⟨B, m, cb, rfl, hbel, _⟩; have R2 := Lib.hid (R0.out.below hbel R0.out.lt); have HB2 := Lib.hid (b0.out.trans (hbel.mono b0.out.size)); clear hbel)
      | (refine wpList_store_row rfl 145 (.tmp 4) (.tmp 18) rfl w.heap.size _ rfl rfl 145 _ R2.out arrInfo rfl (by simp [Value.oneCell']) ?_))
    refine bodyPost_ret (v := .tuple #[arrV 0 none 0 0, .int .i64 cd]) (by exact res_row Try.results82 _ _ w.heap.size 145 _ (0, 0) _ _ rfl rfl (Blk.setRow R2.out (aL 0 none 0 0)) Try.underlying145 rfl arrInfo) rfl ?_
    unfold ArrTold2
    rw [HF.out.1, HF.out.2, ← HCe.out]
    exact ⟨none, 0, rfl, setRow_keepB HB2.out (Nat.le_refl _) _, fun i hi => absurd hi (by omega), fun b off e => by cases e⟩
  · have h0 : ecode l a 6 8 8 = 0 := by omega
    obtain ⟨_, _, hlen, hmod, hln⟩ := ecode_there hL h0
    rw [h0] at HBo
    have HCe := Lib.hid h0
    have HF := Lib.hid (hyes h0)
    have HNu := Lib.hid fun (i : Nat) (z : Int) (B : Option Addr) (m cb : Nat) (W : World) (hB : Bytes W B (bodyL l a)) (hm : (bodyL l a).length = m) (hz : z = (i : Int)) (hi : i + 8 ≤ m) => number_e B (bodyL l a) m cb i z W hB hm (by omega) hi hz
    have HM := Lib.hid fun (m : Nat) (hm : (bodyL l a).length = m) => show 16 ≤ m ∧ m ≤ 1000000 ∧ arN (bodyL l a) = (m - 8) / 8 from ⟨by omega, by omega, by unfold arN; rw [hm]⟩
    clear hno hyes hb hL h1 h0 hlen hmod hln
    generalize hbd0 : bodyL l a = bd at *
    have HBD := Lib.hid hbd0
    clear hbd0
    go_enter Try.func82, Try.ntmps82
    go_upto_region 4 with (go_at_call 87; (with_reducible refine HBo.out.mono ?_); rintro e w2 ⟨B, m, cb, rfl, hbel, hbd⟩)
    obtain ⟨d1, d2, d3, d4, d5⟩ := hbd (by first | rfl | trivial)
    have R2 := Lib.hid (R0.out.below hbel R0.out.lt)
    have HB2 := Lib.hid (b0.out.trans (hbel.mono b0.out.size))
    have D1 := Lib.hid d1
    have D2 := Lib.hid d2
    obtain ⟨hm16, hmx, htn⟩ := HM.out m d2
    obtain ⟨t, ht⟩ : ∃ t, t = (m - 8) / 8 := ⟨_, rfl⟩
    rw [← ht] at htn
    have hs8 : IntKind.i64.wrap ((m : Int) - 8) = (m : Int) - 8 := by rw [IntKind.wrap_i64]; omega
    have hq : ((m : Int) - 8).tdiv 8 = (t : Int) := by rw [Int.tdiv_eq_ediv_of_nonneg (by omega)]; omega
    have hq2 : ((m : Int) - 8) / 8 = (t : Int) := by omega
    have hq3 : IntKind.i64.wrap (t : Int) = (t : Int) := by rw [IntKind.wrap_i64]; omega
    have hmk := make_words t (t : Int) rfl (by omega)
    have HTN := Lib.hid htn
    have h8 : 8 * t + 8 ≤ m := by omega
    have HS0 := Lib.hid (Nat.le_refl w2.heap.size)
    clear d1 d2 hbel hbd htn ht
    have Ba := Lib.hid ((Below.refl w2.heap.size w2).alloc (Nat.le_refl _) (.cells (Array.replicate t (Value.int .u64 0)) 36))
    have Bb := Lib.hid ((Below.refl w2.heap.size w2).alloc (Nat.le_refl _) (arrC 145 0 none 0 0))
    have Da := Lib.hid (D1.out.below Ba.out (Nat.le_refl _)).drew
    have Db := Lib.hid (D1.out.below Bb.out (Nat.le_refl _)).drew
    have Dc := Lib.hid (D1.out.below (Ba.out.alloc Ba.out.size (arrC 145 0 none 0 0)) (Nat.le_refl _)).drew
    have Dd := Lib.hid (D1.out.below (Bb.out.alloc Bb.out.size (.cells (Array.replicate t (Value.int .u64 0)) 36)) (Nat.le_refl _)).drew
    go_cut [8] from 20 to 27 (fun z wx => ∃ (g gi : Nat), z = .pointer (some ⟨g, 0, none⟩) ∧ g ≠ gi ∧ Hid (Blk wx g (aL (u8 bd 0) (some ⟨gi, 0, none⟩) t t) 145) ∧ Hid (Part1 wx gi t 0 (arF bd) 36) ∧ Hid (Below w2.heap.size w2 wx) ∧ Hid (w2.heap.size ≤ g ∧ w2.heap.size ≤ gi))
    case first =>
      go_region_held3 (fun w' => True) (first | (with_reducible exact trivial)) (first
        | (go_at_call 88; (with_reducible refine (HNu.out 0 0 _ _ _ _ D1.out.drew D2.out rfl (by omega)).mono ?_); rintro e w' ⟨rfl, rfl⟩)
        | (go_at_call 88; (with_reducible refine (HNu.out 0 0 _ _ _ _ Da.out D2.out rfl (by omega)).mono ?_); rintro e w' ⟨rfl, rfl⟩)
        | (go_at_call 88; (with_reducible refine (HNu.out 0 0 _ _ _ _ Db.out D2.out rfl (by omega)).mono ?_); rintro e w' ⟨rfl, rfl⟩)
        | (go_at_call 88; (with_reducible refine (HNu.out 0 0 _ _ _ _ Dc.out D2.out rfl (by omega)).mono ?_); rintro e w' ⟨rfl, rfl⟩)
        | (go_at_call 88; (with_reducible refine (HNu.out 0 0 _ _ _ _ Dd.out D2.out rfl (by omega)).mono ?_); rintro e w' ⟨rfl, rfl⟩))
      all_goals
        go_wp2_with fail
        go_meet
        case rel =>
          first
          | exact ⟨w2.heap.size + 1, w2.heap.size, rfl, by omega, Lib.hid (Blk.new_at (w2.alloc (.cells (Array.replicate t (Value.int .u64 0)) 36)) (aL (u8 bd 0) (some ⟨w2.heap.size, 0, none⟩) t t) 145 (w2.heap.size + 1) (by simp)).drew, Lib.hid (Part1.old (Part1.new w2 t (arF bd) 36 w2.heap.size rfl) _), Lib.hid (Ba.out.alloc Ba.out.size _).drew, Lib.hid ⟨by omega, Nat.le_refl _⟩⟩
          | exact ⟨w2.heap.size, w2.heap.size + 1, rfl, by omega, Lib.hid ((Blk.new_at w2 (aL (u8 bd 0) (some ⟨w2.heap.size + 1, 0, none⟩) t t) 145 w2.heap.size rfl).alloc _).drew, Lib.hid (Part1.new (w2.alloc (.cells (aL (u8 bd 0) (some ⟨w2.heap.size + 1, 0, none⟩) t t).toArray 145)) t (arF bd) 36 (w2.heap.size + 1) (by simp)), Lib.hid ((((Below.refl w2.heap.size w2).alloc (Nat.le_refl _) _).alloc (by simp) _).drew), Lib.hid ⟨Nat.le_refl _, by omega⟩⟩
    case rest =>
      obtain ⟨g, gi, rfl, hgg, E3, P3, B3, G3⟩ := hcut
      clear Ba Bb Da Db Dc Dd hmk hq hq2 hq3 hs8
      have HGG := Lib.hid hgg
      have q1 := E3.out.cell (i := 1) rfl
      go_wp2_with fail
      go_loopw [31] (fun i wr => ∃ k : Nat, k ≤ t ∧ i = .int .i64 (k : Int) ∧ Hid (Part1 wr gi t k (arF bd) 36) ∧ Hid (Blk wr g (aL (u8 bd 0) (some ⟨gi, 0, none⟩) t t) 145) ∧ Hid (Below w2.heap.size w2 wr)) (fun i _ => t - (intOf i).toNat)
      case atStart => exact ⟨0, Nat.zero_le _, rfl, P3, E3, B3⟩
      case round =>
        obtain ⟨k, hk, rfl, hp, he, hb⟩ := hrel
        have r0 := he.out.cell (i := 0) rfl
        have r1 := he.out.cell (i := 1) rfl
        by_cases hlt : k < t
        · obtain ⟨⟨v1, c1⟩, f1⟩ := hp.out.cells hlt
          have r1d : wr.drew.cell? ⟨g, 1, none⟩ = some (.slice (some ⟨gi, 0, none⟩) t t) := r1
          have r1s : (wr.setCell ⟨gi, k, none⟩ (.int .u64 (u8 bd (8 + 8 * k)))).drew.cell? ⟨g, 1, none⟩ = some (.slice (some ⟨gi, 0, none⟩) t t) := (he.out.far (p := ⟨gi, k, none⟩) (fun e => HGG.out e) _).drew.cell (i := 1) rfl
          have c1d : wr.drew.cell? ⟨gi, k, none⟩ = some v1 := c1
          have f1d : wr.drew.frozen? ⟨gi, k, none⟩ = false := f1
          have HS := Lib.hid (hp.out.step hlt)
          have hp1 : arF bd k = u8 bd (8 + 8 * k) := rfl
          rw [hp1] at HS
          have Dr := Lib.hid (D1.out.below hb.out (Nat.le_refl _)).drew
          have hw1 : IntKind.i64.wrap ((k : Int) * 8) = (k : Int) * 8 := by rw [IntKind.wrap_i64]; omega
          have hw2 : IntKind.i64.wrap (8 + (k : Int) * 8) = 8 + (k : Int) * 8 := by rw [IntKind.wrap_i64]; omega
          have hk0 : (0 : Int) ≤ (k : Int) := by omega
          have hkt : (k : Int) < (t : Int) := by omega
          go_wp2_with fail
          go_region_held3 (fun W => W.cell? ⟨g, 1, none⟩ = some (.slice (some ⟨gi, 0, none⟩) t t)) (first | (with_reducible exact r1d) | (with_reducible exact r1s) | go_keep) (first
            | (go_at_call 88; (with_reducible refine (HNu.out (8 + 8 * k) _ _ _ _ _ Dr.out D2.out (by omega) (by omega)).mono ?_); rintro e w' ⟨rfl, rfl⟩))
          all_goals
            go_wp2
            go_roundw
            case rel => exact ⟨k + 1, by omega, by go_num, Lib.hid (HS.out.blk rfl), Lib.hid ((he.out.far (fun e => HGG.out e) _).drew), Lib.hid ((hb.out.setCell G3.out.2 _).drew)⟩
            case measure => simp [intOf]; omega
        · obtain rfl : k = t := by omega
          have HI := Lib.hid (hp.out.ints (fun i => u8_bd HAb.out _))
          have R3 := Lib.hid (R2.out.below hb.out R2.out.lt)
          have W3 := Lib.hid (HB2.out.trans (hb.out.mono HB2.out.size))
          have HNe := Lib.hid (show gi ≠ w.heap.size by have h1 := G3.out.2; have h2 := R2.out.lt; omega)
          have HNw := Lib.hid (show w.heap.size ≤ gi by have h1 := G3.out.2; have h2 := R2.out.lt; omega)
          go_wp2_with (first
            | (refine wpList_load_row rfl 145 (.tmp 8) rfl g rfl 145 (aL (u8 bd 0) (some ⟨gi, 0, none⟩) k k).toArray (0, 0) _ he.out Try.underlying145 rfl arrInfo ?_)
            | (refine wpList_store_row rfl 145 (.tmp 4) (.tmp 44) rfl w.heap.size (aL (u8 bd 0) (some ⟨gi, 0, none⟩) k k).toArray rfl rfl 145 _ R3.out arrInfo rfl (by simp [Value.oneCell']) ?_))
          refine bodyPost_ret (v := .tuple #[arrV (u8 bd 0) (some ⟨gi, 0, none⟩) k k, .int .i64 0]) (by exact res_row Try.results82 _ _ w.heap.size 145 _ (0, 0) _ _ rfl rfl (Blk.setRow R3.out (aL (u8 bd 0) (some ⟨gi, 0, none⟩) k k)) Try.underlying145 rfl arrInfo) rfl ?_
          unfold ArrTold2
          rw [HCe.out, HF.out.1, HF.out.2, HTN.out, HBD.out]
          exact ⟨_, k, rfl, setRow_keepB W3.out (Nat.le_refl _) _, InInts.setRow HI.out (fun b off e => by injection e with e; injection e with e; have := HNe.out; omega) _, fun b off e => by injection e with e; injection e with e; have := HNw.out; omega⟩
end Go.Proofs.Ytkdbgilnehjpmaa.Yh
/-
  Sixteen bytes compared; a load from the middle of a row under a guard.
-/
namespace Go.Proofs.Ytkdbgilnehjpmaa.Yq
open Go.ChangeShapes Go.WideShapes Go.ChangeAt Go.RowKit
open Bytes8 Blk8 Own8 OwnM OwnE OwnA Rows2 Ob Yc Yp Yd Yg
set_option linter.unusedVariables false
set_option linter.unusedSimpArgs false
set_option maxRecDepth 100000
end Go.Proofs.Ytkdbgilnehjpmaa.Yq
/-
  What was put is read: arrays, tables, entries: plain.
-/
namespace Go.Proofs.Ytkdbgilnehjpmaa.Yj
open Go.ChangeShapes Go.WideShapes Go.ChangeAt Go.RowKit
open Bytes8 Blk8 LeNum Ob Rows2 Yc Yp Yd Yg Yh
set_option linter.unusedVariables false
set_option linter.unusedSimpArgs false
set_option maxRecDepth 100000
/-! ## an array -/
/-! ## a table -/
end Go.Proofs.Ytkdbgilnehjpmaa.Yj
/-
  Rows of numbers held against each other; slots that a statement gathers.
-/
namespace Go.Proofs.Ytkdbgilnehjpmaa.Yi
open Go.ChangeShapes Go.WideShapes Go.ChangeAt Go.RowKit
open Bytes8 Blk8 Own8 OwnM OwnE OwnA LeNum Ob Rows2 Dc Yc Yp Yd Yg Yh Yj
set_option linter.unusedVariables false
set_option linter.unusedSimpArgs false
set_option maxRecDepth 100000
end Go.Proofs.Ytkdbgilnehjpmaa.Yi
/-
  Two small laws: a row of elements behind a store elsewhere; a struct built, its cells said.
-/
namespace Go.Proofs.Ytkdbgilnehjpmaa.Yz
open Go.ChangeShapes Go.WideShapes Go.ChangeAt Go.RowKit
open Bytes8 Blk8 Own8 OwnM OwnE OwnA Rows2 Ob Yc Yp Yd Yg Yi
set_option linter.unusedVariables false
set_option linter.unusedSimpArgs false
end Go.Proofs.Ytkdbgilnehjpmaa.Yz
/-
  What the document reads of tables and arrays.
-/
namespace Go.Proofs.Ytkdbgilnehjpmaa.Yl
open Go.ChangeShapes Go.WideShapes Go.ChangeAt Go.RowKit
open Bytes8 Blk8 Own8 OwnM OwnE OwnA LeA LeAl LeNum LeB LeP RefA RefB Ob Oc Od Oe Og Oi Rows2 Kf Yc Yp Yd Ye Yg Yh Yj Yi
set_option linter.unusedVariables false
set_option linter.unusedSimpArgs false
set_option maxRecDepth 100000
end Go.Proofs.Ytkdbgilnehjpmaa.Yl
/-
  What the document reads of arrays.
-/
namespace Go.Proofs.Ytkdbgilnehjpmaa.Ym
open Go.ChangeShapes Go.WideShapes Go.ChangeAt Go.RowKit
open Bytes8 Blk8 Own8 OwnM OwnE OwnA Dc LeA LeAl LeNum LeB LeP RefA RefB Ob Oc Od Oe Og Oi Rows2 Kf Yc Yp Yd Ye Yg Yh Yj Yi Yl
set_option linter.unusedVariables false
set_option linter.unusedSimpArgs false
set_option maxRecDepth 100000
theorem wordElt : Elt 36 46 1 8 (.int .u64 0) := ⟨Try.underlying46, by kernel_rfl, rfl, by decide⟩
end Go.Proofs.Ytkdbgilnehjpmaa.Ym
/-
  What the document reads of an entry.
-/
namespace Go.Proofs.Ytkdbgilnehjpmaa.Yn
open Go.ChangeShapes Go.WideShapes Go.ChangeAt Go.RowKit
open Bytes8 Blk8 Own8 OwnM OwnE OwnA Dc LeA LeAl LeNum LeB LeP RefA RefB Ob Oc Od Oe Og Oi Rows2 Kf Yc Yp Yd Ye Yg Yh Yj Yi Yl Ym
set_option linter.unusedVariables false
set_option linter.unusedSimpArgs false
set_option maxRecDepth 100000
end Go.Proofs.Ytkdbgilnehjpmaa.Yn
/-
  The document's writer's small calls: eight bytes put into its image; the room of an array.
-/
namespace Go.Proofs.Ytkdbgilnehjpmaa.Mb
open Go.ChangeShapes Go.WideShapes Go.ChangeAt Go.RowKit
open Bytes8 Blk8 Own8 OwnM OwnE LeA LeNum LeB LeP RefA RefB Ob Oc Od Ga Ma Kf
set_option linter.unusedVariables false
set_option linter.unusedSimpArgs false
set_option maxRecDepth 100000
theorem room_any (k : Nat) (w : World) : Calls Try.prog 64 #[.int .i64 (k : Int)] w fun e w' => e = .returned (.int .i64 (roomN k : Nat)) ∧ w = w' := by
  by_cases h : 6 < k
  · have d1 : decide ((6 : Int) < (k : Int)) = true := by simp; omega
    rw [show roomN k = 256 by unfold roomN; rw [if_pos h]]
    go_enter Try.func64, Try.ntmps64
    go_wp2
    go_ret
    exact ⟨rfl, rfl⟩
  · rcases k with _ | _ | _ | _ | _ | _ | _ | k
    all_goals first
      | omega
      | (go_enter Try.func64, Try.ntmps64
         go_wp2
         go_ret
         exact ⟨rfl, rfl⟩)
/-- A byte of a row of the call's own is set. -/
theorem own_set {w : World} {base g n c : Nat} {l : List Int} (h : Own w base (some ⟨g, 0, none⟩) n c l) (i : Nat) {x : Int} (h0 : 0 ≤ x) (h1 : x < 256) : Own (w.setCell ⟨g, i, none⟩ (.int .u8 x)) base (some ⟨g, 0, none⟩) n c (l.set i x) := by
  refine ⟨h.1.set i h0 h1, by rw [List.length_set]; exact h.2.1, by simpa using h.2.2.1, ?_⟩
  have := (h.2.2.2.stored i (.int .u8 x)).1
  rw [List.map_set]
  exact this
theorem own_lt {w : World} {base g n c : Nat} {l : List Int} (h : Own w base (some ⟨g, 0, none⟩) n c l) : base ≤ g ∧ g < w.heap.size := h.lt g rfl
/-- What a call leaves that sets bytes of one row alone. -/
structure Put8 (bb : Nat) (w w' : World) : Prop where
  kept : KeptF (One bb) w w'
  size : w'.heap.size = w.heap.size
theorem Put8.refl (bb : Nat) (w : World) : Put8 bb w w := ⟨KeptF.refl _ _, rfl⟩
theorem Put8.set {bb : Nat} {w0 w : World} (h : Put8 bb w0 w) (i : Nat) (u : Value) : Put8 bb w0 (w.setCell ⟨bb, i, none⟩ u) := ⟨h.kept.setCell (p := ⟨bb, i, none⟩) (fun _ => (rfl : bb = bb)) u, by simpa using h.size⟩
theorem Put8.trans {bb : Nat} {a b c : World} (h : Put8 bb a b) (k : Put8 bb b c) : Put8 bb a c := ⟨h.kept.trans k.kept fun _ _ h => h, k.size.trans h.size⟩
theorem blk_keptF {F : Nat → Prop} {w w' : World} {g : Nat} {vs : List Value} {T : TypeId} (h : Blk w g vs T) (hk : KeptF F w w') (hF : ¬ F g) : Blk w' g vs T := (hk.block g h.lt hF).trans h
theorem put_any (g bb cb n a : Nat) (cs : List Value) (T : TypeId) (l : List Int) (v : Int) (B : Nat) (w : World) (hs : Blk w g cs T) (h3 : cs[143]? = some (.slice (some ⟨bb, 0, none⟩) n cb)) (hb : Own w B (some ⟨bb, 0, none⟩) n cb l) (hne : g ≠ bb) (ha : a + 8 ≤ n) (hn : n ≤ 4000000) :
    Calls Try.prog 42 #[.pointer (some ⟨g, 0, none⟩), .int .u64 (a : Int), .int .u64 v] w fun e w' => e = .returned (.tuple #[]) ∧ Own w' B (some ⟨bb, 0, none⟩) n cb (put8 l a v) ∧ Put8 bb w w' := by
  have HS := Lib.hid hs
  have H3 := Lib.hid h3
  have HL := Lib.hid hb.2.1
  clear hs h3
  go_enter Try.func42, Try.ntmps42
  go_wp2
  go_loopw [6] (fun i wr => ∃ k : Nat, k ≤ 8 ∧ i = .int .i64 (k : Int) ∧ Hid (Own wr B (some ⟨bb, 0, none⟩) n cb (over l a (lowB v k))) ∧ Hid (Put8 bb w wr)) (fun i _ => 8 - (intOf i).toNat)
  case atStart => exact ⟨0, Nat.zero_le _, rfl, Lib.hid (by rw [show lowB v 0 = [] from rfl, over_nil]; exact hb), Lib.hid (Put8.refl _ _)⟩
  case round =>
    obtain ⟨k, hk, rfl, hO, hP⟩ := hrel
    by_cases hlt : k < 8
    · have c3 := (blk_keptF HS.out hP.out.kept hne).cell H3.out
      have hcell := hO.out.2.2.2.cellAt (a + k) (by omega)
      have hfr := hO.out.2.2.2.frozenAt (a + k)
      obtain ⟨z, hz2⟩ : ∃ z, (over l a (lowB v k))[a + k]? = some z := ⟨_, List.getElem?_eq_getElem (by rw [hO.out.2.1]; omega)⟩
      rw [List.getElem?_map, hz2] at hcell
      clear hz2
      have HSt := Lib.hid (own_set hO.out (a + k) (Int.emod_nonneg (v / 256 ^ k) (by decide : (256 : Int) ≠ 0)) (Int.emod_lt_of_pos (v / 256 ^ k) (by decide)))
      rw [show (over l a (lowB v k)).set (a + k) (v / 256 ^ k % 256) = over l a (lowB v (k + 1)) by
        have e := over_step l a (lowB v k) (v / 256 ^ k % 256) (by rw [lowB_len, HL.out]; omega)
        rw [lowB_len] at e
        rw [lowB_succ, e]] at HSt
      rw [← two_pow_8] at HSt
      have hpk : a + k < n := by omega
      generalize hpk2 : a + k = pk at *
      go_wp2
      go_roundw
      case rel => exact ⟨k + 1, by omega, by go_num, HSt, Lib.hid (hP.out.set _ _)⟩
      case measure => simp [intOf]; omega
    · obtain rfl : k = 8 := by omega
      go_wp2
      go_end0
      exact ⟨rfl, hO.out, hP.out⟩
theorem put_at (g bb cb n a : Nat) (z : Int) (hz : z = (a : Int)) (cs : List Value) (T : TypeId) (l : List Int) (v : Int) (B : Nat) (w : World) (hs : Blk w g cs T) (h3 : cs[143]? = some (.slice (some ⟨bb, 0, none⟩) n cb)) (hb : Own w B (some ⟨bb, 0, none⟩) n cb l) (hne : g ≠ bb) (ha : a + 8 ≤ n) (hn : n ≤ 4000000) :
    Calls Try.prog 42 #[.pointer (some ⟨g, 0, none⟩), .int .u64 z, .int .u64 v] w fun e w' => e = .returned (.tuple #[]) ∧ Own w' B (some ⟨bb, 0, none⟩) n cb (put8 l a v) ∧ Put8 bb w w' := by
  subst hz; exact put_any g bb cb n a cs T l v B w hs h3 hb hne ha hn
end Go.Proofs.Ytkdbgilnehjpmaa.Mb
/-
  The document's writer in memory: its cells, one set at a time.
-/
namespace Go.Proofs.Ytkdbgilnehjpmaa.Mc
open Go.ChangeShapes Go.WideShapes Go.ChangeAt Go.RowKit
open Bytes8 Blk8 Own8 OwnM OwnA OwnE LeA LeNum LeB LeP RefA RefB Ob Oc Od Ga Ma Kf Mb
set_option linter.unusedVariables false
set_option linter.unusedSimpArgs false
set_option maxRecDepth 100000
/-- The four slices of a writer. -/
structure Sl where
  b : Value
  d : Value
  f : Value
  m : Value
def Cf.at_ (C : Cf) (i : Nat) : Value :=
  if i < 48 then (if i < 16 then .int .u8 (C.F i) else if i < 32 then .int .u8 (C.M (i - 16)) else .int .u8 (C.S (i - 32)))
  else if i = 48 then .int .i64 (C.ds : Int) else if i = 49 then .int .i64 (C.fs : Int) else if i = 50 then .int .i64 (C.most : Int) else .bool C.keyed
def Mk.at_ (m : Mk) (S : Sl) (i : Nat) : Value :=
  if i < 142 then (if i < 52 then Cf.at_ m.C i else m.h.at_ 20 (i - 52))
  else if i = 142 then .int .u64 (m.depth : Int) else if i = 143 then S.b else if i = 144 then S.d else if i = 145 then S.f else S.m
def Mk.cells (m : Mk) (S : Sl) : List Value := (List.range 147).map (Mk.at_ m S)
theorem Mk.len (m : Mk) (S : Sl) : (Mk.cells m S).length = 147 := by simp [Mk.cells]
theorem Mk.get (m : Mk) (S : Sl) (i : Nat) (hi : i < 147) : (Mk.cells m S)[i]? = some (Mk.at_ m S i) := by simp [Mk.cells, hi]
theorem Mk.get_N (m : Mk) (S : Sl) (i : Nat) (hi : i < 20) : (Mk.cells m S)[119 + i]? = some (.int .u64 (m.h.N i)) := by
  rw [Mk.get m S _ (by omega)]
  unfold Mk.at_
  rw [if_pos (by omega), if_neg (by omega), show 119 + i - 52 = 67 + i by omega]
  have := m.h.get_N 20 i hi
  rw [m.h.get 20 _ (by omega)] at this
  exact this
theorem Mk.get_depth (m : Mk) (S : Sl) : (Mk.cells m S)[142]? = some (.int .u64 (m.depth : Int)) := by rw [Mk.get m S _ (by decide)]; rfl
theorem Mk.get_b (m : Mk) (S : Sl) : (Mk.cells m S)[143]? = some S.b := by rw [Mk.get m S _ (by decide)]; rfl
theorem Mk.get_d (m : Mk) (S : Sl) : (Mk.cells m S)[144]? = some S.d := by rw [Mk.get m S _ (by decide)]; rfl
theorem Mk.get_f (m : Mk) (S : Sl) : (Mk.cells m S)[145]? = some S.f := by rw [Mk.get m S _ (by decide)]; rfl
theorem Mk.get_m (m : Mk) (S : Sl) : (Mk.cells m S)[146]? = some S.m := by rw [Mk.get m S _ (by decide)]; rfl
theorem Mk.get_ds (m : Mk) (S : Sl) : (Mk.cells m S)[48]? = some (.int .i64 (m.C.ds : Int)) := by rw [Mk.get m S _ (by decide)]; rfl
theorem Mk.get_fs (m : Mk) (S : Sl) : (Mk.cells m S)[49]? = some (.int .i64 (m.C.fs : Int)) := by rw [Mk.get m S _ (by decide)]; rfl
theorem Mk.get_most (m : Mk) (S : Sl) : (Mk.cells m S)[50]? = some (.int .i64 (m.C.most : Int)) := by rw [Mk.get m S _ (by decide)]; rfl
theorem Mk.get_F (m : Mk) (S : Sl) (i : Nat) (hi : i < 16) : (Mk.cells m S)[i]? = some (.int .u8 (m.C.F i)) := by
  rw [Mk.get m S _ (by omega)]
  unfold Mk.at_ Cf.at_
  rw [if_pos (by omega), if_pos (by omega), if_pos (by omega), if_pos hi]
abbrev fileV (C : Cf) : List Value := [.int .u8 (C.F 0), .int .u8 (C.F 1), .int .u8 (C.F 2), .int .u8 (C.F 3), .int .u8 (C.F 4), .int .u8 (C.F 5), .int .u8 (C.F 6), .int .u8 (C.F 7), .int .u8 (C.F 8), .int .u8 (C.F 9), .int .u8 (C.F 10), .int .u8 (C.F 11), .int .u8 (C.F 12), .int .u8 (C.F 13), .int .u8 (C.F 14), .int .u8 (C.F 15)]
theorem Mk.file_range {w : World} {g : Nat} {T : TypeId} {m : Mk} {S : Sl} (hb : Blk w g (Mk.cells m S) T) : w.rangeAt g 0 (fileV m.C) := fun j v hj => by
  have hl : j < 16 := (List.getElem?_eq_some_iff.1 hj).1
  have h2 := hb.cell (Mk.get_F m S j hl)
  have e : (fileV m.C)[j]? = some (.int .u8 (m.C.F j)) := by
    rcases j with _ | _ | _ | _ | _ | _ | _ | _ | _ | _ | _ | _ | _ | _ | _ | _ | j
    all_goals first | rfl | omega
  rw [e] at hj
  injection hj with hj
  subst hj
  rw [Nat.zero_add]
  exact h2
theorem Mk.get_keyed (m : Mk) (S : Sl) : (Mk.cells m S)[51]? = some (.bool m.C.keyed) := by rw [Mk.get m S _ (by decide)]; rfl
theorem set_map (f f' : Nat → Value) (n i : Nat) (v : Value) (h1 : f' i = v) (h2 : ∀ j, j ≠ i → f' j = f j) : ((List.range n).map f).set i v = (List.range n).map f' := by
  apply List.ext_getElem?
  intro j
  rw [List.getElem?_set]
  by_cases hj : j < n
  · by_cases he : i = j
    · subst he
      simp [hj, h1]
    · rw [if_neg he]
      simp [hj, h2 j (fun e => he e.symm)]
  · simp [hj]
    omega
theorem at_N (m : Mk) (S : Sl) (i : Nat) (hi : i < 20) : Mk.at_ m S (119 + i) = .int .u64 (m.h.N i) := by
  have := Mk.get_N m S i hi
  rw [Mk.get m S _ (by omega)] at this
  injection this
theorem Mk.set_N (m : Mk) (S : Sl) (i : Nat) (hi : i < 20) (v : Int) : (Mk.cells m S).set (119 + i) (.int .u64 v) = Mk.cells { m with h := setN m.h i v } S := by
  refine set_map _ _ _ _ _ ?_ fun j hj => ?_
  · rw [at_N _ _ _ hi]; simp [setN]
  · unfold Mk.at_
    by_cases h1 : j < 142
    · rw [if_pos h1, if_pos h1]
      by_cases h2 : j < 52
      · rw [if_pos h2, if_pos h2]
      · rw [if_neg h2, if_neg h2]
        unfold HD.at_
        simp only [setN]
        by_cases h3 : j - 52 < 67 + 20
        · by_cases h4 : j - 52 < 67
          · simp only [h4, if_true]
          · rw [if_neg (by omega), if_neg h4, if_pos h3, if_neg (by omega), if_neg h4, if_pos h3, if_neg (by omega)]
        · simp only [h3, if_false]
    · rw [if_neg h1, if_neg h1]
theorem Mk.set_Nk (m : Mk) (S : Sl) (i k : Nat) (hi : i < 20) (hk : k = 119 + i) (v : Int) : (Mk.cells m S).set k (.int .u64 v) = Mk.cells { m with h := setN m.h i v } S := by subst hk; exact Mk.set_N m S i hi v
theorem Mk.get_Nk (m : Mk) (S : Sl) (i k : Nat) (hi : i < 20) (hk : k = 119 + i) : (Mk.cells m S)[k]? = some (.int .u64 (m.h.N i)) := by subst hk; exact Mk.get_N m S i hi
theorem Mk.set_depth (m : Mk) (S : Sl) (v : Nat) : (Mk.cells m S).set 142 (.int .u64 (v : Int)) = Mk.cells { m with depth := v } S :=
  set_map _ _ _ _ _ rfl fun j hj => by
    unfold Mk.at_
    by_cases h1 : j < 142
    · rw [if_pos h1, if_pos h1]
    · rw [if_neg h1, if_neg h1, if_neg hj, if_neg hj]
theorem Mk.set_b (m : Mk) (S : Sl) (v : Value) : (Mk.cells m S).set 143 v = Mk.cells m { S with b := v } :=
  set_map _ _ _ _ _ rfl fun j hj => by
    unfold Mk.at_
    by_cases h1 : j < 142
    · rw [if_pos h1, if_pos h1]
    · rw [if_neg h1, if_neg h1, if_neg hj, if_neg hj]
theorem Mk.set_d (m : Mk) (S : Sl) (v : Value) : (Mk.cells m S).set 144 v = Mk.cells m { S with d := v } :=
  set_map _ _ _ _ _ rfl fun j hj => by
    unfold Mk.at_
    by_cases h1 : j < 142
    · rw [if_pos h1, if_pos h1]
    · rw [if_neg h1, if_neg h1, if_neg hj, if_neg hj]
theorem Mk.set_f (m : Mk) (S : Sl) (v : Value) : (Mk.cells m S).set 145 v = Mk.cells m { S with f := v } :=
  set_map _ _ _ _ _ rfl fun j hj => by
    unfold Mk.at_
    by_cases h1 : j < 142
    · rw [if_pos h1, if_pos h1]
    · rw [if_neg h1, if_neg h1, if_neg hj, if_neg hj]
theorem Mk.set_m (m : Mk) (S : Sl) (v : Value) : (Mk.cells m S).set 146 v = Mk.cells m { S with m := v } := by
  refine (List.ext_getElem? fun j => ?_)
  rw [List.getElem?_set]
  by_cases hj : j < 147
  · by_cases he : 146 = j
    · subst he
      rw [if_pos rfl, if_pos (by rw [Mk.len]; decide), Mk.get _ _ _ hj]
      rfl
    · rw [if_neg he, Mk.get _ _ _ hj, Mk.get _ _ _ hj]
      unfold Mk.at_
      by_cases h1 : j < 142
      · rw [if_pos h1, if_pos h1]
      · rw [if_neg h1, if_neg h1]
        by_cases h2 : j = 142
        · rw [if_pos h2, if_pos h2]
        · rw [if_neg h2, if_neg h2]
          by_cases h3 : j = 143
          · rw [if_pos h3, if_pos h3]
          · rw [if_neg h3, if_neg h3]
            by_cases h4 : j = 144
            · rw [if_pos h4, if_pos h4]
            · rw [if_neg h4, if_neg h4, if_pos (by omega), if_pos (by omega)]
  · rw [if_neg (by omega), List.getElem?_eq_none (by rw [Mk.len]; omega), List.getElem?_eq_none (by rw [Mk.len]; omega)]
theorem Mk.cells_same {m m' : Mk} (h1 : m.C = m'.C) (h2 : m.h = m'.h) (h3 : m.depth = m'.depth) (S : Sl) : Mk.cells m S = Mk.cells m' S := by
  unfold Mk.cells
  congr 1
  funext i
  unfold Mk.at_
  rw [h1, h2, h3]
/-- 'append' in a walk, with what grows. -/
theorem wpList_append_g {w : World} {ops : Array Oper} {rest : List Oper} {o : Oper} {a : Act} {Q : Exit → Act → World → Prop} (hgd : o.guard = none) (s x : Operand)
    (hop : o.op = .call { callee := .builtin .append, args := #[s, x], argTypes := #[31, 31] })
    (base bb : Nat) (n c : Nat) (l : List Int) (hs : a.eval s = .slice (some ⟨bb, 0, none⟩) n c) (ho : Own w base (some ⟨bb, 0, none⟩) n c l) (hn : 0 < n) (A2 : Option Addr) (m c2 : Nat) (ys : List Int) (hx : a.eval x = .slice A2 m c2) (hb : Bytes w A2 ys) (hm : ys.length = m) (hsz : n + m ≤ 70368744177664)
    (h : ∀ b' c' w', Own w' base (some ⟨b', 0, none⟩) (n + m) c' (l ++ ys) → w.grownBy w' (some bb) → (b' = bb ∨ b' = w.heap.size) → wpList Try.prog ops Q rest (a.put o.dst (.slice (some ⟨b', 0, none⟩) (n + m) c')) w') : wpList Try.prog ops Q (o :: rest) a w :=
  wpList_plain hgd fun K hK => by
    obtain ⟨A', c', w', hr, h1, h2, h3⟩ := run_append_at w o.type base _ n c l ho A2 m c2 ys hb hm hsz
    unfold Oper.wp execOp
    simp only [hop, resolve, invoke, builtin, Sem.run_bind, Sem.run_pure, Result.andThen_ok, List.map_toArray, List.map_cons, List.map_nil, hs, hx, hr]
    rcases h1.2.2.2.2 with ⟨he, h0⟩ | ⟨g, cap, cur, hv, hbg, hg, _⟩
    · exfalso; omega
    · injection hv with e1 e2 e3
      subst e1
      refine hK _ _ (h g c' w' h1 h2 ?_)
      simpa [ownB] using h3
end Go.Proofs.Ytkdbgilnehjpmaa.Mc
