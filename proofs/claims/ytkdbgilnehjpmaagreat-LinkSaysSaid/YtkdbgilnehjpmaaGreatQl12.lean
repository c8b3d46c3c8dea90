/-
  Texts beneath the proof, one behind the other.
-/
import Derived.Laws.ResultCell
import Derived.Laws.Rows
import Derived.Laws.Tables
import Derived.Deep.MidRow
import Derived.DeepKeys
import Derived.Test.YtkdbgilnehjpmaaGreatQl11
/-
  What the program's Read tells of an entry.
-/
namespace Go.Proofs.YtkdbgilnehjpmaaGreat.Yg
open Go.ChangeShapes Go.WideShapes Go.ChangeAt Go.RowKit
open Bytes8 Blk8 Own8 OwnM OwnE OwnA LeA LeAl LeNum LeB LeP RefA RefB Ob Oc Od Oe Og Oi Rows2 Kf Yc Yp Yd Ye Yf
set_option linter.unusedVariables false
set_option linter.unusedSimpArgs false
set_option maxRecDepth 100000
theorem res_row {P : Program} {fn : Func} {p u : Tmp} {ty : TypeId} (h : fn.results = #[.cell p ty, .tmp u]) (tmps : Array Value) (w : World) (g : Nat) (t : TypeId) (cs : Array Value) (fr : Nat × Nat) (d : TypeDesc) (c : Value)
    (hp : tmps.getD p undef = .pointer (some ⟨g, 0, none⟩)) (hc : tmps.getD u undef = c) (hg : w.heap[g]? = some (.cells cs t fr)) (hu : P.underlying ty = some d) (hd : (match d with | .struct _ | .array _ _ => true | _ => false) = true) (hi : (P.info? ty).map (·.size) = some cs.size) :
    (results fn tmps).run P w = .ok (.tuple #[.agg cs, c]) w := by
  rw [results_cell_tmp h, hp, hc]
  simp [asAddr, run_loadVar_row w g t ty cs fr d hg hu hd hi, Result.andThen]
theorem Blk.setRow {w : World} {g : Nat} {vs : List Value} {T : TypeId} (h : Blk w g vs T) (cs : List Value) : Blk (w.setRow g cs.toArray) g cs T := setRow_heap w g _ _ T (0, 0) h
theorem setRow_keepB {B : Nat} {w0 w : World} (hb : Below B w0 w) {g : Nat} (hg : B ≤ g) (cs : Array Value) : Below B w0 (w.setRow g cs) := below_setRow hb hg cs
/-- The same, and the items' row is new. -/
def NewIn (B : Nat) (A : Option Addr) : Prop := ∀ b off, A = some ⟨b, off, none⟩ → B ≤ b
/-- A store of a whole entry, under a name of its own: it is met by an equation. -/
def stE (p v : Value) : Sem Unit := Instr.storeAt 135 p v
theorem st_fold (p v : Value) : Instr.storeAt 135 p v = stE p v := rfl
open Go.RowKit in
attribute [local go_sem ↓] st_fold
end Go.Proofs.YtkdbgilnehjpmaaGreat.Yg
/-
  What the program's ReadArray and ReadTable tell.
-/
namespace Go.Proofs.YtkdbgilnehjpmaaGreat.Yh
open Go.ChangeShapes Go.WideShapes Go.ChangeAt Go.RowKit
open Bytes8 Blk8 Own8 OwnM OwnE OwnA LeA LeAl LeNum LeB LeP RefA RefB Ob Oc Od Oe Og Oi Rows2 Kf Yc Yp Yd Ye Yf Yg
set_option linter.unusedVariables false
set_option linter.unusedSimpArgs false
set_option maxRecDepth 100000
/-- What is told of an array. -/
def arX (l : List Int) (a : Nat) : Int := if ecode l a 6 8 8 = 0 then u8 (bodyL l a) 0 else 0
def arM (l : List Int) (a : Nat) : Nat := if ecode l a 6 8 8 = 0 then arN (bodyL l a) else 0
/-- The same, and the row is new. -/
def ArrTold2 (l : List Int) (a : Nat) (w : World) (e : Ending) (w' : World) : Prop :=
  ∃ A c, e = .returned (.tuple #[arrV (arX l a) A (arM l a) c, .int .i64 (ecode l a 6 8 8)]) ∧ Below w.heap.size w w' ∧ InInts .u64 w' A (arM l a) (arF (bodyL l a)) ∧ NewIn w.heap.size A
/-- A block of numbers that is being filled. -/
def Part1 (w : World) (g m k : Nat) (f : Nat → Int) (T : TypeId) : Prop :=
  ∃ vs : List Value, Blk w g vs T ∧ vs.length = m ∧ ∀ i, i < k → vs[i]? = some (.int .u64 (f i))
theorem Part1.new (w : World) (m : Nat) (f : Nat → Int) (T : TypeId) (g : Nat) (hg : w.heap.size = g) : Part1 (w.alloc (.cells (Array.replicate m (Value.int .u64 0)) T)) g m 0 f T :=
  ⟨List.replicate m (.int .u64 0), by subst hg; have := Blk.new w (List.replicate m (.int .u64 0)) T; simpa using this, by simp, fun i hi => absurd hi (by omega)⟩
theorem Part1.cells {w : World} {g m k : Nat} {f : Nat → Int} {T : TypeId} (hp : Part1 w g m k f T) (hk : k < m) : (∃ u, w.cell? ⟨g, k, none⟩ = some u) ∧ w.frozen? ⟨g, k, none⟩ = false := by
  obtain ⟨vs, hb, hl, _⟩ := hp
  exact ⟨⟨vs[k], hb.cell (List.getElem?_eq_getElem (by omega))⟩, hb.frozen _⟩
theorem Part1.step {w : World} {g m k : Nat} {f : Nat → Int} {T : TypeId} (hp : Part1 w g m k f T) (hk : k < m) : Part1 (w.setCell ⟨g, k, none⟩ (.int .u64 (f k))) g m (k + 1) f T := by
  obtain ⟨vs, hb, hl, hv⟩ := hp
  refine ⟨_, hb.set_ k _, by simp [hl], fun i hi => ?_⟩
  rcases Nat.lt_or_ge i k with h1 | h1
  · rw [List.getElem?_set, if_neg (by omega)]
    exact hv i h1
  · obtain rfl : i = k := by omega
    rw [List.getElem?_set, if_pos rfl, if_pos (by omega)]
theorem Part1.lt {w : World} {g m k : Nat} {f : Nat → Int} {T : TypeId} (hp : Part1 w g m k f T) : g < w.heap.size := by
  obtain ⟨vs, hb, _⟩ := hp
  exact hb.lt
theorem Part1.blk {w w' : World} {g m k : Nat} {f : Nat → Int} {T : TypeId} (hp : Part1 w g m k f T) (h : w'.heap[g]? = w.heap[g]?) : Part1 w' g m k f T := by
  obtain ⟨vs, hb, h2⟩ := hp
  exact ⟨vs, h.trans hb, h2⟩
theorem Part1.old {w : World} {g m k : Nat} {f : Nat → Int} {T : TypeId} (hp : Part1 w g m k f T) (o : Obj) : Part1 (w.alloc o).drew g m k f T := hp.blk (Below.heap_alloc w o g hp.lt)
theorem Part1.ints {w : World} {g m : Nat} {f : Nat → Int} {T : TypeId} (hp : Part1 w g m m f T) (hf : ∀ i, 0 ≤ f i ∧ f i ≤ 18446744073709551615) : InInts .u64 w (some ⟨g, 0, none⟩) m f := fun i hi => by
  obtain ⟨vs, hb, hl, hv⟩ := hp
  refine ⟨g, 0, rfl, hb.lt, by rw [Nat.zero_add]; exact hb.cell (hv i hi), ?_⟩
  have := hf i
  simp [Lit.wf, IntKind.min, IntKind.max, IntKind.signed, IntKind.bits]
  omega
theorem wordInfo : (Tryz.prog.info? 23).map (fun i => (i.zero, i.size, i.bytes)) = some (some (.int .u64 0), 1, 8) := by kernel_rfl
theorem make_words (p : Nat) (z : Int) (hz : z = (p : Int)) (hp : p ≤ 1000000) (w : World) :
    (Instr.makeSlice 72 (.int .i64 z) (.int .i64 z)).run Tryz.prog w = .ok (.slice (some ⟨w.heap.size, 0, none⟩) p p) (w.alloc (.cells (Array.replicate p (Value.int .u64 0)) 23)) := by
  subst hz
  have h := run_make_row' (P := Tryz.prog) 72 23 (.int .u64 0) 8 Tryz.underlying72 wordInfo rfl .i64 .i64 p (by omega) (by omega) w
  have e : madeCells #[Value.int .u64 0] p = Array.replicate p (Value.int .u64 0) := by
    apply Array.ext'
    rw [toList_madeCells_one]
    simp
  rw [e] at h
  exact h
theorem arrInfo : (Tryz.prog.info? 144).map (·.size) = some 2 := by kernel_rfl
abbrev aL (x : Int) (A : Option Addr) (n c : Nat) : List Value := [.int .u64 x, .slice A n c]
theorem InInts.setRow {k : IntKind} {w : World} {a : Option Addr} {n : Nat} {f : Nat → Int} (hi : InInts k w a n f) {g : Nat} (hg : ∀ b off, a = some ⟨b, off, none⟩ → b ≠ g) (cs : Array Value) : InInts k (w.setRow g cs) a n f := fun i hx => by
  obtain ⟨b, off, e, h1, h2, h3⟩ := hi i hx
  exact ⟨b, off, e, by simpa using h1, (cell_setRow_other w g cs _ (hg b off e)).trans h2, h3⟩
set_option maxHeartbeats 4000000 in
theorem readArray_n (A : Option Addr) (l : List Int) (n cap a : Nat) (w : World) (hb : Bytes w A l) (hL : l.length = n) (hn : n ≤ 1000000) (hc : n ≤ cap) (hcm : cap ≤ maxLen) (ha : a ≤ 18446744073709551615) :
    Calls Tryz.prog 134 #[.slice A n cap, .int .u64 (a : Int)] w (ArrTold2 l a w) := by
  have b0 := Lib.hid ((Below.refl w.heap.size w).alloc (Nat.le_refl _) (arrC 144 0 none 0 0))
  have R0 := Lib.hid (show Blk (w.alloc (arrC 144 0 none 0 0)) w.heap.size (aL 0 none 0 0) 144 from Blk.new w _ _)
  have HBo := Lib.hid (bodyOf_z A l n cap a 8 8 6 8 8 (w.alloc (arrC 144 0 none 0 0)) (hb.below b0.out (Nat.le_refl _)) hL hn hc hcm ha (by decide) (by decide) (by decide) (by decide) rfl rfl)
  unfold Bodied2 at HBo
  have HAb := Lib.hid (body_all (a := a) hb.1)
  have hno : ecode l a 6 8 8 ≠ 0 → arX l a = 0 ∧ arM l a = 0 := fun h => ⟨if_neg h, if_neg h⟩
  have hyes : ecode l a 6 8 8 = 0 → arX l a = u8 (bodyL l a) 0 ∧ arM l a = arN (bodyL l a) := fun h => ⟨if_pos h, if_pos h⟩
  by_cases h1 : ecode l a 6 8 8 ≠ 0
  · have HF := Lib.hid (hno h1)
    have HX := Lib.hid h1
    obtain ⟨cd, hcd⟩ : ∃ cd, cd = ecode l a 6 8 8 := ⟨_, rfl⟩
    rw [← hcd] at HBo HX h1
    have HCe := Lib.hid hcd
    clear hcd hno hyes hb hL
    go_enter Tryz.func134, Tryz.ntmps134
    go_wp2_with (first
      | (go_at_call 181; (with_reducible refine HBo.out.mono ?_); rintro e w2 ⟨B, m, cb, rfl, hbel, _⟩; have R2 := Lib.hid (R0.out.below hbel R0.out.lt); have HB2 := Lib.hid (b0.out.trans (hbel.mono b0.out.size)); clear hbel)
      | (refine wpList_store_row rfl 144 (.tmp 4) (.tmp 18) rfl w.heap.size _ rfl rfl 144 _ R2.out arrInfo rfl (by simp [Value.oneCell']) ?_))
    refine bodyPost_ret (v := .tuple #[arrV 0 none 0 0, .int .i64 cd]) (by exact res_row Tryz.results134 _ _ w.heap.size 144 _ (0, 0) _ _ rfl rfl (Blk.setRow R2.out (aL 0 none 0 0)) Tryz.underlying144 rfl arrInfo) rfl ?_
    unfold ArrTold2
    rw [HF.out.1, HF.out.2, ← HCe.out]
    exact ⟨none, 0, rfl, setRow_keepB HB2.out (Nat.le_refl _) _, fun i hi => absurd hi (by omega), fun b off e => by cases e⟩
  · have h0 : ecode l a 6 8 8 = 0 := by omega
    obtain ⟨_, _, hlen, hmod, hln⟩ := ecode_there hL h0
    rw [h0] at HBo
    have HCe := Lib.hid h0
    have HF := Lib.hid (hyes h0)
    have HNu := Lib.hid fun (i : Nat) (z : Int) (B : Option Addr) (m cb : Nat) (W : World) (hB : Bytes W B (bodyL l a)) (hm : (bodyL l a).length = m) (hz : z = (i : Int)) (hi : i + 8 ≤ m) => number_e B (bodyL l a) m cb i z W hB hm (by omega) hi hz
    have HM := Lib.hid fun (m : Nat) (hm : (bodyL l a).length = m) => show 16 ≤ m ∧ m ≤ 1000000 ∧ arN (bodyL l a) = (m - 8) / 8 from ⟨by omega, by omega, by unfold arN; rw [hm]⟩
    clear hno hyes hb hL h1 h0 hlen hmod hln
    generalize hbd0 : bodyL l a = bd at *
    have HBD := Lib.hid hbd0
    clear hbd0
    go_enter Tryz.func134, Tryz.ntmps134
    go_upto_region 4 with (go_at_call 181; (with_reducible refine HBo.out.mono ?_); rintro e w2 ⟨B, m, cb, rfl, hbel, hbd⟩)
    obtain ⟨d1, d2, d3, d4, d5⟩ := hbd (by first | rfl | trivial)
    have R2 := Lib.hid (R0.out.below hbel R0.out.lt)
    have HB2 := Lib.hid (b0.out.trans (hbel.mono b0.out.size))
    have D1 := Lib.hid d1
    have D2 := Lib.hid d2
    obtain ⟨hm16, hmx, htn⟩ := HM.out m d2
    obtain ⟨t, ht⟩ : ∃ t, t = (m - 8) / 8 := ⟨_, rfl⟩
    rw [← ht] at htn
    have hs8 : IntKind.i64.wrap ((m : Int) - 8) = (m : Int) - 8 := by rw [IntKind.wrap_i64]; omega
    have hq : ((m : Int) - 8).tdiv 8 = (t : Int) := by rw [Int.tdiv_eq_ediv_of_nonneg (by omega)]; omega
    have hq2 : ((m : Int) - 8) / 8 = (t : Int) := by omega
    have hq3 : IntKind.i64.wrap (t : Int) = (t : Int) := by rw [IntKind.wrap_i64]; omega
    have hmk := make_words t (t : Int) rfl (by omega)
    have HTN := Lib.hid htn
    have h8 : 8 * t + 8 ≤ m := by omega
    have HS0 := Lib.hid (Nat.le_refl w2.heap.size)
    clear d1 d2 hbel hbd htn ht
    have Ba := Lib.hid ((Below.refl w2.heap.size w2).alloc (Nat.le_refl _) (.cells (Array.replicate t (Value.int .u64 0)) 23))
    have Bb := Lib.hid ((Below.refl w2.heap.size w2).alloc (Nat.le_refl _) (arrC 144 0 none 0 0))
    have Da := Lib.hid (D1.out.below Ba.out (Nat.le_refl _)).drew
    have Db := Lib.hid (D1.out.below Bb.out (Nat.le_refl _)).drew
    have Dc := Lib.hid (D1.out.below (Ba.out.alloc Ba.out.size (arrC 144 0 none 0 0)) (Nat.le_refl _)).drew
    have Dd := Lib.hid (D1.out.below (Bb.out.alloc Bb.out.size (.cells (Array.replicate t (Value.int .u64 0)) 23)) (Nat.le_refl _)).drew
    go_cut [8] from 20 to 27 (fun z wx => ∃ (g gi : Nat), z = .pointer (some ⟨g, 0, none⟩) ∧ g ≠ gi ∧ Hid (Blk wx g (aL (u8 bd 0) (some ⟨gi, 0, none⟩) t t) 144) ∧ Hid (Part1 wx gi t 0 (arF bd) 23) ∧ Hid (Below w2.heap.size w2 wx) ∧ Hid (w2.heap.size ≤ g ∧ w2.heap.size ≤ gi))
    case first =>
      go_region_held3 (fun w' => True) (first | (with_reducible exact trivial)) (first
        | (go_at_call 182; (with_reducible refine (HNu.out 0 0 _ _ _ _ D1.out.drew D2.out rfl (by omega)).mono ?_); rintro e w' ⟨rfl, rfl⟩)
        | (go_at_call 182; (with_reducible refine (HNu.out 0 0 _ _ _ _ Da.out D2.out rfl (by omega)).mono ?_); rintro e w' ⟨rfl, rfl⟩)
        | (go_at_call 182; (with_reducible refine (HNu.out 0 0 _ _ _ _ Db.out D2.out rfl (by omega)).mono ?_); rintro e w' ⟨rfl, rfl⟩)
        | (go_at_call 182; (with_reducible refine (HNu.out 0 0 _ _ _ _ Dc.out D2.out rfl (by omega)).mono ?_); rintro e w' ⟨rfl, rfl⟩)
        | (go_at_call 182; (with_reducible refine (HNu.out 0 0 _ _ _ _ Dd.out D2.out rfl (by omega)).mono ?_); rintro e w' ⟨rfl, rfl⟩))
      all_goals
        go_wp2_with fail
        go_meet
        case rel =>
          first
          | exact ⟨w2.heap.size + 1, w2.heap.size, rfl, by omega, Lib.hid (Blk.new_at (w2.alloc (.cells (Array.replicate t (Value.int .u64 0)) 23)) (aL (u8 bd 0) (some ⟨w2.heap.size, 0, none⟩) t t) 144 (w2.heap.size + 1) (by simp)).drew, Lib.hid (Part1.old (Part1.new w2 t (arF bd) 23 w2.heap.size rfl) _), Lib.hid (Ba.out.alloc Ba.out.size _).drew, Lib.hid ⟨by omega, Nat.le_refl _⟩⟩
          | exact ⟨w2.heap.size, w2.heap.size + 1, rfl, by omega, Lib.hid ((Blk.new_at w2 (aL (u8 bd 0) (some ⟨w2.heap.size + 1, 0, none⟩) t t) 144 w2.heap.size rfl).alloc _).drew, Lib.hid (Part1.new (w2.alloc (.cells (aL (u8 bd 0) (some ⟨w2.heap.size + 1, 0, none⟩) t t).toArray 144)) t (arF bd) 23 (w2.heap.size + 1) (by simp)), Lib.hid ((((Below.refl w2.heap.size w2).alloc (Nat.le_refl _) _).alloc (by simp) _).drew), Lib.hid ⟨Nat.le_refl _, by omega⟩⟩
    case rest =>
      obtain ⟨g, gi, rfl, hgg, E3, P3, B3, G3⟩ := hcut
      clear Ba Bb Da Db Dc Dd hmk hq hq2 hq3 hs8
      have HGG := Lib.hid hgg
      have q1 := E3.out.cell (i := 1) rfl
      go_wp2_with fail
      go_loopw [31] (fun i wr => ∃ k : Nat, k ≤ t ∧ i = .int .i64 (k : Int) ∧ Hid (Part1 wr gi t k (arF bd) 23) ∧ Hid (Blk wr g (aL (u8 bd 0) (some ⟨gi, 0, none⟩) t t) 144) ∧ Hid (Below w2.heap.size w2 wr)) (fun i _ => t - (intOf i).toNat)
      case atStart => exact ⟨0, Nat.zero_le _, rfl, P3, E3, B3⟩
      case round =>
        obtain ⟨k, hk, rfl, hp, he, hb⟩ := hrel
        have r0 := he.out.cell (i := 0) rfl
        have r1 := he.out.cell (i := 1) rfl
        by_cases hlt : k < t
        · obtain ⟨⟨v1, c1⟩, f1⟩ := hp.out.cells hlt
          have r1d : wr.drew.cell? ⟨g, 1, none⟩ = some (.slice (some ⟨gi, 0, none⟩) t t) := r1
          have r1s : (wr.setCell ⟨gi, k, none⟩ (.int .u64 (u8 bd (8 + 8 * k)))).drew.cell? ⟨g, 1, none⟩ = some (.slice (some ⟨gi, 0, none⟩) t t) := (he.out.far (p := ⟨gi, k, none⟩) (fun e => HGG.out e) _).drew.cell (i := 1) rfl
          have c1d : wr.drew.cell? ⟨gi, k, none⟩ = some v1 := c1
          have f1d : wr.drew.frozen? ⟨gi, k, none⟩ = false := f1
          have HS := Lib.hid (hp.out.step hlt)
          have hp1 : arF bd k = u8 bd (8 + 8 * k) := rfl
          rw [hp1] at HS
          have Dr := Lib.hid (D1.out.below hb.out (Nat.le_refl _)).drew
          have hw1 : IntKind.i64.wrap ((k : Int) * 8) = (k : Int) * 8 := by rw [IntKind.wrap_i64]; omega
          have hw2 : IntKind.i64.wrap (8 + (k : Int) * 8) = 8 + (k : Int) * 8 := by rw [IntKind.wrap_i64]; omega
          have hk0 : (0 : Int) ≤ (k : Int) := by omega
          have hkt : (k : Int) < (t : Int) := by omega
          go_wp2_with fail
          go_region_held3 (fun W => W.cell? ⟨g, 1, none⟩ = some (.slice (some ⟨gi, 0, none⟩) t t)) (first | (with_reducible exact r1d) | (with_reducible exact r1s) | go_keep) (first
            | (go_at_call 182; (with_reducible refine (HNu.out (8 + 8 * k) _ _ _ _ _ Dr.out D2.out (by omega) (by omega)).mono ?_); rintro e w' ⟨rfl, rfl⟩))
          all_goals
            go_wp2
            go_roundw
            case rel => exact ⟨k + 1, by omega, by go_num, Lib.hid (HS.out.blk rfl), Lib.hid ((he.out.far (fun e => HGG.out e) _).drew), Lib.hid ((hb.out.setCell G3.out.2 _).drew)⟩
            case measure => simp [intOf]; omega
        · obtain rfl : k = t := by omega
          have HI := Lib.hid (hp.out.ints (fun i => u8_bd HAb.out _))
          have R3 := Lib.hid (R2.out.below hb.out R2.out.lt)
          have W3 := Lib.hid (HB2.out.trans (hb.out.mono HB2.out.size))
          have HNe := Lib.hid (show gi ≠ w.heap.size by have h1 := G3.out.2; have h2 := R2.out.lt; omega)
          have HNw := Lib.hid (show w.heap.size ≤ gi by have h1 := G3.out.2; have h2 := R2.out.lt; omega)
          go_wp2_with (first
            | (refine wpList_load_row rfl 144 (.tmp 8) rfl g rfl 144 (aL (u8 bd 0) (some ⟨gi, 0, none⟩) k k).toArray (0, 0) _ he.out Tryz.underlying144 rfl arrInfo ?_)
            | (refine wpList_store_row rfl 144 (.tmp 4) (.tmp 44) rfl w.heap.size (aL (u8 bd 0) (some ⟨gi, 0, none⟩) k k).toArray rfl rfl 144 _ R3.out arrInfo rfl (by simp [Value.oneCell']) ?_))
          refine bodyPost_ret (v := .tuple #[arrV (u8 bd 0) (some ⟨gi, 0, none⟩) k k, .int .i64 0]) (by exact res_row Tryz.results134 _ _ w.heap.size 144 _ (0, 0) _ _ rfl rfl (Blk.setRow R3.out (aL (u8 bd 0) (some ⟨gi, 0, none⟩) k k)) Tryz.underlying144 rfl arrInfo) rfl ?_
          unfold ArrTold2
          rw [HCe.out, HF.out.1, HF.out.2, HTN.out, HBD.out]
          exact ⟨_, k, rfl, setRow_keepB W3.out (Nat.le_refl _) _, InInts.setRow HI.out (fun b off e => by injection e with e; injection e with e; have := HNe.out; omega) _, fun b off e => by injection e with e; injection e with e; have := HNw.out; omega⟩
end Go.Proofs.YtkdbgilnehjpmaaGreat.Yh
/-
  Sixteen bytes compared; a load from the middle of a row under a guard.
-/
namespace Go.Proofs.YtkdbgilnehjpmaaGreat.Yq
open Go.ChangeShapes Go.WideShapes Go.ChangeAt Go.RowKit
open Bytes8 Blk8 Own8 OwnM OwnE OwnA Rows2 Ob Yc Yp Yd Yg
set_option linter.unusedVariables false
set_option linter.unusedSimpArgs false
set_option maxRecDepth 100000
end Go.Proofs.YtkdbgilnehjpmaaGreat.Yq
/-
  What was put is read: arrays, tables, entries: plain.
-/
namespace Go.Proofs.YtkdbgilnehjpmaaGreat.Yj
open Go.ChangeShapes Go.WideShapes Go.ChangeAt Go.RowKit
open Bytes8 Blk8 LeNum Ob Rows2 Yc Yp Yd Yg Yh
set_option linter.unusedVariables false
set_option linter.unusedSimpArgs false
set_option maxRecDepth 100000
def Wd (f : Nat → Int) (n : Nat) : Prop := ∀ i, i < n → 0 ≤ f i ∧ f i ≤ 18446744073709551615
/-! ## an array -/
/-! ## a table -/
end Go.Proofs.YtkdbgilnehjpmaaGreat.Yj
