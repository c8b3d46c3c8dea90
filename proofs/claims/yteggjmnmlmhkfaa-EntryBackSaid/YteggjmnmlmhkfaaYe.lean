/-
  What the program reads of entries, arrays, tables: the body, a number, the items, whether they rise.
-/
import Derived.Test.YteggjmnmlmhkfaaYd
import Derived.Test.YteggjmnmlmhkfaaOr
namespace Go.Proofs.Yteggjmnmlmhkfaa.Ye
open Go.ChangeShapes Go.WideShapes Go.ChangeAt Go.RowKit
open Bytes8 Blk8 Own8 OwnM OwnE OwnA LeA LeAl LeNum LeB LeP RefA RefB Ob Oc Od Oe Og Oi Rows2 Kf Yc Yp Yd
set_option linter.unusedVariables false
set_option linter.unusedSimpArgs false
set_option maxRecDepth 100000

/-- What bodyOf tells. -/
def Bodied2 (l : List Int) (a : Nat) (k : Int) (ah ea : Nat) (w : World) (e : Ending) (w' : World) : Prop :=
  ∃ B m cb, e = .returned (.tuple #[.slice B m cb, .int .i64 (ecode l a k ah ea)]) ∧ Below w.heap.size w w' ∧ (ecode l a k ah ea = 0 → Bytes w' B (bodyL l a) ∧ (bodyL l a).length = m ∧ m ≤ cb ∧ cb ≤ maxLen ∧ m ≤ 1000000)

set_option maxHeartbeats 4000000 in
theorem bodyOf_e (A : Option Addr) (l : List Int) (n cap a ah ea : Nat) (k : Int) (w : World) (hb : Bytes w A l) (hL : l.length = n) (hn : n ≤ 1000000) (hc : n ≤ cap) (hcm : cap ≤ maxLen) (ha : a ≤ 18446744073709551615) (hah : ah ≤ 1000) (hea : ea ≤ 1000) (he0 : 0 < ea) (hmod : ah % ea = 0) :
    Calls Try.prog 29 #[.slice A n cap, .int .u64 (a : Int), .int .i64 k, .int .i64 (ah : Int), .int .i64 (ea : Int)] w (Bodied2 l a k ah ea w) := by
  have HR := Lib.hid (read_any A l n cap a w hb hL hn hc hcm ha)
  unfold FrTold at HR
  unfold Bodied2
  have hbc : ecode l a k ah ea = if code l a ≠ 0 then code l a else if kindL l a ≠ k then 4 else if (bodyL l a).length < ah + ea ∨ (bodyL l a).length % ea ≠ 0 then 5 else 0 := rfl
  by_cases h1 : code l a ≠ 0
  · rw [if_pos h1] at hbc
    rw [hbc]
    clear hbc
    generalize code l a = cd at *
    generalize kindL l a = kd at *
    generalize sizeL l a = s at *
    have HX : Hid (cd ≠ 0) := Lib.hid h1
    clear hb hL
    go_enter Try.func29, Try.ntmps29
    go_wp2_with (go_at_call 43; (with_reducible refine HR.out.mono ?_); rintro e w2 ⟨rfl, hbel⟩; have HB := Lib.hid hbel; clear hbel)
    go_ret2
    exact ⟨none, 0, 0, rfl, HB.out.alloc HB.out.size _, fun h => absurd h HX.out⟩
  have h0 : code l a = 0 := by omega
  obtain ⟨m, hs, hbl, hfit, hbody, _⟩ := body_there hL h0
  rw [if_neg h1, hbl] at hbc
  have hs2 : sizeL l a = 16 + (m : Int) := by omega
  rw [h0, hs2] at HR
  by_cases h2 : kindL l a ≠ k
  · rw [if_pos h2] at hbc
    rw [hbc]
    generalize kindL l a = kd at *
    clear hb hL hbc hs hs2 hbl hbody h1 h0
    go_enter Try.func29, Try.ntmps29
    go_wp2_with (go_at_call 43; (with_reducible refine HR.out.mono ?_); rintro e w2 ⟨rfl, hbel⟩; have HB := Lib.hid hbel; clear hbel)
    go_ret2
    exact ⟨none, 0, 0, rfl, HB.out.alloc HB.out.size _, fun h => absurd h (by decide)⟩
  have h2' : kindL l a = k := by omega
  rw [if_neg h2] at hbc
  rw [h2'] at HR
  have hcut := cutu_lh A n cap (a + 16) (a + 16 + m) ((a : Int) + 16) ((a : Int) + (16 + (m : Int))) (by omega) (by omega) (by omega) (by omega)
  have HBC := Lib.hid (Bytes.cut hb cap (a + 16) m (by omega))
  rw [← hbody] at HBC
  rw [show a + 16 + m - (a + 16) = m by omega] at hcut
  have hcap : m ≤ cap - (a + 16) ∧ cap - (a + 16) ≤ maxLen := by omega
  generalize cap - (a + 16) = cb at *
  generalize cutA A cap (a + 16) = C at *
  have HCap := Lib.hid hcap
  have HBl := Lib.hid hbl
  have ham : a + 16 + m ≤ 1000000 := by omega
  unfold maxLen at hcm
  clear hb hL hs hs2 hbl hbody h1 h0 h2 h2' hcap
  by_cases h3 : m < ah + ea
  · rw [if_pos (Or.inl h3)] at hbc
    rw [hbc]
    have h3' : (m : Int) - (ah : Int) < (ea : Int) := by omega
    clear hbc
    go_enter Try.func29, Try.ntmps29
    go_wp2_with (go_at_call 43; (with_reducible refine HR.out.mono ?_); rintro e w2 ⟨rfl, hbel⟩; have HB := Lib.hid hbel; clear hbel)
    go_ret2
    exact ⟨none, 0, 0, rfl, HB.out.alloc HB.out.size _, fun h => absurd h (by decide)⟩
  have h3' : ¬ (m : Int) - (ah : Int) < (ea : Int) := by omega
  obtain ⟨q, hq⟩ : ∃ q, ah = ea * q := ⟨ah / ea, by have := Nat.div_add_mod ah ea; omega⟩
  have hmm : (m - ah) % ea = m % ea := by
    subst hq
    have : m = (m - ea * q) + ea * q := by omega
    conv => rhs; rw [this, Nat.add_mul_mod_self_left]
  have hrem : ((m : Int) - (ah : Int)).tmod (ea : Int) = ((m % ea : Nat) : Int) := by
    rw [show (m : Int) - (ah : Int) = ((m - ah : Nat) : Int) by omega, Int.tmod_eq_emod_of_nonneg (by omega), ← hmm]
    omega
  have hea0 : ¬ (ea : Int) = 0 := by omega
  clear hq hmm
  by_cases h4 : m % ea = 0
  · rw [if_neg (by omega)] at hbc
    rw [hbc]
    rw [h4] at hrem
    clear hbc
    go_enter Try.func29, Try.ntmps29
    go_wp2_with (go_at_call 43; (with_reducible refine HR.out.mono ?_); rintro e w2 ⟨rfl, hbel⟩; have HB := Lib.hid hbel; clear hbel)
    go_ret2
    exact ⟨C, m, cb, rfl, HB.out.alloc HB.out.size _, fun _ => ⟨HBC.out.below (HB.out.alloc HB.out.size _) (Nat.le_refl _), HBl.out, HCap.out.1, HCap.out.2, by omega⟩⟩
  · rw [if_pos (Or.inr h4)] at hbc
    rw [hbc]
    obtain ⟨R, hR⟩ : ∃ R : Int, R = ((m % ea : Nat) : Int) := ⟨_, rfl⟩
    rw [← hR] at hrem
    have h4' : ¬ R = 0 := by omega
    have h5 : (R == 0) = false := by simpa using h4'
    have h6 : (R != 0) = true := by simpa using h4'
    have h7 : decide (R = 0) = false := by simpa using h4'
    clear hbc hR h4
    go_enter Try.func29, Try.ntmps29
    go_wp2_with (go_at_call 43; (with_reducible refine HR.out.mono ?_); rintro e w2 ⟨rfl, hbel⟩; have HB := Lib.hid hbel; clear hbel)
    · go_ret2
      exact ⟨none, 0, 0, rfl, HB.out.alloc HB.out.size _, fun h => absurd h (by decide)⟩
    all_goals (rename_i hx; trace_state; simp at hx; exact absurd hx h4')

theorem bodyOf_z (A : Option Addr) (l : List Int) (n cap a ah ea : Nat) (k zh ze : Int) (w : World) (hb : Bytes w A l) (hL : l.length = n) (hn : n ≤ 1000000) (hc : n ≤ cap) (hcm : cap ≤ maxLen) (ha : a ≤ 18446744073709551615) (hah : ah ≤ 1000) (hea : ea ≤ 1000) (he0 : 0 < ea) (hmod : ah % ea = 0) (hzh : zh = (ah : Int)) (hze : ze = (ea : Int)) :
    Calls Try.prog 29 #[.slice A n cap, .int .u64 (a : Int), .int .i64 k, .int .i64 zh, .int .i64 ze] w (Bodied2 l a k ah ea w) := by
  subst hzh hze
  exact bodyOf_e A l n cap a ah ea k w hb hL hn hc hcm ha hah hea he0 hmod

theorem number_e (A : Option Addr) (l : List Int) (n cap i : Nat) (z : Int) (w : World) (hb : Bytes w A l) (hL : l.length = n) (hn : n ≤ 1000000) (hi : i + 8 ≤ n) (hz : z = (i : Int)) :
    Calls Try.prog 30 #[.slice A n cap, .int .i64 z] w fun e w' => e = .returned (.int .u64 (u8 l i)) ∧ w = w' := by
  subst hz
  have HG := Lib.hid fun (z : Int) (hz : z = (i : Int)) => get8 A l n cap i z w hz hL hn hb hi
  generalize u8 l i = x at *
  clear hb hL
  go_enter Try.func30, Try.ntmps30
  go_wp2_with (go_at_call 44; (with_reducible refine (HG.out _ rfl).mono ?_); rintro e w' ⟨rfl, rfl⟩)
  go_ret
  exact ⟨rfl, rfl⟩

/-- A block that is being filled two by two. -/
def Part2 (w : World) (g m k : Nat) (f h : Nat → Int) (T : TypeId) : Prop :=
  ∃ vs : List Value, Blk w g vs T ∧ vs.length = m * 2 ∧ ∀ i, i < k → vs[i * 2]? = some (.int .u64 (f i)) ∧ vs[i * 2 + 1]? = some (.int .u64 (h i))
theorem Part2.new (w : World) (m : Nat) (f h : Nat → Int) (T : TypeId) : Part2 (w.alloc (.cells (Array.replicate (m * 2) (Value.int .u64 0)) T)) w.heap.size m 0 f h T :=
  ⟨List.replicate (m * 2) (.int .u64 0), by have := Blk.new w (List.replicate (m * 2) (.int .u64 0)) T; simpa using this, by simp, fun i hi => absurd hi (by omega)⟩
theorem Part2.lt {w : World} {g m k : Nat} {f h : Nat → Int} {T : TypeId} (hp : Part2 w g m k f h T) : g < w.heap.size := by
  obtain ⟨vs, hb, _⟩ := hp
  exact hb.lt
theorem Part2.cells {w : World} {g m k : Nat} {f h : Nat → Int} {T : TypeId} (hp : Part2 w g m k f h T) (hk : k < m) : (∃ u v, w.cell? ⟨g, k * 2, none⟩ = some u ∧ w.cell? ⟨g, k * 2 + 1, none⟩ = some v) ∧ w.frozen? ⟨g, k * 2, none⟩ = false ∧ w.frozen? ⟨g, k * 2 + 1, none⟩ = false := by
  obtain ⟨vs, hb, hl, _⟩ := hp
  exact ⟨⟨vs[k * 2], vs[k * 2 + 1], hb.cell (List.getElem?_eq_getElem (by omega)), hb.cell (List.getElem?_eq_getElem (by omega))⟩, hb.frozen _, hb.frozen _⟩
theorem Part2.step {w : World} {g m k : Nat} {f h : Nat → Int} {T : TypeId} (hp : Part2 w g m k f h T) (hk : k < m) : Part2 ((w.setCell ⟨g, k * 2, none⟩ (.int .u64 (f k))).setCell ⟨g, k * 2 + 1, none⟩ (.int .u64 (h k))) g m (k + 1) f h T := by
  obtain ⟨vs, hb, hl, hv⟩ := hp
  refine ⟨_, (hb.set_ (k * 2) _).set_ (k * 2 + 1) _, by simp [hl], fun i hi => ?_⟩
  rcases Nat.lt_or_ge i k with h1 | h1
  · obtain ⟨e1, e2⟩ := hv i h1
    rw [List.getElem?_set, List.getElem?_set, List.getElem?_set, List.getElem?_set, if_neg (by omega), if_neg (by omega), if_neg (by omega), if_neg (by omega)]
    exact ⟨e1, e2⟩
  · obtain rfl : i = k := by omega
    rw [List.getElem?_set, List.getElem?_set, List.getElem?_set, if_neg (by omega), if_pos rfl, if_pos (by omega), if_pos rfl, if_pos (by simp; omega)]
    exact ⟨rfl, rfl⟩
theorem Part2.in2 {w : World} {g m : Nat} {f h : Nat → Int} {T : TypeId} (hp : Part2 w g m m f h T) (hf : ∀ i, 0 ≤ f i ∧ f i ≤ 18446744073709551615) (hh : ∀ i, 0 ≤ h i ∧ h i ≤ 18446744073709551615) : In2 w (some ⟨g, 0, none⟩) m f h := fun i hi => by
  obtain ⟨vs, hb, hl, hv⟩ := hp
  obtain ⟨e1, e2⟩ := hv i hi
  exact ⟨g, 0, rfl, hb.lt, by rw [Nat.zero_add]; exact hb.cell e1, by rw [Nat.zero_add]; exact hb.cell e2, hf i, hh i⟩
theorem Part2.below {w w' : World} {g m k : Nat} {f h : Nat → Int} {T : TypeId} (hp : Part2 w g m k f h T) (hb : Below w.heap.size w w') : Part2 w' g m k f h T := by
  obtain ⟨vs, h1, h2⟩ := hp
  exact ⟨vs, h1.below hb h1.lt, h2⟩
theorem itemInfo : (Try.prog.info? 56).map (fun i => (i.zero, i.size, i.bytes)) = some (some (.agg #[.int .u64 0, .int .u64 0]), 2, 16) := by kernel_rfl
theorem slotInfo : (Try.prog.info? 59).map (fun i => (i.zero, i.size, i.bytes)) = some (some (.agg #[.int .u64 0, .int .u64 0]), 2, 16) := by kernel_rfl
theorem made_two (p : Nat) : madeCells #[Value.int .u64 0, Value.int .u64 0] (p * 2) = Array.replicate (p * 2) (Value.int .u64 0) := by
  apply Array.ext
  · simp [madeCells]
  · intro i h1 h2
    simp only [madeCells, Array.getElem_map, Array.getElem_range, Array.getElem_replicate]
    have : i % 2 = 0 ∨ i % 2 = 1 := by omega
    rcases this with h | h <;> simp [h]
theorem make_two (S T : TypeId) (ht : Try.prog.underlying S = some (.slice T)) (hinfo : (Try.prog.info? T).map (fun i => (i.zero, i.size, i.bytes)) = some (some (.agg #[.int .u64 0, .int .u64 0]), 2, 16)) (p : Nat) (z : Int) (hz : z = (p : Int)) (hp : p ≤ 1000000) (w : World) :
    (Instr.makeSlice S (.int .i64 z) (.int .i64 z)).run Try.prog w = .ok (.slice (some ⟨w.heap.size, 0, none⟩) p p) (w.alloc (.cells (Array.replicate (p * 2) (Value.int .u64 0)) T)) := by
  subst hz
  obtain ⟨i, hi, hzz⟩ := Option.map_eq_some_iff.1 hinfo
  simp only [Prod.mk.injEq] at hzz
  obtain ⟨hz, hs, hb⟩ := hzz
  have h := run_make (P := Try.prog) w S T i _ ht hi hz .i64 .i64 (p : Int) (p : Int) (by omega) (Int.le_refl _) (by rw [hb]; omega) (by omega)
  rw [hs, Int.toNat_natCast] at h
  rw [h]
  show Result.ok _ (w.alloc (.cells (madeCells #[Value.int .u64 0, Value.int .u64 0] (p * 2)) T)) = _
  rw [made_two]
end Go.Proofs.Yteggjmnmlmhkfaa.Ye
