/-
  A cursor by value; how one comes in.
-/
import Derived.Test.YtpfkhcgeblihcaaDoorKua
import Derived.Test.YtpfkhcgeblihcaaDoorBlk
import Derived.Lib.SmallJoins
import Derived.Deep.SlicePairs
namespace Go.Proofs.YtpfkhcgeblihcaaDoor.Kub
open Go.ChangeShapes Go.WideShapes Go.ChangeAt Go.RowKit Go.Deep
open Bytes8 Blk8 Kua
set_option linter.unusedVariables false
set_option linter.unusedSimpArgs false
set_option maxRecDepth 100000

/-- A cursor: its numbers. -/
structure Cur where
  seq : Nat → Int
  n : Int
  boot : Nat → Int
  mono : Int
  real : Int
  xor : Int
def U64 (x : Int) : Prop := 0 ≤ x ∧ x ≤ 18446744073709551615
structure Cur.Ok (c : Cur) : Prop where
  seq : IdOk c.seq
  n : U64 c.n
  boot : IdOk c.boot
  mono : U64 c.mono
  real : U64 c.real
  xor : U64 c.xor
abbrev idCells (K : Nat → Int) : List Value := [.int .u8 (K 0), .int .u8 (K 1), .int .u8 (K 2), .int .u8 (K 3), .int .u8 (K 4), .int .u8 (K 5), .int .u8 (K 6), .int .u8 (K 7), .int .u8 (K 8), .int .u8 (K 9), .int .u8 (K 10), .int .u8 (K 11), .int .u8 (K 12), .int .u8 (K 13), .int .u8 (K 14), .int .u8 (K 15)]
abbrev Cur.cells (c : Cur) : List Value := [.int .u8 (c.seq 0), .int .u8 (c.seq 1), .int .u8 (c.seq 2), .int .u8 (c.seq 3), .int .u8 (c.seq 4), .int .u8 (c.seq 5), .int .u8 (c.seq 6), .int .u8 (c.seq 7), .int .u8 (c.seq 8), .int .u8 (c.seq 9), .int .u8 (c.seq 10), .int .u8 (c.seq 11), .int .u8 (c.seq 12), .int .u8 (c.seq 13), .int .u8 (c.seq 14), .int .u8 (c.seq 15), .int .u64 c.n,
  .int .u8 (c.boot 0), .int .u8 (c.boot 1), .int .u8 (c.boot 2), .int .u8 (c.boot 3), .int .u8 (c.boot 4), .int .u8 (c.boot 5), .int .u8 (c.boot 6), .int .u8 (c.boot 7), .int .u8 (c.boot 8), .int .u8 (c.boot 9), .int .u8 (c.boot 10), .int .u8 (c.boot 11), .int .u8 (c.boot 12), .int .u8 (c.boot 13), .int .u8 (c.boot 14), .int .u8 (c.boot 15), .int .u64 c.mono, .int .u64 c.real, .int .u64 c.xor]
abbrev Cur.v (c : Cur) : Value := .agg c.cells.toArray
theorem id_cells {H : Type} {enc : TypeId × Value → H} {P : Program} {w : World} {base : Nat} {held : Bool} {spare : Nat → Bool} {t e : TypeId} {fuel : Nat} {l : List Value} {x : DataW H × List MemPlace} (ht : P.underlying t = some (.array 16 e)) (he : P.underlying e = some (.int .u8)) (ce : P.cellsOf e = 1) (hl : l.length = 16)
    (hf : DataW.trod enc P w base spare held fuel t l = some x) : ∃ K, l = idCells K ∧ IdOk K := by
  obtain ⟨xs, m, _, _, _, hlen, hel⟩ := DataW.trod_array ht hf
  have each : ∀ i, i < 16 → ∃ n, l[i]? = some (.int .u8 n) ∧ 0 ≤ n ∧ n < 256 := by
    intro i hi
    have h1 := hel i hi
    have hx : xs[i]? = some (xs[i]'(by omega)) := List.getElem?_eq_getElem (by omega)
    rw [hx, ce] at h1
    obtain ⟨n, hn, _, hw⟩ := DataW.trod_int he h1
    have hb := bounds_u8 hw
    refine ⟨n, ?_, by omega, by omega⟩
    have hil : i < l.length := by omega
    simp only [Nat.mul_one] at hn
    have h2 : (l.drop i).take 1 = [l[i]] := by rw [List.drop_eq_getElem_cons hil]; rfl
    rw [h2] at hn
    injection hn with hn
    rw [List.getElem?_eq_getElem hil, hn]
  have hch : ∃ K : Nat → Int, ∀ i, i < 16 → l[i]? = some (.int .u8 (K i)) ∧ 0 ≤ K i ∧ K i < 256 :=
    ⟨fun i => if hi : i < 16 then (each i hi).choose else 0, fun i hi => by simp only [dif_pos hi]; exact (each i hi).choose_spec⟩
  obtain ⟨K, hK⟩ := hch
  refine ⟨fun i => if i < 16 then K i else 0, ?_, fun i => ?_⟩
  · apply List.ext_getElem?
    intro i
    by_cases hi : i < 16
    · rw [(hK i hi).1]
      unfold idCells
      rcases i with _ | _ | _ | _ | _ | _ | _ | _ | _ | _ | _ | _ | _ | _ | _ | _ | i
      all_goals first | rfl | omega
    · rw [List.getElem?_eq_none (by omega), List.getElem?_eq_none (by simp [idCells]; omega)]
  · by_cases hi : i < 16
    · simp only [if_pos hi]; exact (hK i hi).2
    · simp [if_neg hi]
set_option maxHeartbeats 4000000 in
theorem cur_of_trod {H : Type} {enc : TypeId × Value → H} {P : Program} {w : World} {base b0 : Nat} {held : Bool} {r : Reach} {spare : Nat → Bool} {t q : TypeId} {f0 f1 f2 f3 f4 f5 : Field} {v : Value} {d : DataW H} {p : List MemPlace}
    (hs : P.underlying t = some (.struct #[f0, f1, f2, f3, f4, f5])) (hoff : [f0.offset, f1.offset, f2.offset, f3.offset, f4.offset, f5.offset] = [0, 16, 17, 33, 34, 35]) (hcel : [P.cellsOf f0.type, P.cellsOf f1.type, P.cellsOf f2.type, P.cellsOf f3.type, P.cellsOf f4.type, P.cellsOf f5.type] = [16, 1, 16, 1, 1, 1]) (hC : P.cellsOf t = 36)
    (g0 : P.underlying f0.type = some (.array 16 q)) (g1 : P.underlying f1.type = some (.int .u64)) (g2 : P.underlying f2.type = some (.array 16 q)) (g3 : P.underlying f3.type = some (.int .u64)) (g4 : P.underlying f4.type = some (.int .u64)) (g5 : P.underlying f5.type = some (.int .u64)) (u : P.underlying q = some (.int .u8)) (cq : P.cellsOf q = 1)
    (hv : Value.okWide P w r b0 t v) (h : DataW.Trod enc P w base spare held t v d p) : ∃ c : Cur, v = c.v ∧ c.Ok := by
  obtain ⟨cs, rfl, hsz⟩ := okWide_struct hs hv
  rw [hC] at hsz
  obtain ⟨l⟩ := cs
  have hl : l.length = 36 := by simpa using hsz
  obtain ⟨fuel, hf⟩ := h
  obtain ⟨xs, k, _, _, _, hxl, hfd⟩ := DataW.trod_struct hs hf
  simp only [List.cons.injEq, and_true] at hoff hcel
  obtain ⟨of0, of1, of2, of3, of4, of5⟩ := hoff
  obtain ⟨ca0, ca1, ca2, ca3, ca4, ca5⟩ := hcel
  match xs, hxl with
  | [w0, w1, w2, w3, w4, w5], _ =>
    have one : ∀ (f : Field) (o : Nat) (y : DataW H × List MemPlace), o < 36 → P.underlying f.type = some (.int .u64) → DataW.trod enc P w base spare held k f.type ((l.drop o).take 1) = some y → ∃ m, l[o]? = some (.int .u64 m) ∧ U64 m := by
      intro f o y ho hu h
      obtain ⟨m, hn, _, hw⟩ := DataW.trod_int hu h
      refine ⟨m, ?_, bounds_u64 hw⟩
      have h2 : (l.drop o).take 1 = [l[o]] := by rw [List.drop_eq_getElem_cons (by omega)]; rfl
      rw [h2] at hn
      injection hn with hn
      rw [List.getElem?_eq_getElem (by omega), hn]
    have t0 := hfd 0 f0 rfl
    simp only [Value.cells, of0, ca0, List.getElem?_cons_zero] at t0
    obtain ⟨K, eK, hK⟩ := id_cells g0 u cq (by simp [hl]) t0
    have t1 := hfd 1 f1 rfl
    simp only [Value.cells, of1, ca1] at t1
    obtain ⟨m1, e1, b1⟩ := one f1 16 _ (by decide) g1 t1
    have t2 := hfd 2 f2 rfl
    simp only [Value.cells, of2, ca2] at t2
    obtain ⟨B, eB, hB⟩ := id_cells g2 u cq (by simp [hl]) t2
    have t3 := hfd 3 f3 rfl
    simp only [Value.cells, of3, ca3] at t3
    obtain ⟨m3, e3, b3⟩ := one f3 33 _ (by decide) g3 t3
    have t4 := hfd 4 f4 rfl
    simp only [Value.cells, of4, ca4] at t4
    obtain ⟨m4, e4, b4⟩ := one f4 34 _ (by decide) g4 t4
    have t5 := hfd 5 f5 rfl
    simp only [Value.cells, of5, ca5] at t5
    obtain ⟨m5, e5, b5⟩ := one f5 35 _ (by decide) g5 t5
    refine ⟨⟨K, m1, B, m3, m4, m5⟩, ?_, ⟨hK, b1, hB, b3, b4, b5⟩⟩
    have hK2 : ∀ i, i < 16 → l[i]? = (idCells K)[i]? := fun i hi => by
      rw [← eK, List.getElem?_take_of_lt hi, List.getElem?_drop, Nat.zero_add]
    have hB2 : ∀ i, i < 16 → l[17 + i]? = (idCells B)[i]? := fun i hi => by
      rw [← eB, List.getElem?_take_of_lt hi, List.getElem?_drop]
    congr 1
    apply Array.ext'
    apply List.ext_getElem?
    intro i
    by_cases hi : i < 36
    · by_cases h0 : i < 16
      · rw [hK2 i h0]
        rcases i with _ | _ | _ | _ | _ | _ | _ | _ | _ | _ | _ | _ | _ | _ | _ | _ | i
        all_goals first | rfl | omega
      by_cases h1 : i = 16
      · subst h1; rw [e1]; rfl
      by_cases h2 : i < 33
      · obtain ⟨j, rfl⟩ : ∃ j, i = 17 + j := ⟨i - 17, by omega⟩
        rw [hB2 j (by omega)]
        have hj : j < 16 := by omega
        clear h0 h1 h2 hi
        rcases j with _ | _ | _ | _ | _ | _ | _ | _ | _ | _ | _ | _ | _ | _ | _ | _ | j
        all_goals first | rfl | omega
      by_cases h3 : i = 33
      · subst h3; rw [e3]; rfl
      by_cases h4 : i = 34
      · subst h4; rw [e4]; rfl
      · obtain rfl : i = 35 := by omega
        rw [e5]; rfl
    · rw [List.getElem?_eq_none (by simpa [hl] using hi), List.getElem?_eq_none (by simp; omega)]

/-! ## its text -/
def lbl (c : Int) : List Int := [59, c, 61]
def showL (c : Cur) : List Int := [115, 61] ++ hexL c.seq ++ ([59, 105, 61] ++ shortL c.n.toNat) ++ ([59, 98, 61] ++ hexL c.boot) ++ ([59, 109, 61] ++ shortL c.mono.toNat) ++ ([59, 116, 61] ++ shortL c.real.toNat) ++ ([59, 120, 61] ++ shortL c.xor.toNat)
theorem showL_len {c : Cur} (h : c.Ok) : 85 ≤ (showL c).length ∧ (showL c).length ≤ 145 := by
  have h1 := short_le (v := c.n.toNat) (by have := h.n.2; omega)
  have h2 := short_le (v := c.mono.toNat) (by have := h.mono.2; omega)
  have h3 := short_le (v := c.real.toNat) (by have := h.real.2; omega)
  have h4 := short_le (v := c.xor.toNat) (by have := h.xor.2; omega)
  unfold showL
  simp only [List.length_append, hex_len, List.length_cons, List.length_nil]
  omega

/-! ## what is read of a text -/
def cutP (lab s : List Int) : List Int := if lab.isPrefixOf s = true then s.drop lab.length else s
def upP (s : List Int) : List Int := s.takeWhile fun c => decide (c ≠ 59)
def fromP (s : List Int) : List Int := s.dropWhile fun c => decide (c ≠ 59)
def idOk (s : List Int) : Bool := decide (s.length = 32) && (List.range 16).all fun i => (idAt s i).isSome
theorem idOk_iff (s : List Int) : idOk s = true ↔ s.length = 32 ∧ ∀ i, i < 16 → idAt s i ≠ none := by
  unfold idOk
  rw [Bool.and_eq_true, decide_eq_true_eq, List.all_eq_true]
  refine and_congr_right fun _ => ⟨fun h i hi e => ?_, fun h i hi => ?_⟩
  · have := h i (List.mem_range.2 hi)
    rw [e] at this; cases this
  · have := h i (List.mem_range.1 hi)
    cases hv : idAt s i with
    | none => exact absurd hv this
    | some _ => rfl
def idOf (s : List Int) (i : Nat) : Int := if idOk s = true ∧ i < 16 then ((idAt s i).getD 0 : Nat) else 0
def numOk (s : List Int) : Bool := decide (s ≠ [] ∧ s.length ≤ 16 ∧ (s.head? = some 48 → s = [48]) ∧ valF s 0 ≠ none)
def numOf (s : List Int) : Nat := if numOk s = true then (valF s 0).getD 0 else 0
theorem part_ok {lab s : List Int} (h : lab.isPrefixOf s = true) : s = lab ++ (upP (cutP lab s) ++ fromP (cutP lab s)) := by
  unfold upP fromP cutP
  rw [if_pos h, List.takeWhile_append_dropWhile]
  obtain ⟨t, rfl⟩ := List.isPrefixOf_iff_prefix.1 h
  simp
theorem part_yes {lab s p r : List Int} (h : s = lab ++ (p ++ r)) (hp : ∀ c ∈ p, c ≠ 59) (hr : r = [] ∨ r.head? = some 59) : lab.isPrefixOf s = true ∧ upP (cutP lab s) = p ∧ fromP (cutP lab s) = r := by
  subst h
  have h1 : lab.isPrefixOf (lab ++ (p ++ r)) = true := List.isPrefixOf_iff_prefix.2 ⟨_, rfl⟩
  have h2 : cutP lab (lab ++ (p ++ r)) = p ++ r := by unfold cutP; rw [if_pos h1]; simp
  refine ⟨h1, ?_⟩
  rw [h2]
  unfold upP fromP
  have h3 : r.takeWhile (fun c => decide (c ≠ 59)) = [] ∧ r.dropWhile (fun c => decide (c ≠ 59)) = r := by
    rcases hr with rfl | hr
    · exact ⟨rfl, rfl⟩
    · cases r with
      | nil => exact ⟨rfl, rfl⟩
      | cons x t =>
        simp at hr
        subst hr
        exact ⟨rfl, rfl⟩
  rw [List.takeWhile_append_of_pos (fun c hc => decide_eq_true (hp c hc)), List.dropWhile_append_of_pos (fun c hc => decide_eq_true (hp c hc)), h3.1, h3.2, List.append_nil]
  exact ⟨rfl, rfl⟩
theorem id_fine {s : List Int} (h : idOk s = true) : s = hexL (idOf s) ∧ IdOk (idOf s) := by
  have h0 := h
  rw [idOk_iff] at h
  have each : ∀ i, i < 16 → ∃ v, idAt s i = some v ∧ v < 256 := fun i hi => by
    cases hv : idAt s i with
    | none => exact absurd hv (h.2 i hi)
    | some v =>
      refine ⟨v, rfl, ?_⟩
      unfold idAt at hv
      have hl : ((s.drop (2 * i)).take 2).length = 2 := by rw [List.length_take, List.length_drop, h.1]; omega
      exact (valF_back 2 _ hl hv).2
  constructor
  · refine hex_back h.1 fun i hi => ?_
    obtain ⟨v, e, _⟩ := each i hi
    unfold idOf
    rw [if_pos ⟨h0, hi⟩, e]
    simp
  · intro i
    unfold idOf
    by_cases hi : i < 16
    · obtain ⟨v, e, hv⟩ := each i hi
      rw [if_pos ⟨h0, hi⟩, e]
      simp
      omega
    · rw [if_neg (by omega)]; omega
theorem id_hex {K : Nat → Int} (hK : IdOk K) : idOk (hexL K) = true ∧ ∀ i, i < 16 → idOf (hexL K) i = K i := by
  have each : ∀ i, i < 16 → idAt (hexL K) i = some (K i).toNat := fun i hi => hexN_at hK hi
  have h0 : idOk (hexL K) = true := by
    rw [idOk_iff]
    exact ⟨hex_len K, fun i hi => by rw [each i hi]; simp⟩
  refine ⟨h0, fun i hi => ?_⟩
  unfold idOf
  rw [if_pos ⟨h0, hi⟩, each i hi]
  have := (hK i).1
  simp
  omega
theorem num_fine {s : List Int} (h : numOk s = true) : s = shortL (numOf s) ∧ numOf s < 18446744073709551616 := by
  have h0 := h
  unfold numOk at h
  rw [decide_eq_true_eq] at h
  obtain ⟨h1, h2, h3, h4⟩ := h
  cases hv : valF s 0 with
  | none => exact absurd hv h4
  | some v =>
    have e : numOf s = v := by unfold numOf; rw [if_pos h0, hv]; rfl
    rw [e]
    refine ⟨short_back _ s rfl hv ⟨h1, h3⟩, ?_⟩
    have := (valF_back _ s rfl hv).2
    have h5 : 16 ^ s.length ≤ 16 ^ 16 := Nat.pow_le_pow_right (by decide) h2
    exact Nat.lt_of_lt_of_le this h5
theorem num_short {v : Nat} (h : v < 18446744073709551616) : numOk (shortL v) = true ∧ numOf (shortL v) = v := by
  have h0 : numOk (shortL v) = true := by
    unfold numOk
    rw [decide_eq_true_eq]
    exact ⟨(few_short v).1, (short_le h).2, (few_short v).2, by rw [short_val]; simp⟩
  refine ⟨h0, ?_⟩
  unfold numOf
  rw [if_pos h0, short_val]; rfl

/-- Six parts, one behind the other. -/
def L1 : List Int := [115, 61]
def L2 : List Int := [59, 105, 61]
def L3 : List Int := [59, 98, 61]
def L4 : List Int := [59, 109, 61]
def L5 : List Int := [59, 116, 61]
def L6 : List Int := [59, 120, 61]
def nx (lab s : List Int) : List Int := fromP (cutP lab s)
def pc (lab s : List Int) : List Int := upP (cutP lab s)
def s1 (s : List Int) := nx L1 s
def s2 (s : List Int) := nx L2 (s1 s)
def s3 (s : List Int) := nx L3 (s2 s)
def s4 (s : List Int) := nx L4 (s3 s)
def s5 (s : List Int) := nx L5 (s4 s)
def s6 (s : List Int) := nx L6 (s5 s)
def curOf (s : List Int) : Cur := ⟨idOf (pc L1 s), numOf (pc L2 (s1 s)), idOf (pc L3 (s2 s)), numOf (pc L4 (s3 s)), numOf (pc L5 (s4 s)), numOf (pc L6 (s5 s))⟩
def stepOk (lab s : List Int) (f : List Int → Bool) : Bool := lab.isPrefixOf s && f (pc lab s)
def okP (s : List Int) : Bool := stepOk L1 s idOk && (stepOk L2 (s1 s) numOk && (stepOk L3 (s2 s) idOk && (stepOk L4 (s3 s) numOk && (stepOk L5 (s4 s) numOk && (stepOk L6 (s5 s) numOk && decide (s6 s = []))))))
theorem step_ok {lab s : List Int} {f : List Int → Bool} (h : stepOk lab s f = true) : s = lab ++ (pc lab s ++ nx lab s) ∧ f (pc lab s) = true := by
  unfold stepOk at h
  rw [Bool.and_eq_true] at h
  exact ⟨part_ok h.1, h.2⟩
theorem step_yes {lab s p r : List Int} {f : List Int → Bool} (h : s = lab ++ (p ++ r)) (hp : ∀ c ∈ p, 48 ≤ c ∧ c ≤ 102 ∧ c ≠ 59) (hr : r = [] ∨ r.head? = some 59) (hf : f p = true) : stepOk lab s f = true ∧ pc lab s = p ∧ nx lab s = r := by
  obtain ⟨h1, h2, h3⟩ := part_yes h (fun c hc => (hp c hc).2.2) hr
  refine ⟨?_, h2, h3⟩
  unfold stepOk pc
  rw [h1, h2, hf]; rfl
/-- What is read whole is the text of what is read. -/
theorem show_of {s : List Int} (h : okP s = true) : s = showL (curOf s) ∧ (curOf s).Ok := by
  unfold okP at h
  simp only [Bool.and_eq_true, decide_eq_true_eq] at h
  obtain ⟨h1, h2, h3, h4, h5, h6, h7⟩ := h
  obtain ⟨e1, f1⟩ := step_ok h1
  obtain ⟨e2, f2⟩ := step_ok h2
  obtain ⟨e3, f3⟩ := step_ok h3
  obtain ⟨e4, f4⟩ := step_ok h4
  obtain ⟨e5, f5⟩ := step_ok h5
  obtain ⟨e6, f6⟩ := step_ok h6
  have u64 : ∀ {t : List Int}, numOk t = true → U64 (numOf t : Int) := fun ht => by
    have := (num_fine ht).2
    exact ⟨by omega, by omega⟩
  refine ⟨?_, ⟨(id_fine f1).2, u64 f2, (id_fine f3).2, u64 f4, u64 f5, u64 f6⟩⟩
  unfold showL curOf
  simp only [Int.toNat_natCast]
  rw [← (id_fine f1).1, ← (num_fine f2).1, ← (id_fine f3).1, ← (num_fine f4).1, ← (num_fine f5).1, ← (num_fine f6).1]
  have g6 : s5 s = L6 ++ pc L6 (s5 s) := by rw [show nx L6 (s5 s) = [] from h7, List.append_nil] at e6; exact e6
  calc s = L1 ++ (pc L1 s ++ s1 s) := e1
    _ = L1 ++ (pc L1 s ++ (L2 ++ (pc L2 (s1 s) ++ s2 s))) := by rw [← show s1 s = L2 ++ (pc L2 (s1 s) ++ s2 s) from e2]
    _ = L1 ++ (pc L1 s ++ (L2 ++ (pc L2 (s1 s) ++ (L3 ++ (pc L3 (s2 s) ++ s3 s))))) := by rw [← show s2 s = L3 ++ (pc L3 (s2 s) ++ s3 s) from e3]
    _ = L1 ++ (pc L1 s ++ (L2 ++ (pc L2 (s1 s) ++ (L3 ++ (pc L3 (s2 s) ++ (L4 ++ (pc L4 (s3 s) ++ s4 s))))))) := by rw [← show s3 s = L4 ++ (pc L4 (s3 s) ++ s4 s) from e4]
    _ = L1 ++ (pc L1 s ++ (L2 ++ (pc L2 (s1 s) ++ (L3 ++ (pc L3 (s2 s) ++ (L4 ++ (pc L4 (s3 s) ++ (L5 ++ (pc L5 (s4 s) ++ s5 s))))))))) := by rw [← show s4 s = L5 ++ (pc L5 (s4 s) ++ s5 s) from e5]
    _ = L1 ++ (pc L1 s ++ (L2 ++ (pc L2 (s1 s) ++ (L3 ++ (pc L3 (s2 s) ++ (L4 ++ (pc L4 (s3 s) ++ (L5 ++ (pc L5 (s4 s) ++ (L6 ++ pc L6 (s5 s))))))))))) := by rw [← g6]
    _ = _ := by unfold L1 L2 L3 L4 L5 L6; simp only [List.append_assoc]
structure Same (a b : Cur) : Prop where
  seq : ∀ i, i < 16 → a.seq i = b.seq i
  n : a.n = b.n
  boot : ∀ i, i < 16 → a.boot i = b.boot i
  mono : a.mono = b.mono
  real : a.real = b.real
  xor : a.xor = b.xor
/-- What is shown is read whole, as it was. -/
theorem of_show {c : Cur} (h : c.Ok) : okP (showL c) = true ∧ Same (curOf (showL c)) c := by
  have nb : ∀ {x : Int}, U64 x → x.toNat < 18446744073709551616 := fun hx => by have := hx.2; omega
  obtain ⟨k1, k2⟩ := id_hex h.seq
  obtain ⟨n1, n2⟩ := num_short (nb h.n)
  obtain ⟨b1, b2⟩ := id_hex h.boot
  obtain ⟨m1, m2⟩ := num_short (nb h.mono)
  obtain ⟨r1, r2⟩ := num_short (nb h.real)
  obtain ⟨x1, x2⟩ := num_short (nb h.xor)
  obtain ⟨r6, hr6⟩ : ∃ r, ([] : List Int) = r := ⟨_, rfl⟩
  obtain ⟨r5, hr5⟩ : ∃ r, L6 ++ (shortL c.xor.toNat ++ r6) = r := ⟨_, rfl⟩
  obtain ⟨r4, hr4⟩ : ∃ r, L5 ++ (shortL c.real.toNat ++ r5) = r := ⟨_, rfl⟩
  obtain ⟨r3, hr3⟩ : ∃ r, L4 ++ (shortL c.mono.toNat ++ r4) = r := ⟨_, rfl⟩
  obtain ⟨r2', hr2⟩ : ∃ r, L3 ++ (hexL c.boot ++ r3) = r := ⟨_, rfl⟩
  obtain ⟨r1', hr1⟩ : ∃ r, L2 ++ (shortL c.n.toNat ++ r2') = r := ⟨_, rfl⟩
  have e : showL c = L1 ++ (hexL c.seq ++ r1') := by
    rw [← hr1, ← hr2, ← hr3, ← hr4, ← hr5, ← hr6]
    unfold showL L1 L2 L3 L4 L5 L6
    simp only [List.append_assoc, List.append_nil]
  obtain ⟨a1, a2, a3⟩ := step_yes (f := idOk) e (hexN_byte h.seq 16) (.inr (by rw [← hr1]; rfl)) k1
  obtain ⟨c1, c2, c3⟩ := step_yes (f := numOk) hr1.symm (short_byte _) (.inr (by rw [← hr2]; rfl)) n1
  obtain ⟨d1, d2, d3⟩ := step_yes (f := idOk) hr2.symm (hexN_byte h.boot 16) (.inr (by rw [← hr3]; rfl)) b1
  obtain ⟨p1, p2, p3⟩ := step_yes (f := numOk) hr3.symm (short_byte _) (.inr (by rw [← hr4]; rfl)) m1
  obtain ⟨q1, q2, q3⟩ := step_yes (f := numOk) hr4.symm (short_byte _) (.inr (by rw [← hr5]; rfl)) r1
  obtain ⟨t1, t2, t3⟩ := step_yes (f := numOk) hr5.symm (short_byte _) (.inl hr6.symm) x1
  have f1 : s1 (showL c) = r1' := a3
  have f2 : s2 (showL c) = r2' := by unfold s2; rw [f1]; exact c3
  have f3 : s3 (showL c) = r3 := by unfold s3; rw [f2]; exact d3
  have f4 : s4 (showL c) = r4 := by unfold s4; rw [f3]; exact p3
  have f5 : s5 (showL c) = r5 := by unfold s5; rw [f4]; exact q3
  have f6 : s6 (showL c) = r6 := by unfold s6; rw [f5]; exact t3
  constructor
  · unfold okP
    rw [f1, f2, f3, f4, f5, f6, a1, c1, d1, p1, q1, t1, decide_eq_true hr6.symm]; rfl
  · have cast : ∀ {x : Int}, U64 x → ((x.toNat : Nat) : Int) = x := fun hx => by have := hx.1; omega
    have h1 : idOf (pc L1 (showL c)) = idOf (hexL c.seq) := by rw [a2]
    have h2 : numOf (pc L2 (s1 (showL c))) = c.n.toNat := by rw [f1, c2, n2]
    have h3 : idOf (pc L3 (s2 (showL c))) = idOf (hexL c.boot) := by rw [f2, d2]
    have h4 : numOf (pc L4 (s3 (showL c))) = c.mono.toNat := by rw [f3, p2, m2]
    have h5 : numOf (pc L5 (s4 (showL c))) = c.real.toNat := by rw [f4, q2, r2]
    have h6 : numOf (pc L6 (s5 (showL c))) = c.xor.toNat := by rw [f5, t2, x2]
    unfold curOf
    rw [h1, h2, h3, h4, h5, h6]
    exact ⟨k2, cast h.n, b2, cast h.mono, cast h.real, cast h.xor⟩
theorem hexN_cong {K M : Nat → Int} : ∀ {n : Nat}, (∀ i, i < n → K i = M i) → hexN K n = hexN M n
  | 0, _ => rfl
  | n + 1, h => by rw [hexN_succ, hexN_succ, hexN_cong (n := n) fun i hi => h i (by omega), h n (by omega)]
theorem Same.show {a b : Cur} (h : Same a b) : showL a = showL b := by
  unfold showL hexL
  rw [h.n, h.mono, h.real, h.xor]
  have e1 : hexN a.seq 16 = hexN b.seq 16 := hexN_cong h.seq
  have e2 : hexN a.boot 16 = hexN b.boot 16 := hexN_cong h.boot
  unfold hexN at e1 e2
  rw [e1, e2]
theorem Same.v {a b : Cur} (h : Same a b) : a.v = b.v := by
  unfold Cur.v Cur.cells
  simp only [h.n, h.mono, h.real, h.xor, h.seq 0 (by decide), h.seq 1 (by decide), h.seq 2 (by decide), h.seq 3 (by decide), h.seq 4 (by decide), h.seq 5 (by decide), h.seq 6 (by decide), h.seq 7 (by decide), h.seq 8 (by decide), h.seq 9 (by decide), h.seq 10 (by decide), h.seq 11 (by decide), h.seq 12 (by decide), h.seq 13 (by decide), h.seq 14 (by decide), h.seq 15 (by decide),
    h.boot 0 (by decide), h.boot 1 (by decide), h.boot 2 (by decide), h.boot 3 (by decide), h.boot 4 (by decide), h.boot 5 (by decide), h.boot 6 (by decide), h.boot 7 (by decide), h.boot 8 (by decide), h.boot 9 (by decide), h.boot 10 (by decide), h.boot 11 (by decide), h.boot 12 (by decide), h.boot 13 (by decide), h.boot 14 (by decide), h.boot 15 (by decide)]
end Go.Proofs.YtpfkhcgeblihcaaDoor.Kub
