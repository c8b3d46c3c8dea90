/-
  A head of the document's that came in by value.
-/
import Derived.Test.YtekmbgcijkdkfaaGa
import Derived.Lib.SmallJoins
namespace Go.Proofs.Ytekmbgcijkdkfaa.Gh
open Go.ChangeShapes Go.WideShapes Go.ChangeAt Go.RowKit Go.Deep
open Bytes8 Blk8 Ga
set_option linter.unusedVariables false
set_option linter.unusedSimpArgs false
set_option maxRecDepth 100000

theorem arr_cells {H : Type} {enc : TypeId × Value → H} {P : Program} {w : World} {base : Nat} {held : Bool} {spare : Nat → Bool} {t e : TypeId} {fuel n : Nat} {k : IntKind} {l : List Value} {x : DataW H × List MemPlace} (ht : P.underlying t = some (.array n e)) (he : P.underlying e = some (.int k)) (ce : P.cellsOf e = 1) (hl : l.length = n)
    (hf : DataW.trod enc P w base spare held fuel t l = some x) : ∀ i, i < n → ∃ m, l[i]? = some (.int k m) ∧ (Lit.int k m).wf = true := by
  obtain ⟨xs, m, _, _, _, hlen, hel⟩ := DataW.trod_array ht hf
  intro i hi
  have h1 := hel i hi
  have hx : xs[i]? = some (xs[i]'(by omega)) := List.getElem?_eq_getElem (by omega)
  rw [hx, ce] at h1
  obtain ⟨n', hn, _, hw⟩ := DataW.trod_int he h1
  refine ⟨n', ?_, hw⟩
  have hil : i < l.length := by omega
  simp only [Nat.mul_one] at hn
  have h2 : (l.drop i).take 1 = [l[i]] := by rw [List.drop_eq_getElem_cons hil]; rfl
  rw [h2] at hn
  injection hn with hn
  rw [List.getElem?_eq_getElem hil, hn]
theorem int_cell {H : Type} {enc : TypeId × Value → H} {P : Program} {w : World} {base : Nat} {held : Bool} {spare : Nat → Bool} {t : TypeId} {fuel o : Nat} {k : IntKind} {l : List Value} {x : DataW H × List MemPlace} (ht : P.underlying t = some (.int k)) (ho : o < l.length)
    (hf : DataW.trod enc P w base spare held fuel t ((l.drop o).take 1) = some x) : ∃ m, l[o]? = some (.int k m) ∧ (Lit.int k m).wf = true := by
  obtain ⟨n', hn, _, hw⟩ := DataW.trod_int ht hf
  refine ⟨n', ?_, hw⟩
  have h2 : (l.drop o).take 1 = [l[o]] := by rw [List.drop_eq_getElem_cons ho]; rfl
  rw [h2] at hn
  injection hn with hn
  rw [List.getElem?_eq_getElem ho, hn]
theorem cut_cell {l : List Value} {o n i : Nat} (hi : i < n) : ((l.drop o).take n)[i]? = l[o + i]? := by
  rw [List.getElem?_take_of_lt hi, List.getElem?_drop]

/-- The kind at a place of a head of 20 numbers. -/
def kindAt (i : Nat) : IntKind := if i < 2 then .u32 else if i = 2 then .i64 else if i < 67 then .u8 else if i < 87 then .u64 else if i < 89 then .u32 else .u64
set_option maxHeartbeats 1000000 in
theorem head_of_trod {H : Type} {enc : TypeId × Value → H} {P : Program} {w : World} {base b0 : Nat} {held : Bool} {r : Reach} {spare : Nat → Bool} {t q3 q7 : TypeId} {f0 f1 f2 f3 f4 f5 f6 f7 f8 f9 f10 : Field} {v : Value} {d : DataW H} {p : List MemPlace}
    (hs : P.underlying t = some (.struct #[f0, f1, f2, f3, f4, f5, f6, f7, f8, f9, f10])) (hoff : [f0.offset, f1.offset, f2.offset, f3.offset, f4.offset, f5.offset, f6.offset, f7.offset, f8.offset, f9.offset, f10.offset] = [0, 1, 2, 3, 19, 35, 51, 67, 87, 88, 89])
    (hcel : [P.cellsOf f0.type, P.cellsOf f1.type, P.cellsOf f2.type, P.cellsOf f3.type, P.cellsOf f4.type, P.cellsOf f5.type, P.cellsOf f6.type, P.cellsOf f7.type, P.cellsOf f8.type, P.cellsOf f9.type, P.cellsOf f10.type] = [1, 1, 1, 16, 16, 16, 16, 20, 1, 1, 1]) (hC : P.cellsOf t = 90)
    (g0 : P.underlying f0.type = some (.int .u32)) (g1 : P.underlying f1.type = some (.int .u32)) (g2 : P.underlying f2.type = some (.int .i64))
    (g3 : P.underlying f3.type = some (.array 16 q3)) (g4 : P.underlying f4.type = some (.array 16 q3)) (g5 : P.underlying f5.type = some (.array 16 q3)) (g6 : P.underlying f6.type = some (.array 16 q3)) (e3 : P.underlying q3 = some (.int .u8)) (c3 : P.cellsOf q3 = 1)
    (g7 : P.underlying f7.type = some (.array 20 q7)) (e7 : P.underlying q7 = some (.int .u64)) (c7 : P.cellsOf q7 = 1)
    (g8 : P.underlying f8.type = some (.int .u32)) (g9 : P.underlying f9.type = some (.int .u32)) (g10 : P.underlying f10.type = some (.int .u64))
    (hv : Value.okWide P w r b0 t v) (h : DataW.Trod enc P w base spare held t v d p) : ∃ hd : HD, v = .agg (hd.cells 20).toArray ∧ hd.Ok 20 := by
  obtain ⟨cs, rfl, hsz⟩ := okWide_struct hs hv
  rw [hC] at hsz
  obtain ⟨l⟩ := cs
  have hl : l.length = 90 := by simpa using hsz
  obtain ⟨fuel, hf⟩ := h
  obtain ⟨xs, k, _, _, _, hxl, hfd⟩ := DataW.trod_struct hs hf
  simp only [List.cons.injEq, and_true] at hoff hcel
  obtain ⟨of0, of1, of2, of3, of4, of5, of6, of7, of8, of9, of10⟩ := hoff
  obtain ⟨ca0, ca1, ca2, ca3, ca4, ca5, ca6, ca7, ca8, ca9, ca10⟩ := hcel
  have hx : ∀ j, j < 11 → ∃ y, xs[j]? = some y := fun j hj => ⟨_, List.getElem?_eq_getElem (by rw [hxl]; simpa using hj)⟩
  have arr : ∀ (j : Nat) (f : Field) (q : TypeId) (o n : Nat) (kk : IntKind), #[f0, f1, f2, f3, f4, f5, f6, f7, f8, f9, f10][j]? = some f → j < 11 → f.offset = o → P.cellsOf f.type = n → P.underlying f.type = some (.array n q) → P.underlying q = some (.int kk) → P.cellsOf q = 1 → o + n ≤ 90 → ∀ i, i < n → ∃ m, l[o + i]? = some (.int kk m) ∧ (Lit.int kk m).wf = true := by
    intro j f q o n kk hj hj2 ho hn hu hq hc hle i hi
    have h1 := hfd j f hj
    obtain ⟨y, hy⟩ := hx j hj2
    rw [hy, ho, hn] at h1
    obtain ⟨m, h2, h3⟩ := arr_cells hu hq hc (by simp [Value.cells, hl]; omega) h1 i hi
    refine ⟨m, ?_, h3⟩
    rw [← h2]
    simp only [Value.cells]
    exact (cut_cell hi).symm
  have one : ∀ (j : Nat) (f : Field) (o : Nat) (kk : IntKind), #[f0, f1, f2, f3, f4, f5, f6, f7, f8, f9, f10][j]? = some f → j < 11 → f.offset = o → P.cellsOf f.type = 1 → P.underlying f.type = some (.int kk) → o < 90 → ∃ m, l[o]? = some (.int kk m) ∧ (Lit.int kk m).wf = true := by
    intro j f o kk hj hj2 ho hn hu hle
    have h1 := hfd j f hj
    obtain ⟨y, hy⟩ := hx j hj2
    rw [hy, ho, hn] at h1
    exact int_cell hu (by omega) h1
  have each : ∀ i, i < 90 → ∃ m, l[i]? = some (.int (kindAt i) m) ∧ (Lit.int (kindAt i) m).wf = true := by
    intro i hi
    by_cases h0 : i = 0
    · subst h0; exact one 0 f0 0 .u32 rfl (by decide) of0 ca0 g0 (by decide)
    by_cases h1 : i = 1
    · subst h1; exact one 1 f1 1 .u32 rfl (by decide) of1 ca1 g1 (by decide)
    by_cases h2 : i = 2
    · subst h2; exact one 2 f2 2 .i64 rfl (by decide) of2 ca2 g2 (by decide)
    by_cases h3 : i < 67
    · have hk : kindAt i = .u8 := by unfold kindAt; rw [if_neg (by omega), if_neg h2, if_pos h3]
      rw [hk]
      by_cases a1 : i < 19
      · have := arr 3 f3 q3 3 16 .u8 rfl (by decide) of3 ca3 g3 e3 c3 (by decide) (i - 3) (by omega)
        rwa [show 3 + (i - 3) = i by omega] at this
      by_cases a2 : i < 35
      · have := arr 4 f4 q3 19 16 .u8 rfl (by decide) of4 ca4 g4 e3 c3 (by decide) (i - 19) (by omega)
        rwa [show 19 + (i - 19) = i by omega] at this
      by_cases a3 : i < 51
      · have := arr 5 f5 q3 35 16 .u8 rfl (by decide) of5 ca5 g5 e3 c3 (by decide) (i - 35) (by omega)
        rwa [show 35 + (i - 35) = i by omega] at this
      · have := arr 6 f6 q3 51 16 .u8 rfl (by decide) of6 ca6 g6 e3 c3 (by decide) (i - 51) (by omega)
        rwa [show 51 + (i - 51) = i by omega] at this
    by_cases h4 : i < 87
    · have hk : kindAt i = .u64 := by unfold kindAt; rw [if_neg (by omega), if_neg h2, if_neg h3, if_pos h4]
      rw [hk]
      have := arr 7 f7 q7 67 20 .u64 rfl (by decide) of7 ca7 g7 e7 c7 (by decide) (i - 67) (by omega)
      rwa [show 67 + (i - 67) = i by omega] at this
    by_cases h5 : i = 87
    · subst h5; exact one 8 f8 87 .u32 rfl (by decide) of8 ca8 g8 (by decide)
    by_cases h6 : i = 88
    · subst h6; exact one 9 f9 88 .u32 rfl (by decide) of9 ca9 g9 (by decide)
    · obtain rfl : i = 89 := by omega
      exact one 10 f10 89 .u64 rfl (by decide) of10 ca10 g10 (by decide)
  clear arr one hfd hx hf
  have hch : ∃ f : Nat → Int, ∀ i, i < 90 → l[i]? = some (.int (kindAt i) (f i)) ∧ (Lit.int (kindAt i) (f i)).wf = true :=
    ⟨fun i => if hi : i < 90 then (each i hi).choose else 0, fun i hi => by simp only [dif_pos hi]; exact (each i hi).choose_spec⟩
  obtain ⟨f, hF⟩ := hch
  have b8 : ∀ i, 3 ≤ i → i < 67 → 0 ≤ f i ∧ f i < 256 := fun i h1 h2 => by
    have := (hF i (by omega)).2
    rw [show kindAt i = .u8 by unfold kindAt; rw [if_neg (by omega), if_neg (by omega), if_pos h2]] at this
    have := bounds_u8 this
    omega
  have b64 : ∀ i, 67 ≤ i → i < 87 → 0 ≤ f i ∧ f i ≤ 18446744073709551615 := fun i h1 h2 => by
    have := (hF i (by omega)).2
    rw [show kindAt i = .u64 by unfold kindAt; rw [if_neg (by omega), if_neg (by omega), if_neg (by omega), if_pos h2]] at this
    exact bounds_u64 this
  have wfu32 : ∀ x : Int, (Lit.int .u32 x).wf = true → 0 ≤ x ∧ x ≤ 4294967295 := fun x hx => by
    simp [Lit.wf, IntKind.min, IntKind.max, IntKind.signed, IntKind.bits] at hx; omega
  have wfi64 : ∀ x : Int, (Lit.int .i64 x).wf = true → -9223372036854775808 ≤ x ∧ x ≤ 9223372036854775807 := fun x hx => by
    simp [Lit.wf, IntKind.min, IntKind.max, IntKind.signed, IntKind.bits] at hx; omega
  refine ⟨⟨f 0, f 1, f 2, fun i => if i < 64 then f (3 + i) else 0, fun i => if i < 20 then f (67 + i) else 0, f 87, f 88, f 89⟩, ?_, ?_⟩
  · congr 1
    apply Array.ext'
    apply List.ext_getElem?
    intro i
    by_cases hi : i < 90
    · rw [(hF i hi).1, HD.get _ 20 i hi]
      congr 1
      unfold HD.at_ kindAt
      by_cases h0 : i = 0
      · subst h0; rfl
      by_cases h1 : i = 1
      · subst h1; rfl
      by_cases h2 : i = 2
      · subst h2; rfl
      by_cases h3 : i < 67
      · rw [if_neg (by omega), if_neg h2, if_pos h3, if_neg (by omega), if_pos h3]
        simp only [if_pos (show i - 3 < 64 by omega), show 3 + (i - 3) = i by omega]
      by_cases h4 : i < 87
      · rw [if_neg (by omega), if_neg h2, if_neg h3, if_pos h4, if_neg (by omega), if_neg h3, if_pos (by omega)]
        simp only [if_pos (show i - 67 < 20 by omega), show 67 + (i - 67) = i by omega]
      by_cases h5 : i = 87
      · subst h5; rfl
      by_cases h6 : i = 88
      · subst h6; rfl
      · obtain rfl : i = 89 := by omega
        rfl
    · rw [List.getElem?_eq_none (by simpa [hl] using hi), List.getElem?_eq_none (by simp [HD.len]; omega)]
  · exact ⟨wfu32 _ (hF 0 (by decide)).2, wfu32 _ (hF 1 (by decide)).2, wfi64 _ (hF 2 (by decide)).2, fun i => by
      dsimp only
      split
      · exact b8 _ (by omega) (by omega)
      · decide, fun i => by
      dsimp only
      split
      · exact b64 _ (by omega) (by omega)
      · decide, wfu32 _ (hF 87 (by decide)).2, wfu32 _ (hF 88 (by decide)).2, bounds_u64 (hF 89 (by decide)).2⟩
end Go.Proofs.Ytekmbgcijkdkfaa.Gh
