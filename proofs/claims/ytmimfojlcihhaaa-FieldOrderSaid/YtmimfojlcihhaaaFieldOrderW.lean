/-
  The walk of FieldOrder.
-/
import Derived.Test.YtmimfojlcihhaaaSeqP
namespace Go.Proofs.Ytmimfojlcihhaaa.FieldOrderW
open Go.ChangeShapes Go.WideShapes Go.ChangeAt Go.RowKit
open Bytes8 Blk8 Fa Fb Fc Fo Ff Rows2 Seq8 SeqP
set_option linter.unusedVariables false
set_option linter.unusedSimpArgs false

/-- Of pairs that may be: unlike ones have unlike payloads. -/
theorem pay_inj {n v m u : List Int} (h : flawI n v = 0) (k : flawI m u = 0) (e : pay n v = pay m u) : n = m ∧ v = u := by
  obtain ⟨_, h1, h2⟩ := split_pay h
  obtain ⟨_, k1, k2⟩ := split_pay k
  rw [e] at h1 h2
  exact ⟨h1.symm.trans k1, h2.symm.trans k2⟩
theorem two_cells {w : World} {g : Nat} {a b : Value} {T : TypeId} (h : Blk w g [a, b] T) : w.cell? ⟨g, 0, none⟩ = some a ∧ w.cell? ⟨g, 1, none⟩ = some b :=
  ⟨h.cell (i := 0) rfl, h.cell (i := 1) rfl⟩
theorem seq_new {w : World} {a : Option Addr} {len cap : Nat} {f : Nat → Int} (g : Nat) (hg : w.heap.size = g) (h : InInts .i64 w a len f) (hl : len ≤ 9223372036854775807) (hlt : 0 < len → ∀ b off, a = some ⟨b, off, none⟩ → b ≠ g) :
    SeqIn (w.alloc (.cells #[.slice a len cap, .int .i64 0] 48)) g a len cap f 0 := by
  subst hg
  exact ⟨Blk.new w _ _, h.below ((Below.refl _ _).alloc (Nat.le_refl _) _), hlt, Nat.zero_le _, hl⟩

set_option maxHeartbeats 8000000 in
set_option maxRecDepth 100000 in
theorem walk_main (a : Option Addr) (len cap : Nat) (f : Nat → Int) (w : World) (hin : InInts .i64 w a len f) (hl : len ≤ 9223372036854775807) :
    Calls Try.prog 6 #[.slice a len cap] w fun e w' => e = .returned (.bool true) ∧ Below w.heap.size w w' := by
  have HI := Lib.hid hin
  have HLt : Hid (0 < len → ∀ b off, a = some ⟨b, off, none⟩ → b < w.heap.size) := Lib.hid fun h b off e => by
    obtain ⟨b', off', e', h1, _⟩ := hin 0 h
    rw [e] at e'; simp at e'; rw [e'.1]; exact h1
  have hmx : Try.prog.follows .mixedOrders = true := by kernel_rfl
  clear hin
  go_enter Try.func6, Try.ntmps6
  go_wp2_with (first
    | (go_at_call 8; (with_reducible refine (first_any _).mono ?_); rintro e w1 ⟨rfl, hbel⟩; have B1 := Lib.hid (hbel.alloc hbel.size (.cells #[.slice a len cap, .int .i64 0] 48)); have G1 := Lib.hid hbel.size; have S1 := Lib.hid (seq_new (cap := cap) w1.heap.size rfl (HI.out.below hbel) hl (fun h b off e => by have := HLt.out h b off e; have := hbel.size; omega)); clear hbel)
    | (go_at_call 28; (with_reducible refine (pair_any w1.heap.size a len cap f 0 _ S1.out).mono ?_); rintro e w2 ⟨n1, v1, k2, rfl, ha1, hS, hK⟩; have A1 := Lib.hid ha1; have S2 := Lib.hid hS; have B2 := Lib.hid (B1.out.trans ((hK.mono B1.out.size).below G1.out)); clear hS hK ha1)
    | (go_at_call 28; (with_reducible refine (pair_any w1.heap.size a len cap f k2 _ S2.out).mono ?_); rintro e w3 ⟨n2, v2, k3, rfl, ha2, hS, hK⟩; have A2 := Lib.hid ha2; have S3 := Lib.hid hS; have B3 := Lib.hid (B2.out.trans ((hK.mono B2.out.size).below G1.out)); clear hS hK ha2)
    | (go_at_call 28; (with_reducible refine (pair_any w1.heap.size a len cap f k3 _ S3.out).mono ?_); rintro e w4 ⟨n3, v3, k4, rfl, ha3, hS, hK⟩; have A3 := Lib.hid ha3; have B4 := Lib.hid (B3.out.trans ((hK.mono B3.out.size).below G1.out)); clear hS hK ha3)
    | (go_at_call 18; fail))
  obtain ⟨q1, q2⟩ := flaw_len A1.out.2.2
  obtain ⟨q3, q4⟩ := flaw_len A2.out.2.2
  obtain ⟨q5, q6⟩ := flaw_len A3.out.2.2
  have HAB := Lib.hid fun w => less_any n1 v1 n2 v2 A1.out.1 A1.out.2.1 A2.out.1 A2.out.2.1 (by omega) (by omega) w
  have HBC := Lib.hid fun w => less_any n2 v2 n3 v3 A2.out.1 A2.out.2.1 A3.out.1 A3.out.2.1 (by omega) (by omega) w
  have HAC := Lib.hid fun w => less_any n1 v1 n3 v3 A1.out.1 A1.out.2.1 A3.out.1 A3.out.2.1 (by omega) (by omega) w
  have HBA := Lib.hid fun w => less_any n2 v2 n1 v1 A2.out.1 A2.out.2.1 A1.out.1 A1.out.2.1 (by omega) (by omega) w
  have heq := neq_pair A1.out.1 A1.out.2.1 A2.out.1 A2.out.2.1
  have hway : lessP n1 v1 n2 v2 = true ∧ lessP n2 v2 n1 v1 = false ∧ decide (n1 = n2 ∧ v1 = v2) = false ∧ (lessP n2 v2 n3 v3 = true ∧ lessP n1 v1 n3 v3 = true ∨ lessP n2 v2 n3 v3 = false) ∨ lessP n1 v1 n2 v2 = false ∧ lessP n2 v2 n1 v1 = true ∧ decide (n1 = n2 ∧ v1 = v2) = false ∨ lessP n1 v1 n2 v2 = false ∧ lessP n2 v2 n1 v1 = false ∧ decide (n1 = n2 ∧ v1 = v2) = true := by
    cases hx : lessP n1 v1 n2 v2 with
    | true =>
      refine Or.inl ⟨rfl, ltL_asymm _ _ hx, decide_eq_false ?_, ?_⟩
      · rintro ⟨rfl, rfl⟩
        have := ltL_irrefl (pay n1 v1)
        unfold lessP at hx
        rw [this] at hx; cases hx
      · cases hy : lessP n2 v2 n3 v3 with
        | true => exact Or.inl ⟨rfl, ltL_trans _ _ _ hx hy⟩
        | false => exact Or.inr rfl
    | false =>
      cases hx2 : lessP n2 v2 n1 v1 with
      | true =>
        refine Or.inr (Or.inl ⟨rfl, rfl, decide_eq_false ?_⟩)
        rintro ⟨rfl, rfl⟩
        have := ltL_irrefl (pay n1 v1)
        unfold lessP at hx2
        rw [this] at hx2; cases hx2
      | false => exact Or.inr (Or.inr ⟨rfl, rfl, decide_eq_true (pay_inj A1.out.2.2 A2.out.2.2 (ltL_total _ _ hx hx2))⟩)
  dsimp only [pv] at *
  have PA := Lib.hid (((Blk.new w4 [.string (T n1), .string (T v1)] 24).alloc (.cells #[.string (T n2), .string (T v2)] 24)).alloc (.cells #[.string (T n3), .string (T v3)] 24))
  have PB := Lib.hid ((Blk.new_at (w4.alloc (.cells #[.string (T n1), .string (T v1)] 24)) [.string (T n2), .string (T v2)] 24 (w4.heap.size + 1) (by simp)).alloc (.cells #[.string (T n3), .string (T v3)] 24))
  have PC := Lib.hid (Blk.new_at ((w4.alloc (.cells #[.string (T n1), .string (T v1)] 24)).alloc (.cells #[.string (T n2), .string (T v2)] 24)) [.string (T n3), .string (T v3)] 24 (w4.heap.size + 1 + 1) (by simp))
  have B5 := Lib.hid (((B4.out.alloc B4.out.size (.cells #[.string (T n1), .string (T v1)] 24)).alloc (by have := B4.out.size; simp; omega) (.cells #[.string (T n2), .string (T v2)] 24)).alloc (by have := B4.out.size; simp; omega) (.cells #[.string (T n3), .string (T v3)] 24))
  clear q1 q2 q3 q4 q5 q6 HI HLt S1 S2 S3 B1 B2 B3
  generalize lessP n1 v1 n2 v2 = x at *
  generalize lessP n2 v2 n1 v1 = x2 at *
  generalize lessP n2 v2 n3 v3 = y at *
  generalize lessP n1 v1 n3 v3 = z at *
  generalize decide (n1 = n2 ∧ v1 = v2) = d at *
  generalize T n1 = N1 at *
  generalize T v1 = V1 at *
  generalize T n2 = N2 at *
  generalize T v2 = V2 at *
  generalize T n3 = N3 at *
  generalize T v3 = V3 at *
  generalize ((w4.alloc (.cells #[.string N1, .string V1] 24)).alloc (.cells #[.string N2, .string V2] 24)).alloc (.cells #[.string N3, .string V3] 24) = w5 at *
  generalize w4.heap.size = g at *
  clear A1 A2 A3 B4
  rcases hway with ⟨rfl, rfl, rfl, ⟨rfl, rfl⟩ | rfl⟩ | ⟨rfl, rfl, rfl⟩ | ⟨rfl, rfl, rfl⟩
  · have P5 := PA
    have Q5 := PB
    have R5 := PC
    clear PA PB PC
    refine (HAB.out _).mono ?_
    rintro e w6 ⟨rfl, hG⟩
    have P6 := Lib.hid (P5.out.below hG.below P5.out.lt)
    have Q6 := Lib.hid (Q5.out.below hG.below Q5.out.lt)
    have R6 := Lib.hid (R5.out.below hG.below R5.out.lt)
    obtain ⟨a0, a1⟩ := two_cells P6.out
    obtain ⟨b0, b1⟩ := two_cells Q6.out
    obtain ⟨c0, c1⟩ := two_cells R6.out
    have B6 := Lib.hid (B5.out.trans (hG.below.mono B5.out.size))
    clear hG
    go_wp2_with (first | (go_at_call 18; (with_reducible refine (HBC.out _).mono ?_); rintro e w7 ⟨rfl, hG⟩; have P7 := Lib.hid (P6.out.below hG.below P6.out.lt); have Q7 := Lib.hid (Q6.out.below hG.below Q6.out.lt); have R7 := Lib.hid (R6.out.below hG.below R6.out.lt); obtain ⟨a0, a1⟩ := two_cells P7.out; obtain ⟨b0, b1⟩ := two_cells Q7.out; obtain ⟨c0, c1⟩ := two_cells R7.out; have B7 := Lib.hid (B6.out.trans (hG.below.mono B6.out.size)); clear hG) | (go_at_call 18; (with_reducible refine (HAC.out _).mono ?_); rintro e w8 ⟨rfl, hG⟩; have P8 := Lib.hid (P7.out.below hG.below P7.out.lt); have Q8 := Lib.hid (Q7.out.below hG.below Q7.out.lt); have R8 := Lib.hid (R7.out.below hG.below R7.out.lt); obtain ⟨a0, a1⟩ := two_cells P8.out; obtain ⟨b0, b1⟩ := two_cells Q8.out; obtain ⟨c0, c1⟩ := two_cells R8.out; have B8 := Lib.hid (B7.out.trans (hG.below.mono B7.out.size)); clear hG))
    have a2 := cell_grown P8.out.lt (P8.out.cell (i := 0) rfl)
    have a3 := cell_grown P8.out.lt (P8.out.cell (i := 1) rfl)
    have b2 := cell_grown Q8.out.lt (Q8.out.cell (i := 0) rfl)
    have b3 := cell_grown Q8.out.lt (Q8.out.cell (i := 1) rfl)
    have K1 : Hid (∀ k os, Calls Try.prog 18 #[.agg #[.string N1, .string V1], .agg #[.string N2, .string V2]] (Sort.grow (w8.drewN k) os) fun e w' => e = .returned (.bool true) ∧ ∃ q os', w' = Sort.grow ((Sort.grow (w8.drewN k) os).drewN q) os') := Lib.hid fun k os => HAB.out _
    have K2 : Hid (∀ k os, Calls Try.prog 18 #[.agg #[.string N2, .string V2], .agg #[.string N1, .string V1]] (Sort.grow (w8.drewN k) os) fun e w' => e = .returned (.bool false) ∧ ∃ q os', w' = Sort.grow ((Sort.grow (w8.drewN k) os).drewN q) os') := Lib.hid fun k os => HBA.out _
    clear HAB HBC HAC HBA
    go_quiet_grown (first | (go_at_call 18; with_reducible refine Calls.grown_of (K1.out _ _)) | (go_at_call 18; with_reducible refine Calls.grown_of (K2.out _ _)))
    go_wp2
    go_ret
    exact ⟨rfl, B8.out.trans (Below.mono (Grew.below ⟨nq, osq, rfl⟩) B8.out.size)⟩
  · have P5 := PA
    have Q5 := PB
    have R5 := PC
    clear PA PB PC
    refine (HAB.out _).mono ?_
    rintro e w6 ⟨rfl, hG⟩
    have P6 := Lib.hid (P5.out.below hG.below P5.out.lt)
    have Q6 := Lib.hid (Q5.out.below hG.below Q5.out.lt)
    have R6 := Lib.hid (R5.out.below hG.below R5.out.lt)
    obtain ⟨a0, a1⟩ := two_cells P6.out
    obtain ⟨b0, b1⟩ := two_cells Q6.out
    obtain ⟨c0, c1⟩ := two_cells R6.out
    have B6 := Lib.hid (B5.out.trans (hG.below.mono B5.out.size))
    clear hG
    go_wp2_with (first | (go_at_call 18; (with_reducible refine (HBC.out _).mono ?_); rintro e w7 ⟨rfl, hG⟩; have P7 := Lib.hid (P6.out.below hG.below P6.out.lt); have Q7 := Lib.hid (Q6.out.below hG.below Q6.out.lt); have R7 := Lib.hid (R6.out.below hG.below R6.out.lt); obtain ⟨a0, a1⟩ := two_cells P7.out; obtain ⟨b0, b1⟩ := two_cells Q7.out; obtain ⟨c0, c1⟩ := two_cells R7.out; have B7 := Lib.hid (B6.out.trans (hG.below.mono B6.out.size)); clear hG))
    have a2 := cell_grown P7.out.lt (P7.out.cell (i := 0) rfl)
    have a3 := cell_grown P7.out.lt (P7.out.cell (i := 1) rfl)
    have b2 := cell_grown Q7.out.lt (Q7.out.cell (i := 0) rfl)
    have b3 := cell_grown Q7.out.lt (Q7.out.cell (i := 1) rfl)
    have K1 : Hid (∀ k os, Calls Try.prog 18 #[.agg #[.string N1, .string V1], .agg #[.string N2, .string V2]] (Sort.grow (w7.drewN k) os) fun e w' => e = .returned (.bool true) ∧ ∃ q os', w' = Sort.grow ((Sort.grow (w7.drewN k) os).drewN q) os') := Lib.hid fun k os => HAB.out _
    have K2 : Hid (∀ k os, Calls Try.prog 18 #[.agg #[.string N2, .string V2], .agg #[.string N1, .string V1]] (Sort.grow (w7.drewN k) os) fun e w' => e = .returned (.bool false) ∧ ∃ q os', w' = Sort.grow ((Sort.grow (w7.drewN k) os).drewN q) os') := Lib.hid fun k os => HBA.out _
    clear HAB HBC HAC HBA
    go_quiet_grown (first | (go_at_call 18; with_reducible refine Calls.grown_of (K1.out _ _)) | (go_at_call 18; with_reducible refine Calls.grown_of (K2.out _ _)))
    go_wp2
    go_ret
    exact ⟨rfl, B7.out.trans (Below.mono (Grew.below ⟨nq, osq, rfl⟩) B7.out.size)⟩
  · have P5 := PA
    have Q5 := PB
    have R5 := PC
    clear PA PB PC
    refine (HAB.out _).mono ?_
    rintro e w6 ⟨rfl, hG⟩
    have P6 := Lib.hid (P5.out.below hG.below P5.out.lt)
    have Q6 := Lib.hid (Q5.out.below hG.below Q5.out.lt)
    have R6 := Lib.hid (R5.out.below hG.below R5.out.lt)
    obtain ⟨a0, a1⟩ := two_cells P6.out
    obtain ⟨b0, b1⟩ := two_cells Q6.out
    obtain ⟨c0, c1⟩ := two_cells R6.out
    have B6 := Lib.hid (B5.out.trans (hG.below.mono B5.out.size))
    clear hG
    go_wp2_with fail
    have a2 := cell_grown P6.out.lt (P6.out.cell (i := 0) rfl)
    have a3 := cell_grown P6.out.lt (P6.out.cell (i := 1) rfl)
    have b2 := cell_grown Q6.out.lt (Q6.out.cell (i := 0) rfl)
    have b3 := cell_grown Q6.out.lt (Q6.out.cell (i := 1) rfl)
    have K1 : Hid (∀ k os, Calls Try.prog 18 #[.agg #[.string N1, .string V1], .agg #[.string N2, .string V2]] (Sort.grow (w6.drewN k) os) fun e w' => e = .returned (.bool false) ∧ ∃ q os', w' = Sort.grow ((Sort.grow (w6.drewN k) os).drewN q) os') := Lib.hid fun k os => HAB.out _
    have K2 : Hid (∀ k os, Calls Try.prog 18 #[.agg #[.string N2, .string V2], .agg #[.string N1, .string V1]] (Sort.grow (w6.drewN k) os) fun e w' => e = .returned (.bool true) ∧ ∃ q os', w' = Sort.grow ((Sort.grow (w6.drewN k) os).drewN q) os') := Lib.hid fun k os => HBA.out _
    clear HAB HBC HAC HBA
    go_quiet_grown (first | (go_at_call 18; with_reducible refine Calls.grown_of (K1.out _ _)) | (go_at_call 18; with_reducible refine Calls.grown_of (K2.out _ _)))
    go_wp2
    go_ret
    exact ⟨rfl, B6.out.trans (Below.mono (Grew.below ⟨nq, osq, rfl⟩) B6.out.size)⟩
  · have P5 := PA
    have Q5 := PB
    have R5 := PC
    clear PA PB PC
    refine (HAB.out _).mono ?_
    rintro e w6 ⟨rfl, hG⟩
    have P6 := Lib.hid (P5.out.below hG.below P5.out.lt)
    have Q6 := Lib.hid (Q5.out.below hG.below Q5.out.lt)
    have R6 := Lib.hid (R5.out.below hG.below R5.out.lt)
    obtain ⟨a0, a1⟩ := two_cells P6.out
    obtain ⟨b0, b1⟩ := two_cells Q6.out
    obtain ⟨c0, c1⟩ := two_cells R6.out
    have B6 := Lib.hid (B5.out.trans (hG.below.mono B5.out.size))
    clear hG
    go_wp2_with fail
    have a2 := cell_grown P6.out.lt (P6.out.cell (i := 0) rfl)
    have a3 := cell_grown P6.out.lt (P6.out.cell (i := 1) rfl)
    have b2 := cell_grown Q6.out.lt (Q6.out.cell (i := 0) rfl)
    have b3 := cell_grown Q6.out.lt (Q6.out.cell (i := 1) rfl)
    have K1 : Hid (∀ k os, Calls Try.prog 18 #[.agg #[.string N1, .string V1], .agg #[.string N2, .string V2]] (Sort.grow (w6.drewN k) os) fun e w' => e = .returned (.bool false) ∧ ∃ q os', w' = Sort.grow ((Sort.grow (w6.drewN k) os).drewN q) os') := Lib.hid fun k os => HAB.out _
    have K2 : Hid (∀ k os, Calls Try.prog 18 #[.agg #[.string N2, .string V2], .agg #[.string N1, .string V1]] (Sort.grow (w6.drewN k) os) fun e w' => e = .returned (.bool false) ∧ ∃ q os', w' = Sort.grow ((Sort.grow (w6.drewN k) os).drewN q) os') := Lib.hid fun k os => HBA.out _
    clear HAB HBC HAC HBA
    go_quiet_grown (first | (go_at_call 18; with_reducible refine Calls.grown_of (K1.out _ _)) | (go_at_call 18; with_reducible refine Calls.grown_of (K2.out _ _)))
    go_wp2
    go_ret
    exact ⟨rfl, B6.out.trans (Below.mono (Grew.below ⟨nq, osq, rfl⟩) B6.out.size)⟩

theorem walk (a0 : Option Addr) (len0 cap0 : Nat) (z0 : List Int) (w : World) (w0 : IsRow .i64 w a0 len0 cap0 z0) :
    Calls Try.prog 6 #[.slice a0 len0 cap0] w fun e w' => e = .returned (.bool true) ∧ Below w.heap.size w w' := by
  obtain ⟨hI, h1, h2⟩ := ints_in w0
  unfold maxLen at h2
  exact walk_main a0 len0 cap0 _ w hI (by omega)
end Go.Proofs.Ytmimfojlcihhaaa.FieldOrderW
