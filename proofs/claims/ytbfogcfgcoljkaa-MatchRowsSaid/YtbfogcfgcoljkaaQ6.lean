/-
  Texts beneath the proof, one behind the other.
-/
import Derived.Maps.OwnSet
import Derived.DeepKeys4
import Derived.Deep.Cut
import Derived.Deep.RegionHeld3
import Derived.Lib.SliceRun
import Derived.BigQuiet
import Derived.BigRegion
import Derived.Test.YtbfogcfgcoljkaaQ5
import Derived.Test.YtbfogcfgcoljkaaQ4
import Derived.Test.YtbfogcfgcoljkaaQ3

/-
  What a match holds of: the program's way.
-/
namespace Go.Proofs.Ytbfogcfgcoljkaa.Qn
open Go.ChangeShapes Go.WideShapes Go.ChangeAt Go.RowKit Go.Maps
open Bytes8 Blk8 Own8 OwnE Fa Fo Pr8 Pv8 Qa Qb Qc Qd
set_option linter.unusedVariables false
set_option maxRecDepth 100000
set_option linter.unusedSimpArgs false

/-! ## plain -/
def altB (l : List PR) (a : AL) : Bool := a.2.any fun v => decide ((a.1, v) ∈ l)
def rowB (l : List PR) (r : RW) : Bool := r.all (altB l)
def holdB (l : List PR) (M : List RW) : Bool := M.isEmpty || M.any (rowB l)
theorem altB_yes {l : List PR} {a : AL} {i : Nat} (hi : i < a.2.length) (h : (a.1, a.2.getD i []) ∈ l) : altB l a = true := List.any_eq_true.2 ⟨_, getD_in hi, by simpa using h⟩
theorem altB_no {l : List PR} {a : AL} (h : ∀ i, i < a.2.length → (a.1, a.2.getD i []) ∉ l) : altB l a = false := by
  refine List.any_eq_false.2 fun v hv => ?_
  obtain ⟨i, hi, rfl⟩ := List.mem_iff_getElem.1 hv
  have := h i hi
  rw [List.getD_eq_getElem?_getD, List.getElem?_eq_getElem hi] at this
  simpa using this
theorem rowB_no {l : List PR} {r : RW} {i : Nat} (hi : i < r.length) (h : altB l (r.getD i nilA) = false) : rowB l r = false := by
  cases e : rowB l r with
  | false => rfl
  | true =>
    have := List.all_eq_true.1 e _ (getD_in (d := nilA) hi)
    rw [this] at h; cases h
theorem rowB_yes {l : List PR} {r : RW} (h : ∀ i, i < r.length → altB l (r.getD i nilA) = true) : rowB l r = true := by
  refine List.all_eq_true.2 fun a ha => ?_
  obtain ⟨i, hi, rfl⟩ := List.mem_iff_getElem.1 ha
  have := h i hi
  rwa [List.getD_eq_getElem?_getD, List.getElem?_eq_getElem hi] at this
theorem anyB_yes {l : List PR} {M : List RW} {i : Nat} (hi : i < M.length) (h : rowB l (M.getD i []) = true) : M.any (rowB l) = true := List.any_eq_true.2 ⟨_, getD_in hi, h⟩
theorem anyB_no {l : List PR} {M : List RW} (h : ∀ i, i < M.length → rowB l (M.getD i []) = false) : M.any (rowB l) = false := by
  refine List.any_eq_false.2 fun r hr => ?_
  obtain ⟨i, hi, rfl⟩ := List.mem_iff_getElem.1 hr
  have := h i hi
  rw [List.getD_eq_getElem?_getD, List.getElem?_eq_getElem hi] at this
  simpa using this

/-! ## the set -/
theorem laidOut : laidOutB Try.prog = true := by kernel_rfl
theorem rowPair : (45 : TypeId) < Try.prog.types.size := of_decide_eq_true (by kernel_rfl)
theorem widePair : (match Try.prog.underlying 45 with | some (.array _ _) | some (.struct _) => true | _ => false) = true := by rw [Try.underlying45]
theorem law : Keyed Try.prog 45 := Keyed.of_law (deep_law_laid laidOut (m := 2) (by omega) rowPair (by kernel_rfl) widePair)
def klP (p : PR) : Lit := .string (keyBytes [.string (T p.1).data.toList, .string (T p.2).data.toList])
theorem keyPair : Try.prog.keyType 45 = true := by kernel_rfl
theorem cellsPair : Try.prog.cellsOf 45 = 2 := by kernel_rfl
theorem cellsText : Try.prog.cellsOf 9 = 1 := by kernel_rfl
theorem typesTwo : ∃ n, Try.prog.types.size + 1 = n + 2 := by
  have h : (0 : Nat) < Try.prog.types.size := Nat.lt_of_le_of_lt (Nat.zero_le _) rowPair
  exact ⟨Try.prog.types.size - 1, by omega⟩
theorem hkey {p : PR} (hp : okP p) : keyOf Try.prog 45 (.agg #[.string (T p.1), .string (T p.2)]) = some (klP p) := by
  have h1 : (T p.1).size ≤ maxLen := by rw [T_size]; exact hp.2.2.1
  have h2 : (T p.2).size ≤ maxLen := by rw [T_size]; exact hp.2.2.2
  have hf : (Value.agg #[.string (T p.1), .string (T p.2)]).formed Try.prog 45 = true := by simp [Value.formed, Try.underlying45, cellsPair]
  obtain ⟨n, hn⟩ := typesTwo
  unfold keyOf klP
  rw [Try.underlying45]
  simp only [keyPair, hf, Bool.and_self, if_true, hn]
  simp [Program.keyLits, Try.underlying45, Try.underlying9, cellsPair, cellsText, Value.cells, h1, h2]
theorem klP_inj {p q : PR} (hp : okP p) (hq : okP q) (h : klP p = klP q) : p = q := by
  have e := law.inj (hkey hp) (by rw [h]; exact hkey hq)
  injection e with e
  simp only [Array.mk.injEq, List.cons.injEq, Value.string.injEq, and_true] at e
  obtain ⟨a, b⟩ := p; obtain ⟨c, d⟩ := q
  have e1 := T_inj hp.1 hq.1 e.1
  have e2 := T_inj hp.2.1 hq.2.1 e.2
  simp only at e1 e2
  rw [e1, e2]
theorem isKeyP (p : PR) : WideAt.IsKeyLit (klP p) := by unfold klP; trivial
abbrev unitD : DataW Unit := .agg []
def mapD (l : List PR) : DataW Unit := l.foldl (fun D p => D.put (klP p) unitD) (.map [])
theorem mapD_step {l : List PR} {k : Nat} (hk : k < l.length) : mapD (l.take (k + 1)) = (mapD (l.take k)).put (klP (l.getD k nil2)) unitD := by
  rw [take_step hk]; unfold mapD; rw [List.foldl_append]; rfl
theorem foldl_has {p : PR} (hp : okP p) (l : List PR) (hl : AllP l) : ∀ D : DataW Unit, IsMap D → has (l.foldl (fun D p => D.put (klP p) unitD) D) (klP p) = (has D (klP p) || decide (p ∈ l)) := by
  induction l with
  | nil => intro D _; simp
  | cons q l ih =>
    intro D hD
    rw [List.foldl_cons, ih (fun x hx => hl x (by simp [hx])) _ (hD.put _ _)]
    by_cases h : p = q
    · subst h
      rw [has_put_same hD (isKeyP p)]
      simp
    · have hne : klP p ≠ klP q := fun e => h (klP_inj hp (hl q (by simp)) e)
      rw [has_put_other hne]
      simp [h]
theorem mapD_has {p : PR} (hp : okP p) {l : List PR} (hl : AllP l) : has (mapD l) (klP p) = decide (p ∈ l) := by
  unfold mapD
  rw [foldl_has hp l hl _ isMap_empty]
  rfl
theorem zeroU (w : World) : (zeroValue 82).run Try.prog w = .ok (.agg #[]) w := by kernel_rfl
theorem make_hint (n : Int) (w : World) : (Instr.makeMap 62 (some (.int .i64 n))).run Try.prog w = .ok (.map (some w.heap.size)) (w.alloc (.map #[] 0)) := by
  simp [Instr.makeMap, run_underlying Try.underlying62, asInt]
  rfl
/-- The set of these pairs, in the block g. -/
def SetAt (w : World) (g : Nat) (l : List PR) : Prop := ∃ n, w.ownsMap Try.prog 45 unitElem g n (mapD l)
theorem SetAt.below {w w' : World} {g : Nat} {l : List PR} (h : SetAt w g l) (hb : Below w.heap.size w w') : SetAt w' g l := by
  obtain ⟨n, h⟩ := h
  exact ⟨n, h.kept (row := none) ⟨hb.os, hb.tape, hb.output, hb.size, fun b hlt _ => hb.block b hlt⟩ (by simp)⟩
set_option maxHeartbeats 4000000 in
theorem gather_any (b : Option Addr) (m : List PR) (k d : Nat) (w : World) (hQ : Prs w b m) (hM : m.length = k) (hmax2 : k ≤ 100000) :
    Calls Try.prog 32 #[.slice b k d] w fun e w' => e = .returned (.map (some w.heap.size)) ∧ SetAt w' w.heap.size m ∧ Below w.heap.size w w' := by
  have hmm := fun w => make_hint (k : Int) w
  have HQ := Lib.hid hQ
  have HM := Lib.hid hM
  have HMk := Lib.hid fun j => hkey (hQ.1.at_ j)
  clear hQ hM
  go_enter Try.func32, Try.ntmps32
  go_wp2
  go_loopw [11] (fun i wr => ∃ j : Nat, j ≤ k ∧ i = .int .i64 (j : Int) ∧ Hid (wr.ownsMap Try.prog 45 unitElem w.heap.size j (mapD (m.take j))) ∧ Hid (Below w.heap.size w wr)) (fun i _ => k - (intOf i).toNat)
  case atStart => exact ⟨0, by omega, rfl, Lib.hid (World.ownsMap_made _ _ _ _), Lib.hid ((Below.refl _ _).alloc (Nat.le_refl _) _)⟩
  case round =>
    obtain ⟨j, hj, rfl, hown, hB⟩ := hrel
    rcases Nat.lt_or_ge j k with hlt | hge
    · obtain ⟨b1, off1, rfl, hbl1, hc0, hc1⟩ := (HQ.out.below hB.out).2 j (by have := HM.out; omega)
      have hin : (j : Int) < (k : Int) := by omega
      have HS := Lib.hid (mapD_step (l := m) (k := j) (by have := HM.out; omega))
      have HK := Lib.hid (HMk.out j)
      generalize T (m.getD j nil2).1 = E1 at *
      generalize T (m.getD j nil2).2 = E2 at *
      go_wp2_with (at_mapUpdate; refine wpList_mapUpdate_own _ rfl _ _ _ 62 rfl 45 82 law Try.underlying62 unitElem w.heap.size j (mapD (m.take j)) rfl (hown.out.alloc (.cells #[.string E1, .string E2] 45)) (by unfold maxLen; omega) _ _ (klP (m.getD j nil2)) rfl rfl HK.out unitD [] unitElem_mk ?_; intro w2 ho2 hg2; have HO2 := Lib.hid ho2; have HB2 := Lib.hid ((hB.out.alloc hB.out.size (.cells #[.string E1, .string E2] 45)).grown hg2 (by have := hB.out.size; simp; omega) (fun q hq => by cases hq; exact Nat.le_refl _)); clear ho2 hg2)
      go_round
      case rel => exact ⟨j + 1, by omega, by go_num, by rw [HS.out]; exact HO2, HB2⟩
      case measure => simp [intOf]; omega
    · obtain rfl : j = k := by omega
      have ht : m.take j = m := List.take_of_length_le (by have := HM.out; omega)
      rw [ht] at hown
      clear ht HMk
      go_wp2
      go_ret
      exact ⟨rfl, ⟨_, hown.out⟩, hB.out⟩
set_option maxHeartbeats 4000000 in
theorem palt_any (g : Nat) (l : List PR) (a : AL) (A : Option Addr) (c : Nat) (w : World) (hS : SetAt w g l) (hl : AllP l) (hT : Txts w A a.2) (ha : OkA a) :
    Calls Try.prog 53 #[.map (some g), alV a A c] w fun e w' => e = .returned (.bool (altB l a)) ∧ Below w.heap.size w w' := by
  have hn := ha.2.2
  unfold maxLen at hn
  have HK := Lib.hid fun i (hi : i < a.2.length) => show okP (a.1, a.2.getD i []) from ⟨ha.1.1, (ha.2.1 _ (getD_in hi)).1, ha.1.2, (ha.2.1 _ (getD_in hi)).2⟩
  have HY := Lib.hid fun i => altB_yes (l := l) (a := a) (i := i)
  have HN := Lib.hid (altB_no (l := l) (a := a))
  have HA := Lib.hid hl
  have b1 := (Below.refl w.heap.size w).alloc (Nat.le_refl _) (.cells #[.string (T a.1), .slice A a.2.length c] 50)
  have R1 := Lib.hid (Blk.new w (alC a A c) 50)
  have HT := Lib.hid (hT.below b1)
  have HS := Lib.hid (hS.below b1)
  have HB1 := Lib.hid b1
  dsimp only [alV, alC] at *
  obtain ⟨an, av⟩ := a
  dsimp only at *
  obtain ⟨n, hL⟩ : ∃ n, av.length = n := ⟨_, rfl⟩
  have HL := Lib.hid hL
  rw [hL] at hn R1 HB1 HT HS ⊢
  clear hS hl hT ha b1 hL
  go_enter Try.func53, Try.ntmps53
  go_upto_region 1 with fail
  change Hid (Blk (w.alloc (.cells #[.string (T an), .slice A n c] 50)) w.heap.size _ _) at R1
  generalize w.alloc (.cells #[.string (T an), .slice A n c] 50) = w1 at *
  have r0 := R1.out.cell (i := 0) rfl
  have r1 := R1.out.cell (i := 1) rfl
  go_wp2_with fail
  go_loopw [12] (fun i wr => ∃ j : Nat, j ≤ n ∧ i = .int .i64 (j : Int) ∧ Hid (∀ x, x < j → (an, av.getD x []) ∉ l) ∧ Hid (Below w1.heap.size w1 wr)) (fun i _ => n - (intOf i).toNat)
  case atStart => exact ⟨0, by omega, rfl, Lib.hid (fun k hk => absurd hk (by omega)), Lib.hid (Below.refl _ _)⟩
  case round =>
    clear r0 r1
    obtain ⟨j, hj, rfl, hall, hB⟩ := hrel
    rcases Nat.lt_or_ge j n with hlt | hge
    · obtain ⟨b1, off1, rfl, hbl1, hc0⟩ := (HT.out.below hB.out) j (by have := HL.out; omega)
      have hin : (j : Int) < (n : Int) := by omega
      have s0 := (R1.out.below hB.out R1.out.lt).cell (i := 0) rfl
      obtain ⟨q, hq⟩ := HS.out.below hB.out
      have HQ := Lib.hid hq
      have hkj := HK.out j (by have := HL.out; omega)
      have HKy := Lib.hid (hkey hkj)
      have hhas := mapD_has hkj HA.out
      clear hq hkj
      by_cases hm : (an, av.getD j []) ∈ l
      · rw [decide_eq_true hm] at hhas
        have HH := Lib.hid hhas
        have HR := Lib.hid (HY.out j (by have := HL.out; omega) hm)
        clear hm hhas
        generalize T (av.getD j []) = E1 at *
        go_wp2_with (at_lookup; refine wpList_lookup_own_unit _ rfl _ _ 62 rfl 45 82 law Try.underlying62 (zeroU _) g q (mapD l) rfl HQ.out _ (klP (an, av.getD j [])) rfl HKy.out ?_; rw [HH.out])
        go_ret
        exact ⟨by rw [HR.out]; rfl, HB1.out.trans ((hB.out.alloc hB.out.size _).mono HB1.out.size)⟩
      · rw [decide_eq_false hm] at hhas
        have HH := Lib.hid hhas
        have hall2 := Lib.hid (fun x (hx : x < j + 1) => (by
          rcases Nat.lt_or_ge x j with h | h
          · exact hall.out x h
          · obtain rfl : x = j := by omega
            exact hm : (an, av.getD x []) ∉ l))
        clear hm hhas hall
        generalize T (av.getD j []) = E1 at *
        go_wp2_with (at_lookup; refine wpList_lookup_own_unit _ rfl _ _ 62 rfl 45 82 law Try.underlying62 (zeroU _) g q (mapD l) rfl HQ.out _ (klP (an, av.getD j [])) rfl HKy.out ?_; rw [HH.out])
        go_round
        case rel => exact ⟨j + 1, by omega, by go_num, hall2, Lib.hid (hB.out.alloc hB.out.size _)⟩
        case measure => simp [intOf]; omega
    · obtain rfl : j = n := by omega
      have HR := Lib.hid (HN.out fun i hi => hall.out i (by have := HL.out; omega))
      clear hall
      go_wp2
      go_ret
      exact ⟨by rw [HR.out]; rfl, HB1.out.trans (hB.out.mono HB1.out.size)⟩
end Go.Proofs.Ytbfogcfgcoljkaa.Qn

/-
  What a match holds of: the program's Holds.
-/
namespace Go.Proofs.Ytbfogcfgcoljkaa.Qo
open Go.ChangeShapes Go.WideShapes Go.ChangeAt Go.RowKit Go.Maps
open Bytes8 Blk8 Own8 OwnE Fa Fo Pr8 Pv8 Qa Qb Qc Qd Qn
set_option linter.unusedVariables false
set_option maxRecDepth 100000
set_option linter.unusedSimpArgs false

set_option maxHeartbeats 4000000 in
theorem prow_any (g : Nat) (l : List PR) (r : RW) (A : Option Addr) (c : Nat) (w : World) (hS : SetAt w g l) (hl : AllP l) (hT : Als w A r) (hr : OkR r) :
    Calls Try.prog 34 #[.map (some g), .slice A r.length c] w fun e w' => e = .returned (.bool (rowB l r)) ∧ Below w.heap.size w w' := by
  have hn := hr.2
  unfold maxLen at hn
  have HT := Lib.hid hT
  have HS := Lib.hid hS
  have HA := Lib.hid hl
  have HO := Lib.hid fun i hi => alt_ok hr (i := i) hi
  have HN := Lib.hid fun i => rowB_no (l := l) (r := r) (i := i)
  have HY := Lib.hid (rowB_yes (l := l) (r := r))
  obtain ⟨n, hL⟩ : ∃ n, r.length = n := ⟨_, rfl⟩
  have HL := Lib.hid hL
  rw [hL] at hn ⊢
  clear hS hl hT hr hL
  go_enter Try.func34, Try.ntmps34
  go_wp2
  go_loopw [9] (fun i wr => ∃ j : Nat, j ≤ n ∧ i = .int .i64 (j : Int) ∧ Hid (∀ x, x < j → altB l (r.getD x nilA) = true) ∧ Hid (Below w.heap.size w wr)) (fun i _ => n - (intOf i).toNat)
  case atStart => exact ⟨0, by omega, rfl, Lib.hid (fun k hk => absurd hk (by omega)), Lib.hid (Below.refl _ _)⟩
  case round =>
    obtain ⟨j, hj, rfl, hall, hB⟩ := hrel
    rcases Nat.lt_or_ge j n with hlt | hge
    · obtain ⟨b1, off1, A1, c1, rfl, hbl1, hc0, hc1, hT1⟩ := (HT.out.below hB.out) j (by have := HL.out; omega)
      have hin : (j : Int) < (n : Int) := by omega
      have HC := Lib.hid fun (W : World) (hW : Below wr.heap.size wr W) => after hB.out hW (palt_any g l (r.getD j nilA) A1 c1 W ((HS.out.below hB.out).below hW) HA.out (hT1.below hW) (HO.out j (by have := HL.out; omega)))
      dsimp only [alV] at HC
      clear hT1
      cases hb : altB l (r.getD j nilA) with
      | true =>
        rw [hb] at HC
        have hall2 := Lib.hid (fun x (hx : x < j + 1) => (by
          rcases Nat.lt_or_ge x j with h | h
          · exact hall.out x h
          · obtain rfl : x = j := by omega
            exact hb : altB l (r.getD x nilA) = true))
        clear hb hall
        generalize T (r.getD j nilA).1 = E1 at *
        generalize (r.getD j nilA).2.length = n1 at *
        go_wp2_with (go_at_call 53; (with_reducible refine (HC.out _ (by repeat (first | (with_reducible exact Below.refl _ _) | refine Below.alloc ?_ (by simp) _ | refine Below.setCell ?_ (by simp) _))).mono ?_); rintro e w3 ⟨rfl, hb3⟩)
        go_round
        case rel => exact ⟨j + 1, by omega, by go_num, hall2, Lib.hid hb3⟩
        case measure => simp [intOf]; omega
      | false =>
        rw [hb] at HC
        have HR := Lib.hid (HN.out j (by have := HL.out; omega) hb)
        clear hb hall
        generalize T (r.getD j nilA).1 = E1 at *
        generalize (r.getD j nilA).2.length = n1 at *
        go_wp2_with (go_at_call 53; (with_reducible refine (HC.out _ (by repeat (first | (with_reducible exact Below.refl _ _) | refine Below.alloc ?_ (by simp) _ | refine Below.setCell ?_ (by simp) _))).mono ?_); rintro e w3 ⟨rfl, hb3⟩)
        go_ret
        exact ⟨by rw [HR.out]; rfl, hb3⟩
    · obtain rfl : j = n := by omega
      have HR := Lib.hid (HY.out fun i hi => hall.out i (by have := HL.out; omega))
      clear hall
      go_wp2
      go_ret
      exact ⟨by rw [HR.out]; rfl, hB.out⟩
set_option maxHeartbeats 4000000 in
theorem index_any (g : Nat) (l : List PR) (M : List RW) (A : Option Addr) (c : Nat) (w : World) (hS : SetAt w g l) (hl : AllP l) (hT : Mts w A M) (hM : OkM M) :
    Calls Try.prog 52 #[.slice A M.length c, .func (.func 34) #[.map (some g)] #[]] w fun e w' => (∃ i : Int, e = .returned (.int .i64 i) ∧ decide (0 ≤ i) = M.any (rowB l)) ∧ Below w.heap.size w w' := by
  have hn := hM.2
  unfold maxLen at hn
  have HT := Lib.hid hT
  have HS := Lib.hid hS
  have HA := Lib.hid hl
  have HO := Lib.hid fun i hi => row_ok hM (i := i) hi
  have HY := Lib.hid fun i => anyB_yes (l := l) (M := M) (i := i)
  have HN := Lib.hid (anyB_no (l := l) (M := M))
  obtain ⟨n, hL⟩ : ∃ n, M.length = n := ⟨_, rfl⟩
  have HL := Lib.hid hL
  rw [hL] at hn ⊢
  clear hS hl hT hM hL
  go_enter Try.func52, Try.ntmps52
  go_wp2
  go_loopw [8] (fun i wr => ∃ j : Nat, j ≤ n ∧ i = .int .i64 (j : Int) ∧ Hid (∀ x, x < j → rowB l (M.getD x []) = false) ∧ Hid (Below w.heap.size w wr)) (fun i _ => n - (intOf i).toNat)
  case atStart => exact ⟨0, by omega, rfl, Lib.hid (fun k hk => absurd hk (by omega)), Lib.hid (Below.refl _ _)⟩
  case round =>
    obtain ⟨j, hj, rfl, hall, hB⟩ := hrel
    rcases Nat.lt_or_ge j n with hlt | hge
    · obtain ⟨b1, off1, A1, c1, rfl, hbl1, hc0, hT1⟩ := (HT.out.below hB.out) j (by have := HL.out; omega)
      have hin : (j : Int) < (n : Int) := by omega
      have HC := Lib.hid fun (W : World) (hW : Below wr.heap.size wr W) => after hB.out hW (prow_any g l (M.getD j []) A1 c1 W ((HS.out.below hB.out).below hW) HA.out (hT1.below hW) (HO.out j (by have := HL.out; omega)))
      clear hT1
      cases hb : rowB l (M.getD j []) with
      | false =>
        rw [hb] at HC
        have hall2 := Lib.hid (fun x (hx : x < j + 1) => (by
          rcases Nat.lt_or_ge x j with h | h
          · exact hall.out x h
          · obtain rfl : x = j := by omega
            exact hb : rowB l (M.getD x []) = false))
        clear hb hall
        generalize (M.getD j []).length = n1 at *
        go_wp2_with (go_at_call 34; (with_reducible refine (HC.out _ (Below.refl _ _)).mono ?_); rintro e w3 ⟨rfl, hb3⟩)
        go_round
        case rel => exact ⟨j + 1, by omega, by go_num, hall2, Lib.hid hb3⟩
        case measure => simp [intOf]; omega
      | true =>
        rw [hb] at HC
        have HR := Lib.hid (HY.out j (by have := HL.out; omega) hb)
        clear hb hall
        generalize (M.getD j []).length = n1 at *
        go_wp2_with (go_at_call 34; (with_reducible refine (HC.out _ (Below.refl _ _)).mono ?_); rintro e w3 ⟨rfl, hb3⟩)
        go_ret
        exact ⟨⟨(j : Int), rfl, by rw [HR.out]; simp⟩, hb3⟩
    · obtain rfl : j = n := by omega
      have HR := Lib.hid (HN.out fun i hi => hall.out i (by have := HL.out; omega))
      clear hall
      go_wp2
      go_ret
      exact ⟨⟨-1, rfl, by rw [HR.out]; rfl⟩, hB.out⟩
theorem contains_any (g : Nat) (l : List PR) (M : List RW) (A : Option Addr) (c : Nat) (w : World) (hS : SetAt w g l) (hl : AllP l) (hT : Mts w A M) (hM : OkM M) :
    Calls Try.prog 33 #[.slice A M.length c, .func (.func 34) #[.map (some g)] #[]] w fun e w' => e = .returned (.bool (M.any (rowB l))) ∧ Below w.heap.size w w' := by
  have HC := Lib.hid (index_any g l M A c w hS hl hT hM)
  clear hS hl hT hM
  generalize M.length = n at *
  generalize M.any (rowB l) = z at *
  go_enter Try.func33, Try.ntmps33
  go_wp2_with (go_at_call 52; (with_reducible refine HC.out.mono ?_); rintro e w3 ⟨⟨i, rfl, hz⟩, hb3⟩; have HZ := Lib.hid hz; have HB := Lib.hid hb3; clear hz hb3)
  go_ret
  exact ⟨by rw [← HZ.out]; rfl, HB.out⟩
set_option maxHeartbeats 4000000 in
theorem holds_any (l : List PR) (b : Option Addr) (k d : Nat) (M : List RW) (A : Option Addr) (c : Nat) (w : World) (hP : Prs w b l) (hk : l.length = k) (hk2 : k ≤ 100000) (hT : Mts w A M) (hM : OkM M) :
    Calls Try.prog 17 #[mtV A M.length c, .slice b k d] w fun e w' => e = .returned (.bool (holdB l M)) ∧ Below w.heap.size w w' := by
  have b1 := (Below.refl w.heap.size w).alloc (Nat.le_refl _) (.cells #[.slice A M.length c] 25)
  have R1 := Lib.hid (Blk.new w [.slice A M.length c] 25)
  have HP := Lib.hid (hP.below b1)
  have HT := Lib.hid (hT.below b1)
  have HB := Lib.hid b1
  dsimp only [mtV]
  by_cases h0 : M.length = 0
  · have HR := Lib.hid (show holdB l M = true by unfold holdB; rw [List.eq_nil_of_length_eq_zero h0]; rfl)
    rw [h0]
    clear hP hT hM h0 b1
    go_enter Try.func17, Try.ntmps17
    go_wp2_with fail
    go_ret
    exact ⟨by rw [HR.out]; rfl, (Below.refl w.heap.size w).alloc (Nat.le_refl _) _⟩
  · have HR := Lib.hid (show holdB l M = M.any (rowB l) by
      unfold holdB
      rcases M with _ | ⟨x, M⟩
      · exact absurd rfl h0
      · rfl)
    have hz : ((M.length : Int) == 0) = false := by simp; exact fun e => h0 (by rw [e]; rfl)
    have HG := Lib.hid fun (W : World) (h : Prs W b l) => gather_any b l k d W h hk hk2
    have HCo := Lib.hid fun (g : Nat) (W : World) (h : SetAt W g l) (h2 : Mts W A M) => contains_any g l M A c W h hP.1 h2 hM
    clear hP hT hM b1 h0
    generalize M.any (rowB l) = z at *
    generalize M.length = n at *
    go_enter Try.func17, Try.ntmps17
    go_upto_region 1 with fail
    generalize w.alloc (.cells #[.slice A n c] 25) = w1 at *
    have r0 := R1.out.cell (i := 0) rfl
    go_upto_region 4 with (go_at_call 32; (with_reducible refine (HG.out _ HP.out).mono ?_); rintro e w2 ⟨rfl, hs, hb⟩; have HS2 := Lib.hid hs; have HB2 := Lib.hid hb; clear hs hb)
    have s0 := (R1.out.below HB2.out R1.out.lt).cell (i := 0) rfl
    have HC2 := Lib.hid (HCo.out _ _ HS2.out (HT.out.below HB2.out))
    have HBB := Lib.hid (HB.out.trans (HB2.out.mono HB.out.size))
    clear r0 HCo HG
    generalize w1.heap.size = g1 at *
    go_wp2_with (go_at_call 33; (with_reducible refine HC2.out.mono ?_); rintro e w3 ⟨rfl, hb3⟩; have HB3 := Lib.hid hb3; clear hb3)
    go_ret
    exact ⟨by rw [HR.out]; rfl, HBB.out.trans (HB3.out.mono HBB.out.size)⟩
end Go.Proofs.Ytbfogcfgcoljkaa.Qo

/-
  Pairs by names, then by values: the program's comparison.
-/
namespace Go.Proofs.Ytbfogcfgcoljkaa.Qf
open Go.ChangeShapes Go.WideShapes Go.ChangeAt Go.RowKit
open Bytes8 Blk8 Fa Fb Fo Pr8 Qa
set_option linter.unusedVariables false
set_option maxRecDepth 100000
set_option linter.unusedSimpArgs false

def orI (a b : Int) : Int := if a = 0 then b else a
set_option maxHeartbeats 2000000 in
theorem or_any (g : Nat) (a b : Int) (w : World) (h0 : w.cell? ⟨g, 0, none⟩ = some (.int .i64 a)) (h1 : w.cell? ⟨g, 1, none⟩ = some (.int .i64 b)) :
    Calls Try.prog 44 #[.slice (some ⟨g, 0, none⟩) 2 2] w fun e w' => e = .returned (.int .i64 (orI a b)) ∧ w = w' := by
  have HO0 : Hid (a ≠ 0 → orI a b = a) := Lib.hid fun h => if_neg h
  have HO1 : Hid (a = 0 → orI a b = b) := Lib.hid fun h => if_pos h
  go_enter Try.func44, Try.ntmps44
  go_wp2
  go_loopw [8] (fun i wr => ∃ k : Nat, k ≤ 2 ∧ (i = .int .i64 0 ∧ k = 0 ∨ i = .int .i64 1 ∧ k = 1 ∨ i = .int .i64 2 ∧ k = 2) ∧ Hid ((0 < k → a = 0) ∧ (1 < k → b = 0)) ∧ w = wr) (fun i _ => 2 - (intOf i).toNat)
  case atStart => exact ⟨0, by omega, .inl ⟨rfl, rfl⟩, Lib.hid ⟨fun h => absurd h (by omega), fun h => absurd h (by omega)⟩, rfl⟩
  case round =>
    obtain ⟨k, hk, hi, hall, rfl⟩ := hrel
    rcases hi with ⟨rfl, rfl⟩ | ⟨rfl, rfl⟩ | ⟨rfl, rfl⟩
    · by_cases h : a = 0
      · have HR := Lib.hid h
        subst h
        go_wp2
        go_round
        case rel => exact ⟨1, by omega, .inr (.inl ⟨rfl, rfl⟩), Lib.hid (by simp), trivial⟩
        case measure => simp [intOf]
      · have HR := Lib.hid (HO0.out h)
        have hb : (a != 0) = true := by simpa using h
        clear h
        go_wp2
        go_ret
        exact ⟨by rw [HR.out]; rfl, rfl⟩
    · have ha := hall.out.1 (by omega)
      by_cases h : b = 0
      · subst h
        go_wp2
        go_round
        case rel => exact ⟨2, by omega, .inr (.inr ⟨rfl, rfl⟩), Lib.hid (by simp [ha]), trivial⟩
        case measure => simp [intOf]
      · have HR := Lib.hid (HO1.out ha)
        have hb : (b != 0) = true := by simpa using h
        clear h ha
        go_wp2
        go_ret
        exact ⟨by rw [HR.out]; rfl, rfl⟩
    · have ha := hall.out.1 (by omega)
      have hb := hall.out.2 (by omega)
      have HR := Lib.hid (show orI a b = 0 by rw [HO1.out ha, hb])
      clear ha hb
      go_wp2
      go_ret
      exact ⟨by rw [HR.out]; rfl, rfl⟩

def cmpB (x y : TX) : Int := Lib.compareBytes (T x).data.toList (T y).data.toList
def cmpN (p q : PR) : Int := orI (cmpB p.1 q.1) (cmpB p.2 q.2)
theorem cmpB_lt {x y : TX} (hx : AllB x) (hy : AllB y) : decide (cmpB x y < 0) = ltL x y := by
  unfold cmpB
  rw [← ByteArray.toList_eq, ← ByteArray.toList_eq, T_toList, T_toList]
  exact comp_nums _ _ hx hy
theorem comp_zero : ∀ l m : List UInt8, Lib.compareBytes l m = 0 ↔ l = m
  | [], [] => by simp [Lib.compareBytes]
  | [], _ :: _ => by simp [Lib.compareBytes]
  | _ :: _, [] => by simp [Lib.compareBytes]
  | x :: l, y :: m => by
    simp only [Lib.compareBytes]
    by_cases h1 : x < y
    · rw [if_pos h1]
      constructor
      · intro h; cases h
      · intro h; injection h with h _; subst h; exact absurd h1 (by rw [UInt8.lt_iff_toNat_lt]; omega)
    · rw [if_neg h1]
      by_cases h2 : y < x
      · rw [if_pos h2]
        constructor
        · intro h; cases h
        · intro h; injection h with h _; subst h; exact absurd h2 (by rw [UInt8.lt_iff_toNat_lt]; omega)
      · rw [if_neg h2, comp_zero l m]
        have e : x = y := by
          rw [UInt8.lt_iff_toNat_lt] at h1 h2
          exact UInt8.toNat_inj.1 (by omega)
        subst e
        simp
theorem cmpB_zero {x y : TX} (hx : AllB x) (hy : AllB y) : cmpB x y = 0 ↔ x = y := by
  unfold cmpB
  rw [comp_zero, ← ByteArray.toList_eq, ← ByteArray.toList_eq]
  constructor
  · intro h
    refine T_inj hx hy ?_
    rw [ByteArray.toList_eq, ByteArray.toList_eq] at h
    exact ByteArray.ext (Array.toList_inj.1 h)
  · rintro rfl; rfl
abbrev okQ (p : PR) : Prop := AllB p.1 ∧ AllB p.2
theorem cmpN_lt {p q : PR} (hp : okQ p) (hq : okQ q) : decide (cmpN p q < 0) = ltN p q := by
  unfold cmpN ltN orI
  rw [← cmpB_lt hp.1 hq.1, ← cmpB_lt hp.2 hq.2]
  have hz := cmpB_zero hp.1 hq.1
  by_cases h : p.1 = q.1
  · have h0 := hz.2 h
    rw [if_pos h0, h0]
    simp [h]
  · have h0 : cmpB p.1 q.1 ≠ 0 := fun e => h (hz.1 e)
    rw [if_neg h0]
    simp [h]

set_option maxHeartbeats 2000000 in
theorem cmpalts_any (p q : PR) (w : World) :
    Calls Try.prog 43 #[pv p.1 p.2, pv q.1 q.2] w fun e w' => e = .returned (.int .i64 (cmpN p q)) ∧ Grew w w' := by
  obtain ⟨n, v⟩ := p
  obtain ⟨m, u⟩ := q
  have H1 : Hid (∀ w, Calls Try.prog 45 #[.string (T n), .string (T m)] w fun e w' => e = .returned (.int .i64 (cmpB n m)) ∧ w = w') := Lib.hid fun w => scompare_any (T n) (T m) w
  have H2 : Hid (∀ w, Calls Try.prog 45 #[.string (T v), .string (T u)] w fun e w' => e = .returned (.int .i64 (cmpB v u)) ∧ w = w') := Lib.hid fun w => scompare_any (T v) (T u) w
  have HG := Lib.hid ((Grew.boxed w (box n v)).alloc (box m u))
  have B1 := Lib.hid ((Blk.new w [.string (T n), .string (T v)] 45).alloc (box m u))
  have B2 := Lib.hid (Blk.new_at (w.alloc (box n v)) [.string (T m), .string (T u)] 45 (w.heap.size + 1) (by simp))
  show Calls _ _ _ _ fun e w' => e = .returned (.int .i64 (orI (cmpB n m) (cmpB v u))) ∧ _
  dsimp only [pv, box] at *
  have HO := Lib.hid fun g w (h0 : w.cell? ⟨g, 0, none⟩ = some (.int .i64 (cmpB n m))) (h1 : w.cell? ⟨g, 1, none⟩ = some (.int .i64 (cmpB v u))) => or_any g _ _ w h0 h1
  generalize orI (cmpB n m) (cmpB v u) = C at *
  generalize cmpB n m = C1 at *
  generalize cmpB v u = C2 at *
  generalize T n = SN at *
  generalize T v = SV at *
  generalize T m = SM at *
  generalize T u = SU at *
  have hm : Try.prog.follows .mixedOrders = true := by kernel_rfl
  go_enter Try.func43, Try.ntmps43
  go_wp2_with fail
  generalize hW : (w.alloc (.cells #[.string SN, .string SV] 45)).alloc (.cells #[.string SM, .string SU] 45) = W at *
  have c0 := B1.out.cell (i := 0) rfl
  have c1 := B1.out.cell (i := 1) rfl
  have d0 := B2.out.cell (i := 0) rfl
  have d1 := B2.out.cell (i := 1) rfl
  have hlt1 := B1.out.lt
  have hlt2 := B2.out.lt
  have HW := Lib.hid hW
  have e0 := World.new_ne W ⟨w.heap.size, 0, none⟩ c0
  have e1 := World.new_ne W ⟨w.heap.size, 1, none⟩ c1
  have e2 := World.new_ne W ⟨w.heap.size + 1, 0, none⟩ d0
  have e3 := World.new_ne W ⟨w.heap.size + 1, 1, none⟩ d1
  clear hW
  go_region_held3 (fun W' => W'.cell? ⟨w.heap.size, 0, none⟩ = some (.string SN) ∧ W'.cell? ⟨w.heap.size, 1, none⟩ = some (.string SV) ∧ W'.cell? ⟨w.heap.size + 1, 0, none⟩ = some (.string SM) ∧ W'.cell? ⟨w.heap.size + 1, 1, none⟩ = some (.string SU)) (first | (with_reducible exact ⟨c0, c1, d0, d1⟩) | go_keep) (first
    | (go_simp; go_at_call 45; (with_reducible refine (H1.out _).mono ?_); rintro e w' ⟨rfl, rfl⟩)
    | (go_simp; go_at_call 45; (with_reducible refine (H2.out _).mono ?_); rintro e w' ⟨rfl, rfl⟩)
    | (go_simp; go_at_call 44; (with_reducible refine (HO.out _ _ (by simp) (by simp)).mono ?_); rintro e w' ⟨rfl, rfl⟩))
  all_goals
    go_wp2
    go_ret
    exact ⟨rfl, (HG.out.alloc _).drewN 1⟩
end Go.Proofs.Ytbfogcfgcoljkaa.Qf

/-
  Pairs each once, where like ones are neighbours: the library's Compact.
-/
namespace Go.Proofs.Ytbfogcfgcoljkaa.Qh
open Go.ChangeShapes Go.WideShapes Go.ChangeAt Go.RowKit
open Bytes8 Blk8 Own8 OwnE Fa Fb Fo Pr8 Qa
set_option linter.unusedVariables false
set_option maxRecDepth 100000
set_option linter.unusedSimpArgs false

/-! ## plain -/
theorem ddS_last (acc : List PR) (p : PR) : (ddS acc p).getLast? = some p := by
  unfold ddS; split
  · assumption
  · rw [List.getLast?_append]; rfl
theorem dd_take {l : List PR} {i : Nat} (hi : i < l.length) : dd (l.take (i + 1)) = ddS (dd (l.take i)) (l.getD i nil2) := by
  rw [take_step hi]; unfold dd; rw [List.foldl_append]; rfl
theorem dd_last {l : List PR} {i : Nat} (hi : i < l.length) : (dd (l.take (i + 1))).getLast? = some (l.getD i nil2) := by
  rw [dd_take hi]; exact ddS_last _ _
theorem dd_same {l : List PR} {i : Nat} (hi : i + 1 < l.length) (h : l.getD (i + 1) nil2 = l.getD i nil2) : dd (l.take (i + 2)) = dd (l.take (i + 1)) := by
  rw [dd_take hi]; unfold ddS; rw [if_pos (by rw [dd_last (by omega), h])]
theorem dd_new {l : List PR} {i : Nat} (hi : i + 1 < l.length) (h : l.getD (i + 1) nil2 ≠ l.getD i nil2) : dd (l.take (i + 2)) = dd (l.take (i + 1)) ++ [l.getD (i + 1) nil2] := by
  rw [dd_take hi]; unfold ddS; rw [if_neg]
  rw [dd_last (by omega)]
  intro e; injection e with e; exact h e.symm
theorem dd_one (l : List PR) (h : 1 ≤ l.length) : dd (l.take 1) = l.take 1 := by
  rcases l with _ | ⟨p, l⟩
  · simp at h
  · rfl
theorem dd_len (l : List PR) (i : Nat) : (dd (l.take i)).length ≤ i := by
  induction i with
  | zero => simp [dd]
  | succ i ih =>
    by_cases hi : i < l.length
    · rw [dd_take hi]; unfold ddS; split
      · omega
      · simp; omega
    · rw [List.take_of_length_le (by omega)] at ih ⊢
      omega
theorem dd_all {l : List PR} (h : AllP l) : AllP (dd l) := fun p hp => by
  have key : ∀ (m acc : List PR), (∀ q ∈ acc, okP q) → (∀ q ∈ m, okP q) → ∀ q ∈ m.foldl ddS acc, okP q := by
    intro m
    induction m with
    | nil => intro acc ha _ q hq; exact ha q hq
    | cons x m ih =>
      intro acc ha hm q hq
      refine ih (ddS acc x) (fun y hy => ?_) (fun y hy => hm y (by simp [hy])) q hq
      unfold ddS at hy
      split at hy
      · exact ha y hy
      · rcases List.mem_append.1 hy with h1 | h1
        · exact ha y h1
        · rw [List.mem_singleton.1 h1]; exact hm x (by simp)
  exact key l [] (fun _ h => by cases h) h p hp
/-- The row half way: what is kept so far, behind it what was there. -/
def half (l : List PR) (i : Nat) : List PR := dd (l.take i) ++ l.drop (dd (l.take i)).length
theorem half_len {l : List PR} {i : Nat} (hi : i ≤ l.length) : (half l i).length = l.length := by
  have := dd_len l i
  unfold half; simp; omega
theorem half_high {l : List PR} {i j : Nat} (hi : i ≤ l.length) (hj : (dd (l.take i)).length ≤ j) : (half l i).getD j nil2 = l.getD j nil2 := by
  have := dd_len l i
  unfold half
  rw [List.getD_eq_getElem?_getD, List.getD_eq_getElem?_getD, List.getElem?_append_right hj, List.getElem?_drop]
  congr 2
  omega
theorem half_same {l : List PR} {i : Nat} (hi : i + 1 < l.length) (h : l.getD (i + 1) nil2 = l.getD i nil2) : half l (i + 2) = half l (i + 1) := by
  unfold half; rw [dd_same hi h]
theorem half_new {l : List PR} {i : Nat} (hi : i + 1 < l.length) (h : l.getD (i + 1) nil2 ≠ l.getD i nil2) : half l (i + 2) = (half l (i + 1)).set (dd (l.take (i + 1))).length (l.getD (i + 1) nil2) := by
  have hd := dd_len l (i + 1)
  unfold half
  rw [dd_new hi h, List.set_append_right _ _ (Nat.le_refl _), Nat.sub_self]
  have e : l.drop (dd (l.take (i + 1))).length = l.getD (dd (l.take (i + 1))).length nil2 :: l.drop ((dd (l.take (i + 1))).length + 1) := by
    rw [List.drop_eq_getElem_cons (by omega), List.getD_eq_getElem?_getD, List.getElem?_eq_getElem (by omega)]; rfl
  rw [e, List.set_cons_zero, List.append_assoc]
  simp
theorem half_start {l : List PR} {i : Nat} (h : dd (l.take i) = l.take i) (hi : i ≤ l.length) : half l i = l := by
  unfold half; rw [h, List.length_take, Nat.min_eq_left hi, List.take_append_drop]
theorem half_end (l : List PR) : half l l.length = dd l ++ l.drop (dd l).length := by unfold half; rw [List.take_length]

/-! ## parts of a row of pairs -/
theorem elemP : Try.prog.elem 26 = 45 := by kernel_rfl
theorem sizeofP (w : World) : (sizeOf 45).run Try.prog w = .ok 2 w := by
  obtain ⟨i, hi, hzz⟩ := Option.map_eq_some_iff.1 pairElt.info
  simp only [Prod.mk.injEq] at hzz
  simp [sizeOf, typeInfo, hi, hzz]
theorem underP : Try.prog.underlying 26 = some (.slice (Try.prog.elem 26)) := by rw [elemP]; exact Try.underlying26
theorem cutp_l (g n c k : Nat) (hk : k < n) (hc : n ≤ c) (w : World) :
    (Instr.slice 26 (.slice (some ⟨g, 0, none⟩) n c) (some (.int .i64 (k : Int))) none none).run Try.prog w = .ok (.slice (some ⟨g, k * 2, none⟩) (n - k) (c - k)) w := by
  have hne : ¬ c = k := by omega
  rw [run_slice_l w 26 (some ⟨g, 0, none⟩) n c underP .i64 (k : Int) (by omega) (by omega), elemP, sizeofP]
  simp [Result.andThen, sliced, hne, add_none]
theorem cutp_h (g n c k : Nat) (hk : k ≤ c) (w : World) :
    (Instr.slice 26 (.slice (some ⟨g, 0, none⟩) n c) none (some (.int .i64 (k : Int))) none).run Try.prog w = .ok (.slice (some ⟨g, 0, none⟩) k c) w := by
  rw [run_slice_h w 26 (some ⟨g, 0, none⟩) n c underP .i64 (k : Int) (by omega) (by omega), elemP, sizeofP]
  simp [Result.andThen, sliced, add_none]
theorem zeroP (w : World) : (zeroValue 45).run Try.prog w = .ok (.agg #[.string { data := #[] }, .string { data := #[] }]) w := Try.zeroValue45 w
theorem clearp (w : World) (ty : TypeId) (g o n c : Nat) (hn : 0 < n) (hc : ∀ j, j < n * 2 → (w.cell? ⟨g, o + j, none⟩).isSome = true) (hf : ∀ j, j < n * 2 → w.frozen? ⟨g, o + j, none⟩ = false) :
    (Builtin.clear_ #[26] ty #[.slice (some ⟨g, o, none⟩) n c]).run Try.prog w = .ok (.tuple #[]) (w.setCells g o (List.replicate (n * 2) (.string { data := #[] }))) := by
  have hzc : (Builtin.zeroCells (#[.string { data := #[] }, .string { data := #[] }] : Array Value) n).toList = List.replicate (n * 2) (.string { data := #[] }) := by
    simp [Builtin.zeroCells]
    apply List.ext_getElem
    · simp
    · intro i h1 h2
      simp only [List.getElem_map, List.getElem_range, List.getElem_replicate]
      rcases Nat.mod_two_eq_zero_or_one i with h | h <;> rw [h] <;> rfl
  have hst := run_storeCells_cells (P := Try.prog) g o (List.replicate (n * 2) (.string { data := #[] })) 0 w (by simpa using hc) (by simpa using hf) (by intro v hv'; rw [List.eq_of_mem_replicate hv']; rfl)
  simp only [Nat.add_zero] at hst
  obtain ⟨m, rfl⟩ : ∃ m, n = m + 1 := ⟨n - 1, by omega⟩
  have hz := zeroP
  simp [Builtin.clear_, run_underlying Try.underlying26, hz, Value.cells, hzc, hst]
theorem below_setCells {B : Nat} {w0 : World} {g : Nat} (hg : B ≤ g) : ∀ (vs : List Value) (o : Nat) (w : World), Below B w0 w → Below B w0 (w.setCells g o vs)
  | [], _, _, h => h
  | v :: r, o, w, h => below_setCells hg r (o + 1) _ (h.setCell (p := ⟨g, o, none⟩) hg v)
theorem size_setCells (g : Nat) : ∀ (vs : List Value) (o : Nat) (w : World), (w.setCells g o vs).heap.size = w.heap.size
  | [], _, _ => rfl
  | v :: r, o, w => by rw [World.setCells, size_setCells g r]; simp
theorem own_caps {w : World} {base n c g : Nat} {l : List PR} (h : OwnP w base (some ⟨g, 0, none⟩) n c l) : n ≤ c ∧ c ≤ maxLen ∧ base ≤ g ∧ g < w.heap.size := by
  rcases h.2.2.2.2 with ⟨he, _⟩ | ⟨g', cap, cur, he, hb, hg, hnc, hcm, _⟩
  · cases he
  · injection he with e1 e2 e3
    injection e1 with e1
    injection e1 with e1
    subst e1; subst e3
    refine ⟨hnc, hcm, hb, ?_⟩
    rcases Nat.lt_or_ge g w.heap.size with h | h
    · exact h
    · rw [Array.getElem?_eq_none h] at hg; cases hg
end Go.Proofs.Ytbfogcfgcoljkaa.Qh

/-
  The library's Compact over a row of pairs of the call's own.
-/
namespace Go.Proofs.Ytbfogcfgcoljkaa.Qi
open Go.ChangeShapes Go.WideShapes Go.ChangeAt Go.RowKit
open Bytes8 Blk8 Own8 OwnE Fa Fb Fo Pr8 Pi8 Qa Qh
set_option linter.unusedVariables false
set_option maxRecDepth 100000
set_option linter.unusedSimpArgs false

abbrev Cmpd (g c : Nat) (l : List PR) (base : Nat) (w : World) (e : Ending) (w' : World) : Prop := e = .returned (.slice (some ⟨g, 0, none⟩) (dd l).length c) ∧ Prs w' (some ⟨g, 0, none⟩) (dd l) ∧ Below base w w'
theorem own_drewN {w : World} {base n c : Nat} {A : Option Addr} {l : List PR} (h : OwnP w base A n c l) (k : Nat) : OwnP (w.drewN k) base A n c l := h
/-- What the end of the second loop leaves. -/
theorem cleared {wr w : World} {g n c base m : Nat} {l : List PR} (hL : l.length = n) (hA : AllP l) (hO : OwnP wr base (some ⟨g, 0, none⟩) n c (half l n)) (hM : (dd l).length = m) (hmn : m < n) (hg : base ≤ g) (hB : Below base w wr) :
    (∀ ty, (Builtin.clear_ #[26] ty #[.slice (some ⟨g, m * 2, none⟩) (n - m) (c - m)]).run Try.prog wr = .ok (.tuple #[]) (wr.setCells g (m * 2) (List.replicate ((n - m) * 2) (.string { data := #[] })))) ∧
    Prs (wr.setCells g (m * 2) (List.replicate ((n - m) * 2) (.string { data := #[] }))) (some ⟨g, 0, none⟩) (dd l) ∧ Below base w (wr.setCells g (m * 2) (List.replicate ((n - m) * 2) (.string { data := #[] }))) := by
  refine ⟨fun ty => clearp wr ty g (m * 2) (n - m) (c - m) (by omega) (fun j hj => ?_) (fun j _ => Pi8.OwnP.frozen hO (m * 2 + j)), ⟨dd_all hA, fun t ht => ?_⟩, below_setCells hg _ _ wr hB⟩
  · obtain ⟨g2, e, _, _, hc⟩ := hO.2.2.cell (i := m * 2 + j) (by rw [hO.2.2.len]; omega)
    injection e with e; injection e with e; subst e
    rw [hc, List.getElem?_eq_getElem (by rw [hO.2.2.len]; omega)]; rfl
  · rw [hM] at ht
    obtain ⟨c0, c1, h1, _⟩ := Pi8.OwnP.cellAt hO t (by omega)
    have e : (half l n).getD t nil2 = (dd l).getD t nil2 := by
      rw [← hL, half_end]
      rw [List.getD_eq_getElem?_getD, List.getD_eq_getElem?_getD, List.getElem?_append_left (by omega)]
    rw [e] at c0 c1
    refine ⟨g, 0, rfl, by rw [size_setCells]; exact h1, ?_, ?_⟩
    · rw [World.cell?_setCells_out g _ _ _ _ (fun _ _ => .inl (by show 0 + t * 2 < m * 2; omega)), Nat.zero_add]; exact c0
    · rw [World.cell?_setCells_out g _ _ _ _ (fun _ _ => .inl (by show 0 + t * 2 + 1 < m * 2; omega)), Nat.zero_add]; exact c1
set_option maxHeartbeats 8000000 in
theorem compact_any (g n c base : Nat) (l : List PR) (w : World) (hO : OwnP w base (some ⟨g, 0, none⟩) n c l) (hn : n ≤ 100000) (h1 : 1 ≤ n) :
    Calls Try.prog 46 #[.slice (some ⟨g, 0, none⟩) n c] w (Cmpd g c l base w) := by
  obtain ⟨hnc, hcm, hbg, hgl⟩ := own_caps hO
  unfold maxLen at hcm
  have hlen := hO.2.1
  have HL := Lib.hid hlen
  have HA := Lib.hid hO.1
  have HO := Lib.hid hO
  have hs1 := cutp_l g n c
  have hs2 := cutp_h g n c
  have HG := Lib.hid hbg
  have hmx : Try.prog.follows .mixedOrders = true := by kernel_rfl
  by_cases h2 : n < 2
  · obtain rfl : n = 1 := by omega
    have HR := Lib.hid (show dd l = l by have := dd_one l (by omega); rwa [List.take_of_length_le (by omega)] at this)
    clear hO hs1 hs2 hlen hbg hgl
    go_enter Try.func46, Try.ntmps46
    go_wp2
    go_ret
    exact ⟨by rw [HR.out, HL.out]; rfl, by rw [HR.out]; exact HO.out.prs, Below.refl _ _⟩
  · clear hO hlen hbg hgl
    go_enter Try.func46, Try.ntmps46
    go_wp2
    go_loopw [3] (fun i wr => ∃ k : Nat, 1 ≤ k ∧ k ≤ n ∧ i = .int .i64 (k : Int) ∧ Hid (dd (l.take k) = l.take k) ∧ Hid (OwnP wr base (some ⟨g, 0, none⟩) n c l) ∧ Hid (Below base w wr)) (fun i _ => n - (intOf i).toNat)
    case atStart => exact ⟨1, by omega, by omega, rfl, Lib.hid (dd_one l (by have := HL.out; omega)), HO, Lib.hid (Below.refl _ _)⟩
    case round =>
      clear HO
      obtain ⟨k, hk1, hk, rfl, hD, hO, hB⟩ := hrel
      by_cases hlt : k < n
      · obtain ⟨j, hj⟩ : ∃ j, k = j + 1 := ⟨k - 1, by omega⟩
        have HJ := Lib.hid hj
        obtain ⟨p0, p1, _, _⟩ := Pi8.OwnP.cellAt hO.out k hlt
        obtain ⟨q0, q1, _, _⟩ := Pi8.OwnP.cellAt hO.out j (by omega)
        have hin : (k : Int) < (n : Int) := by omega
        have hm1 : (k : Int) - 1 = (j : Int) := by omega
        have hjn : (j : Int) < (n : Int) := by omega
        have heq := eql_pair (HA.out.at_ k).1 (HA.out.at_ k).2.1 (HA.out.at_ j).1 (HA.out.at_ j).2.1
        clear hj
        by_cases he : l.getD k nil2 = l.getD j nil2
        · rw [decide_eq_true ⟨by rw [he], by rw [he]⟩] at heq
          have HE := Lib.hid (show l.getD (j + 1) nil2 = l.getD j nil2 by rw [← HJ.out]; exact he)
          have H0 := Lib.hid (dd_same (l := l) (i := j) (by have := HL.out; have := HJ.out; omega) HE.out)
          have H1 := Lib.hid (half_same (l := l) (i := j) (by have := HL.out; have := HJ.out; omega) HE.out)
          have H2 : Hid ((dd (l.take (k + 1))).length = k) := by
            have e : k + 1 = j + 2 := by have := HJ.out; omega
            rw [e, H0.out, ← HJ.out, hD.out, List.length_take]; exact Lib.hid (by have := HL.out; omega)
          have H3 : Hid (half l (k + 1) = l) := by
            have e : k + 1 = j + 2 := by have := HJ.out; omega
            rw [e, H1.out, ← HJ.out]; exact Lib.hid (half_start hD.out (by have := HL.out; omega))
          clear he hD HE H0 H1
          dsimp only [pv] at heq
          generalize T (l.getD k nil2).1 = S1 at *
          generalize T (l.getD k nil2).2 = S2 at *
          generalize T (l.getD j nil2).1 = S3 at *
          generalize T (l.getD j nil2).2 = S4 at *
          go_wp2_with fail
          go_quiet (fail)
          have hO3 : Hid (OwnP (wr.drewN nq) base (some ⟨g, 0, none⟩) n c (half l (k + 1))) := by
            rw [H3.out]; exact Lib.hid (own_drewN hO.out nq)
          have hB2 := Lib.hid (below_drewN hB.out nq)
          clear p0 p1 q0 q1 heq hO hB
          generalize wr.drewN nq = wd at *
          have hk0 := hs1 k hlt (by omega)
          go_wp2_with fail
          go_loopw [3, 5] (fun i5 i wr => ∃ q m : Nat, 1 ≤ q ∧ k + q ≤ n ∧ m + 1 ≤ k + q ∧ i5 = .int .i64 (m : Int) ∧ i = .int .i64 (q : Int) ∧ Hid ((dd (l.take (k + q))).length = m) ∧ Hid (OwnP wr base (some ⟨g, 0, none⟩) n c (half l (k + q))) ∧ Hid (Below base w wr)) (fun _ i _ => n - (intOf i).toNat)
          case atStart => exact ⟨1, k, by omega, by omega, by omega, rfl, rfl, H2, hO3, hB2⟩
          case round =>
            clear hO3 hB2 H2 H3
            obtain ⟨q, m, hq1, hq, hmq, rfl, rfl, hM, hO, hB⟩ := hrel
            by_cases hlt2 : k + q < n
            · obtain ⟨r, hr⟩ : ∃ r, q = r + 1 := ⟨q - 1, by omega⟩
              obtain ⟨p0, p1, _, _⟩ := Pi8.OwnP.cellAt hO.out (k + q) hlt2
              obtain ⟨q0, q1, _, _⟩ := Pi8.OwnP.cellAt hO.out (k + r) (by omega)
              obtain ⟨r0, r1, _, _⟩ := Pi8.OwnP.cellAt hO.out m (by omega)
              have f0 := Pi8.OwnP.frozen hO.out (m * 2)
              have f1 := Pi8.OwnP.frozen hO.out (m * 2 + 1)
              rw [half_high (by have := HL.out; omega) (by rw [hM.out]; omega), show (k + q) * 2 = k * 2 + q * 2 by omega] at p0 p1
              rw [half_high (by have := HL.out; omega) (by rw [hM.out]; omega), show (k + r) * 2 = k * 2 + r * 2 by omega] at q0 q1
              have hin2 : (q : Int) < ((n - k : Nat) : Int) := by omega
              have hm2 : (q : Int) - 1 = (r : Int) := by omega
              have hrn : (r : Int) < ((n - k : Nat) : Int) := by omega
              have hmn : (m : Int) < (n : Int) := by omega
              have heq := neq_pair (HA.out.at_ (k + q)).1 (HA.out.at_ (k + q)).2.1 (HA.out.at_ (k + r)).1 (HA.out.at_ (k + r)).2.1
              have HK := Lib.hid (show k + q = k + r + 1 by omega)
              clear hr
              by_cases he : l.getD (k + q) nil2 = l.getD (k + r) nil2
              · rw [decide_eq_true ⟨by rw [he], by rw [he]⟩] at heq
                have he2 : l.getD (k + r + 1) nil2 = l.getD (k + r) nil2 := by rw [← HK.out]; exact he
                have H1 := Lib.hid (half_same (l := l) (i := k + r) (by have := HL.out; have := HK.out; omega) he2)
                have H2 := Lib.hid (dd_same (l := l) (i := k + r) (by have := HL.out; have := HK.out; omega) he2)
                clear he he2 r0 r1 f0 f1
                dsimp only [pv] at heq
                generalize T (l.getD (k + q) nil2).1 = S1 at *
                generalize T (l.getD (k + q) nil2).2 = S2 at *
                generalize T (l.getD (k + r) nil2).1 = S3 at *
                generalize T (l.getD (k + r) nil2).2 = S4 at *
                go_wp2_with fail
                go_quiet (fail)
                have hO2 : Hid (OwnP (wr.drewN nq) base (some ⟨g, 0, none⟩) n c (half l (k + (q + 1)))) := by
                  have e : k + (q + 1) = k + r + 2 := by have := HK.out; omega
                  rw [e, H1.out, ← HK.out]; exact Lib.hid (own_drewN hO.out nq)
                have hM2 : Hid ((dd (l.take (k + (q + 1)))).length = m) := by
                  have e : k + (q + 1) = k + r + 2 := by have := HK.out; omega
                  rw [e, H2.out, ← HK.out]; exact hM
                have hB2 := Lib.hid (below_drewN hB.out nq)
                clear p0 p1 q0 q1 heq hO hB H1 H2
                go_wp2_with fail
                go_roundw
                case rel => exact ⟨q + 1, m, by omega, by omega, by omega, rfl, by go_num, hM2, hO2, hB2⟩
                case measure => simp [intOf]; omega
              · rw [decide_eq_false (fun h => he (Prod.ext h.1 h.2))] at heq
                have he2 : l.getD (k + r + 1) nil2 ≠ l.getD (k + r) nil2 := by rw [← HK.out]; exact he
                have H1 := Lib.hid (half_new (l := l) (i := k + r) (by have := HL.out; have := HK.out; omega) he2)
                have H2 := Lib.hid (dd_new (l := l) (i := k + r) (by have := HL.out; have := HK.out; omega) he2)
                have hx := HA.out.at_ (k + q)
                have HS : Hid (∀ nq, OwnP (((wr.drewN nq).setCell ⟨g, m * 2, none⟩ (.string (T (l.getD (k + q) nil2).1))).setCell ⟨g, m * 2 + 1, none⟩ (.string (T (l.getD (k + q) nil2).2))) base (some ⟨g, 0, none⟩) n c (half l (k + (q + 1)))) := Lib.hid fun nq => by
                  have e : k + (q + 1) = k + r + 2 := by have := HK.out; omega
                  rw [e, H1.out, ← HK.out, hM.out]
                  exact Pi8.OwnP.set (own_drewN hO.out nq) m (l.getD (k + q) nil2) hx (by omega)
                clear he he2 hx
                dsimp only [pv] at heq
                generalize T (l.getD (k + q) nil2).1 = S1 at *
                generalize T (l.getD (k + q) nil2).2 = S2 at *
                generalize T (l.getD (k + r) nil2).1 = S3 at *
                generalize T (l.getD (k + r) nil2).2 = S4 at *
                go_wp2_with fail
                go_quiet (fail)
                have hO2 := Lib.hid (HS.out nq)
                have hM2 : Hid ((dd (l.take (k + (q + 1)))).length = m + 1) := by
                  have e : k + (q + 1) = k + r + 2 := by have := HK.out; omega
                  rw [e, H2.out, List.length_append, ← HK.out, hM.out]; exact Lib.hid rfl
                have hB2 := Lib.hid (((below_drewN hB.out nq).setCell (p := ⟨g, m * 2, none⟩) HG.out (.string S1)).setCell (p := ⟨g, m * 2 + 1, none⟩) HG.out (.string S2))
                clear q0 q1 heq hO hB H1 H2 HS
                go_wp2_with fail
                go_roundw
                case rel => exact ⟨q + 1, m + 1, by omega, by omega, by omega, by go_num, by go_num, hM2, hO2, hB2⟩
                case measure => simp [intOf]; omega
            · have hqn : k + q = n := by omega
              have hmn : m < n := by omega
              have hk1 := hs1 m hmn (by omega)
              have hk2 := hs2 m (by omega)
              have hM2 : (dd l).length = m := by have := hM.out; rwa [hqn, List.take_of_length_le (by have := HL.out; omega)] at this
              obtain ⟨hcl, hP, hBb⟩ := cleared HL.out HA.out (by have := hO.out; rwa [hqn] at this) hM2 hmn HG.out hB.out
              have HR := Lib.hid hM2
              have HP := Lib.hid hP
              have HB := Lib.hid hBb
              have hle : ¬ (q : Int) < ((n - k : Nat) : Int) := by omega
              clear hM2 hP hBb hqn
              go_wp2_with fail
              go_ret
              exact ⟨by rw [HR.out]; rfl, HP.out, HB.out⟩
        · rw [decide_eq_false (fun h => he (Prod.ext h.1 h.2))] at heq
          have HN : Hid (dd (l.take (k + 1)) = l.take (k + 1)) := by
            have he2 : l.getD (j + 1) nil2 ≠ l.getD j nil2 := by rw [← HJ.out]; exact he
            have e : k + 1 = j + 2 := by have := HJ.out; omega
            have h := dd_new (l := l) (i := j) (by have := HL.out; have := HJ.out; omega) he2
            rw [← HJ.out, hD.out, ← take_step (by have := HL.out; omega)] at h
            rw [e] at h ⊢
            exact Lib.hid h
          clear he hD
          dsimp only [pv] at heq
          generalize T (l.getD k nil2).1 = S1 at *
          generalize T (l.getD k nil2).2 = S2 at *
          generalize T (l.getD j nil2).1 = S3 at *
          generalize T (l.getD j nil2).2 = S4 at *
          go_wp2_with fail
          go_quiet (fail)
          go_wp2_with fail
          go_round
          case rel => exact ⟨k + 1, by omega, by omega, by go_num, HN, Lib.hid (own_drewN hO.out _), Lib.hid (below_drewN hB.out _)⟩
          case measure => simp [intOf]; omega
      · obtain rfl : n = k := by omega
        have HR := Lib.hid (show dd l = l by have := hD.out; rwa [List.take_of_length_le (by have := HL.out; omega)] at this)
        clear hD
        go_wp2_with fail
        go_ret
        exact ⟨by rw [HR.out, HL.out]; rfl, by rw [HR.out]; exact hO.out.prs, hB.out⟩
end Go.Proofs.Ytbfogcfgcoljkaa.Qi
