/-
  Texts beneath the proof, one behind the other.
-/
import Derived.Maps.OwnSet
import Derived.DeepKeys4
import Derived.Deep.Cut
import Derived.Deep.RegionHeld3
import Derived.Lib.SliceRun
import Derived.BigQuiet
import Derived.BigRegion
import Derived.Test.YtpfkhcgeblihcaaQa5
import Derived.Test.YtpfkhcgeblihcaaQa4
import Derived.Test.YtpfkhcgeblihcaaQa3

/-
  What a match holds of: the program's way.
-/
namespace Go.Proofs.Ytpfkhcgeblihcaa.Qn
open Go.ChangeShapes Go.WideShapes Go.ChangeAt Go.RowKit Go.Maps
open Bytes8 Blk8 Own8 OwnE Fa Fo Pr8 Pv8 Qa Qb Qc Qd
set_option linter.unusedVariables false
set_option maxRecDepth 100000
set_option linter.unusedSimpArgs false

/-! ## plain -/
def altB (l : List PR) (a : AL) : Bool := a.2.any fun v => decide ((a.1, v) ∈ l)
def rowB (l : List PR) (r : RW) : Bool := r.all (altB l)
def holdB (l : List PR) (M : List RW) : Bool := M.isEmpty || M.any (rowB l)
theorem altB_yes {l : List PR} {a : AL} {i : Nat} (hi : i < a.2.length) (h : (a.1, a.2.getD i []) ∈ l) : altB l a = true := List.any_eq_true.2 ⟨_, getD_in hi, by simpa using h⟩
theorem altB_no {l : List PR} {a : AL} (h : ∀ i, i < a.2.length → (a.1, a.2.getD i []) ∉ l) : altB l a = false := by
  refine List.any_eq_false.2 fun v hv => ?_
  obtain ⟨i, hi, rfl⟩ := List.mem_iff_getElem.1 hv
  have := h i hi
  rw [List.getD_eq_getElem?_getD, List.getElem?_eq_getElem hi] at this
  simpa using this
theorem rowB_no {l : List PR} {r : RW} {i : Nat} (hi : i < r.length) (h : altB l (r.getD i nilA) = false) : rowB l r = false := by
  cases e : rowB l r with
  | false => rfl
  | true =>
    have := List.all_eq_true.1 e _ (getD_in (d := nilA) hi)
    rw [this] at h; cases h
theorem rowB_yes {l : List PR} {r : RW} (h : ∀ i, i < r.length → altB l (r.getD i nilA) = true) : rowB l r = true := by
  refine List.all_eq_true.2 fun a ha => ?_
  obtain ⟨i, hi, rfl⟩ := List.mem_iff_getElem.1 ha
  have := h i hi
  rwa [List.getD_eq_getElem?_getD, List.getElem?_eq_getElem hi] at this
theorem anyB_yes {l : List PR} {M : List RW} {i : Nat} (hi : i < M.length) (h : rowB l (M.getD i []) = true) : M.any (rowB l) = true := List.any_eq_true.2 ⟨_, getD_in hi, h⟩
theorem anyB_no {l : List PR} {M : List RW} (h : ∀ i, i < M.length → rowB l (M.getD i []) = false) : M.any (rowB l) = false := by
  refine List.any_eq_false.2 fun r hr => ?_
  obtain ⟨i, hi, rfl⟩ := List.mem_iff_getElem.1 hr
  have := h i hi
  rw [List.getD_eq_getElem?_getD, List.getElem?_eq_getElem hi] at this
  simpa using this

/-! ## the set -/
theorem laidOut : laidOutB Try.prog = true := by kernel_rfl
theorem rowPair : (40 : TypeId) < Try.prog.types.size := of_decide_eq_true (by kernel_rfl)
theorem widePair : (match Try.prog.underlying 40 with | some (.array _ _) | some (.struct _) => true | _ => false) = true := by rw [Try.underlying40]
theorem law : Keyed Try.prog 40 := Keyed.of_law (deep_law_laid laidOut (m := 2) (by omega) rowPair (by kernel_rfl) widePair)
def klP (p : PR) : Lit := .string (keyBytes [.string (T p.1).data.toList, .string (T p.2).data.toList])
theorem keyPair : Try.prog.keyType 40 = true := by kernel_rfl
theorem cellsPair : Try.prog.cellsOf 40 = 2 := by kernel_rfl
theorem cellsText : Try.prog.cellsOf 9 = 1 := by kernel_rfl
theorem typesTwo : ∃ n, Try.prog.types.size + 1 = n + 2 := by
  have h : (0 : Nat) < Try.prog.types.size := Nat.lt_of_le_of_lt (Nat.zero_le _) rowPair
  exact ⟨Try.prog.types.size - 1, by omega⟩
theorem hkey {p : PR} (hp : okP p) : keyOf Try.prog 40 (.agg #[.string (T p.1), .string (T p.2)]) = some (klP p) := by
  have h1 : (T p.1).size ≤ maxLen := by rw [T_size]; exact hp.2.2.1
  have h2 : (T p.2).size ≤ maxLen := by rw [T_size]; exact hp.2.2.2
  have hf : (Value.agg #[.string (T p.1), .string (T p.2)]).formed Try.prog 40 = true := by simp [Value.formed, Try.underlying40, cellsPair]
  obtain ⟨n, hn⟩ := typesTwo
  unfold keyOf klP
  rw [Try.underlying40]
  simp only [keyPair, hf, Bool.and_self, if_true, hn]
  simp [Program.keyLits, Try.underlying40, Try.underlying9, cellsPair, cellsText, Value.cells, h1, h2]
theorem klP_inj {p q : PR} (hp : okP p) (hq : okP q) (h : klP p = klP q) : p = q := by
  have e := law.inj (hkey hp) (by rw [h]; exact hkey hq)
  injection e with e
  simp only [Array.mk.injEq, List.cons.injEq, Value.string.injEq, and_true] at e
  obtain ⟨a, b⟩ := p; obtain ⟨c, d⟩ := q
  have e1 := T_inj hp.1 hq.1 e.1
  have e2 := T_inj hp.2.1 hq.2.1 e.2
  simp only at e1 e2
  rw [e1, e2]
theorem isKeyP (p : PR) : WideAt.IsKeyLit (klP p) := by unfold klP; trivial
abbrev unitD : DataW Unit := .agg []
def mapD (l : List PR) : DataW Unit := l.foldl (fun D p => D.put (klP p) unitD) (.map [])
theorem mapD_step {l : List PR} {k : Nat} (hk : k < l.length) : mapD (l.take (k + 1)) = (mapD (l.take k)).put (klP (l.getD k nil2)) unitD := by
  rw [take_step hk]; unfold mapD; rw [List.foldl_append]; rfl
theorem foldl_has {p : PR} (hp : okP p) (l : List PR) (hl : AllP l) : ∀ D : DataW Unit, IsMap D → has (l.foldl (fun D p => D.put (klP p) unitD) D) (klP p) = (has D (klP p) || decide (p ∈ l)) := by
  induction l with
  | nil => intro D _; simp
  | cons q l ih =>
    intro D hD
    rw [List.foldl_cons, ih (fun x hx => hl x (by simp [hx])) _ (hD.put _ _)]
    by_cases h : p = q
    · subst h
      rw [has_put_same hD (isKeyP p)]
      simp
    · have hne : klP p ≠ klP q := fun e => h (klP_inj hp (hl q (by simp)) e)
      rw [has_put_other hne]
      simp [h]
theorem mapD_has {p : PR} (hp : okP p) {l : List PR} (hl : AllP l) : has (mapD l) (klP p) = decide (p ∈ l) := by
  unfold mapD
  rw [foldl_has hp l hl _ isMap_empty]
  rfl
theorem zeroU (w : World) : (zeroValue 68).run Try.prog w = .ok (.agg #[]) w := by kernel_rfl
theorem make_hint (n : Int) (w : World) : (Instr.makeMap 50 (some (.int .i64 n))).run Try.prog w = .ok (.map (some w.heap.size)) (w.alloc (.map #[] 0)) := by
  simp [Instr.makeMap, run_underlying Try.underlying50, asInt]
  rfl
/-- The set of these pairs, in the block g. -/
def SetAt (w : World) (g : Nat) (l : List PR) : Prop := ∃ n, w.ownsMap Try.prog 40 unitElem g n (mapD l)
theorem SetAt.below {w w' : World} {g : Nat} {l : List PR} (h : SetAt w g l) (hb : Below w.heap.size w w') : SetAt w' g l := by
  obtain ⟨n, h⟩ := h
  exact ⟨n, h.kept (row := none) ⟨hb.os, hb.tape, hb.output, hb.size, fun b hlt _ => hb.block b hlt⟩ (by simp)⟩
set_option maxHeartbeats 4000000 in
theorem gather_any (b : Option Addr) (m : List PR) (k d : Nat) (w : World) (hQ : Prs w b m) (hM : m.length = k) (hmax2 : k ≤ 100000) :
    Calls Try.prog 24 #[.slice b k d] w fun e w' => e = .returned (.map (some w.heap.size)) ∧ SetAt w' w.heap.size m ∧ Below w.heap.size w w' := by
  have hmm := fun w => make_hint (k : Int) w
  have HQ := Lib.hid hQ
  have HM := Lib.hid hM
  have HMk := Lib.hid fun j => hkey (hQ.1.at_ j)
  clear hQ hM
  go_enter Try.func24, Try.ntmps24
  go_wp2
  go_loopw [11] (fun i wr => ∃ j : Nat, j ≤ k ∧ i = .int .i64 (j : Int) ∧ Hid (wr.ownsMap Try.prog 40 unitElem w.heap.size j (mapD (m.take j))) ∧ Hid (Below w.heap.size w wr)) (fun i _ => k - (intOf i).toNat)
  case atStart => exact ⟨0, by omega, rfl, Lib.hid (World.ownsMap_made _ _ _ _), Lib.hid ((Below.refl _ _).alloc (Nat.le_refl _) _)⟩
  case round =>
    obtain ⟨j, hj, rfl, hown, hB⟩ := hrel
    rcases Nat.lt_or_ge j k with hlt | hge
    · obtain ⟨b1, off1, rfl, hbl1, hc0, hc1⟩ := (HQ.out.below hB.out).2 j (by have := HM.out; omega)
      have hin : (j : Int) < (k : Int) := by omega
      have HS := Lib.hid (mapD_step (l := m) (k := j) (by have := HM.out; omega))
      have HK := Lib.hid (HMk.out j)
      generalize T (m.getD j nil2).1 = E1 at *
      generalize T (m.getD j nil2).2 = E2 at *
      go_wp2_with (at_mapUpdate; refine wpList_mapUpdate_own _ rfl _ _ _ 50 rfl 40 68 law Try.underlying50 unitElem w.heap.size j (mapD (m.take j)) rfl (hown.out.alloc (.cells #[.string E1, .string E2] 40)) (by unfold maxLen; omega) _ _ (klP (m.getD j nil2)) rfl rfl HK.out unitD [] unitElem_mk ?_; intro w2 ho2 hg2; have HO2 := Lib.hid ho2; have HB2 := Lib.hid ((hB.out.alloc hB.out.size (.cells #[.string E1, .string E2] 40)).grown hg2 (by have := hB.out.size; simp; omega) (fun q hq => by cases hq; exact Nat.le_refl _)); clear ho2 hg2)
      go_round
      case rel => exact ⟨j + 1, by omega, by go_num, by rw [HS.out]; exact HO2, HB2⟩
      case measure => simp [intOf]; omega
    · obtain rfl : j = k := by omega
      have ht : m.take j = m := List.take_of_length_le (by have := HM.out; omega)
      rw [ht] at hown
      clear ht HMk
      go_wp2
      go_ret
      exact ⟨rfl, ⟨_, hown.out⟩, hB.out⟩
set_option maxHeartbeats 4000000 in
theorem palt_any (g : Nat) (l : List PR) (a : AL) (A : Option Addr) (c : Nat) (w : World) (hS : SetAt w g l) (hl : AllP l) (hT : Txts w A a.2) (ha : OkA a) :
    Calls Try.prog 41 #[.map (some g), alV a A c] w fun e w' => e = .returned (.bool (altB l a)) ∧ Below w.heap.size w w' := by
  have hn := ha.2.2
  unfold maxLen at hn
  have HK := Lib.hid fun i (hi : i < a.2.length) => show okP (a.1, a.2.getD i []) from ⟨ha.1.1, (ha.2.1 _ (getD_in hi)).1, ha.1.2, (ha.2.1 _ (getD_in hi)).2⟩
  have HY := Lib.hid fun i => altB_yes (l := l) (a := a) (i := i)
  have HN := Lib.hid (altB_no (l := l) (a := a))
  have HA := Lib.hid hl
  have b1 := (Below.refl w.heap.size w).alloc (Nat.le_refl _) (.cells #[.string (T a.1), .slice A a.2.length c] 38)
  have R1 := Lib.hid (Blk.new w (alC a A c) 38)
  have HT := Lib.hid (hT.below b1)
  have HS := Lib.hid (hS.below b1)
  have HB1 := Lib.hid b1
  dsimp only [alV, alC] at *
  obtain ⟨an, av⟩ := a
  dsimp only at *
  obtain ⟨n, hL⟩ : ∃ n, av.length = n := ⟨_, rfl⟩
  have HL := Lib.hid hL
  rw [hL] at hn R1 HB1 HT HS ⊢
  clear hS hl hT ha b1 hL
  go_enter Try.func41, Try.ntmps41
  go_upto_region 1 with fail
  change Hid (Blk (w.alloc (.cells #[.string (T an), .slice A n c] 38)) w.heap.size _ _) at R1
  generalize w.alloc (.cells #[.string (T an), .slice A n c] 38) = w1 at *
  have r0 := R1.out.cell (i := 0) rfl
  have r1 := R1.out.cell (i := 1) rfl
  go_wp2_with fail
  go_loopw [12] (fun i wr => ∃ j : Nat, j ≤ n ∧ i = .int .i64 (j : Int) ∧ Hid (∀ x, x < j → (an, av.getD x []) ∉ l) ∧ Hid (Below w1.heap.size w1 wr)) (fun i _ => n - (intOf i).toNat)
  case atStart => exact ⟨0, by omega, rfl, Lib.hid (fun k hk => absurd hk (by omega)), Lib.hid (Below.refl _ _)⟩
  case round =>
    clear r0 r1
    obtain ⟨j, hj, rfl, hall, hB⟩ := hrel
    rcases Nat.lt_or_ge j n with hlt | hge
    · obtain ⟨b1, off1, rfl, hbl1, hc0⟩ := (HT.out.below hB.out) j (by have := HL.out; omega)
      have hin : (j : Int) < (n : Int) := by omega
      have s0 := (R1.out.below hB.out R1.out.lt).cell (i := 0) rfl
      obtain ⟨q, hq⟩ := HS.out.below hB.out
      have HQ := Lib.hid hq
      have hkj := HK.out j (by have := HL.out; omega)
      have HKy := Lib.hid (hkey hkj)
      have hhas := mapD_has hkj HA.out
      clear hq hkj
      by_cases hm : (an, av.getD j []) ∈ l
      · rw [decide_eq_true hm] at hhas
        have HH := Lib.hid hhas
        have HR := Lib.hid (HY.out j (by have := HL.out; omega) hm)
        clear hm hhas
        generalize T (av.getD j []) = E1 at *
        go_wp2_with (at_lookup; refine wpList_lookup_own_unit _ rfl _ _ 50 rfl 40 68 law Try.underlying50 (zeroU _) g q (mapD l) rfl HQ.out _ (klP (an, av.getD j [])) rfl HKy.out ?_; rw [HH.out])
        go_ret
        exact ⟨by rw [HR.out]; rfl, HB1.out.trans ((hB.out.alloc hB.out.size _).mono HB1.out.size)⟩
      · rw [decide_eq_false hm] at hhas
        have HH := Lib.hid hhas
        have hall2 := Lib.hid (fun x (hx : x < j + 1) => (by
          rcases Nat.lt_or_ge x j with h | h
          · exact hall.out x h
          · obtain rfl : x = j := by omega
            exact hm : (an, av.getD x []) ∉ l))
        clear hm hhas hall
        generalize T (av.getD j []) = E1 at *
        go_wp2_with (at_lookup; refine wpList_lookup_own_unit _ rfl _ _ 50 rfl 40 68 law Try.underlying50 (zeroU _) g q (mapD l) rfl HQ.out _ (klP (an, av.getD j [])) rfl HKy.out ?_; rw [HH.out])
        go_round
        case rel => exact ⟨j + 1, by omega, by go_num, hall2, Lib.hid (hB.out.alloc hB.out.size _)⟩
        case measure => simp [intOf]; omega
    · obtain rfl : j = n := by omega
      have HR := Lib.hid (HN.out fun i hi => hall.out i (by have := HL.out; omega))
      clear hall
      go_wp2
      go_ret
      exact ⟨by rw [HR.out]; rfl, HB1.out.trans (hB.out.mono HB1.out.size)⟩
end Go.Proofs.Ytpfkhcgeblihcaa.Qn

/-
  What a match holds of: the program's Holds.
-/
namespace Go.Proofs.Ytpfkhcgeblihcaa.Qo
open Go.ChangeShapes Go.WideShapes Go.ChangeAt Go.RowKit Go.Maps
open Bytes8 Blk8 Own8 OwnE Fa Fo Pr8 Pv8 Qa Qb Qc Qd Qn
set_option linter.unusedVariables false
set_option maxRecDepth 100000
set_option linter.unusedSimpArgs false

set_option maxHeartbeats 4000000 in
theorem prow_any (g : Nat) (l : List PR) (r : RW) (A : Option Addr) (c : Nat) (w : World) (hS : SetAt w g l) (hl : AllP l) (hT : Als w A r) (hr : OkR r) :
    Calls Try.prog 26 #[.map (some g), .slice A r.length c] w fun e w' => e = .returned (.bool (rowB l r)) ∧ Below w.heap.size w w' := by
  have hn := hr.2
  unfold maxLen at hn
  have HT := Lib.hid hT
  have HS := Lib.hid hS
  have HA := Lib.hid hl
  have HO := Lib.hid fun i hi => alt_ok hr (i := i) hi
  have HN := Lib.hid fun i => rowB_no (l := l) (r := r) (i := i)
  have HY := Lib.hid (rowB_yes (l := l) (r := r))
  obtain ⟨n, hL⟩ : ∃ n, r.length = n := ⟨_, rfl⟩
  have HL := Lib.hid hL
  rw [hL] at hn ⊢
  clear hS hl hT hr hL
  go_enter Try.func26, Try.ntmps26
  go_wp2
  go_loopw [9] (fun i wr => ∃ j : Nat, j ≤ n ∧ i = .int .i64 (j : Int) ∧ Hid (∀ x, x < j → altB l (r.getD x nilA) = true) ∧ Hid (Below w.heap.size w wr)) (fun i _ => n - (intOf i).toNat)
  case atStart => exact ⟨0, by omega, rfl, Lib.hid (fun k hk => absurd hk (by omega)), Lib.hid (Below.refl _ _)⟩
  case round =>
    obtain ⟨j, hj, rfl, hall, hB⟩ := hrel
    rcases Nat.lt_or_ge j n with hlt | hge
    · obtain ⟨b1, off1, A1, c1, rfl, hbl1, hc0, hc1, hT1⟩ := (HT.out.below hB.out) j (by have := HL.out; omega)
      have hin : (j : Int) < (n : Int) := by omega
      have HC := Lib.hid fun (W : World) (hW : Below wr.heap.size wr W) => after hB.out hW (palt_any g l (r.getD j nilA) A1 c1 W ((HS.out.below hB.out).below hW) HA.out (hT1.below hW) (HO.out j (by have := HL.out; omega)))
      dsimp only [alV] at HC
      clear hT1
      cases hb : altB l (r.getD j nilA) with
      | true =>
        rw [hb] at HC
        have hall2 := Lib.hid (fun x (hx : x < j + 1) => (by
          rcases Nat.lt_or_ge x j with h | h
          · exact hall.out x h
          · obtain rfl : x = j := by omega
            exact hb : altB l (r.getD x nilA) = true))
        clear hb hall
        generalize T (r.getD j nilA).1 = E1 at *
        generalize (r.getD j nilA).2.length = n1 at *
        go_wp2_with (go_at_call 41; (with_reducible refine (HC.out _ (by repeat (first | (with_reducible exact Below.refl _ _) | refine Below.alloc ?_ (by simp) _ | refine Below.setCell ?_ (by simp) _))).mono ?_); rintro e w3 ⟨rfl, hb3⟩)
        go_round
        case rel => exact ⟨j + 1, by omega, by go_num, hall2, Lib.hid hb3⟩
        case measure => simp [intOf]; omega
      | false =>
        rw [hb] at HC
        have HR := Lib.hid (HN.out j (by have := HL.out; omega) hb)
        clear hb hall
        generalize T (r.getD j nilA).1 = E1 at *
        generalize (r.getD j nilA).2.length = n1 at *
        go_wp2_with (go_at_call 41; (with_reducible refine (HC.out _ (by repeat (first | (with_reducible exact Below.refl _ _) | refine Below.alloc ?_ (by simp) _ | refine Below.setCell ?_ (by simp) _))).mono ?_); rintro e w3 ⟨rfl, hb3⟩)
        go_ret
        exact ⟨by rw [HR.out]; rfl, hb3⟩
    · obtain rfl : j = n := by omega
      have HR := Lib.hid (HY.out fun i hi => hall.out i (by have := HL.out; omega))
      clear hall
      go_wp2
      go_ret
      exact ⟨by rw [HR.out]; rfl, hB.out⟩
set_option maxHeartbeats 4000000 in
theorem index_any (g : Nat) (l : List PR) (M : List RW) (A : Option Addr) (c : Nat) (w : World) (hS : SetAt w g l) (hl : AllP l) (hT : Mts w A M) (hM : OkM M) :
    Calls Try.prog 40 #[.slice A M.length c, .func (.func 26) #[.map (some g)] #[]] w fun e w' => (∃ i : Int, e = .returned (.int .i64 i) ∧ decide (0 ≤ i) = M.any (rowB l)) ∧ Below w.heap.size w w' := by
  have hn := hM.2
  unfold maxLen at hn
  have HT := Lib.hid hT
  have HS := Lib.hid hS
  have HA := Lib.hid hl
  have HO := Lib.hid fun i hi => row_ok hM (i := i) hi
  have HY := Lib.hid fun i => anyB_yes (l := l) (M := M) (i := i)
  have HN := Lib.hid (anyB_no (l := l) (M := M))
  obtain ⟨n, hL⟩ : ∃ n, M.length = n := ⟨_, rfl⟩
  have HL := Lib.hid hL
  rw [hL] at hn ⊢
  clear hS hl hT hM hL
  go_enter Try.func40, Try.ntmps40
  go_wp2
  go_loopw [8] (fun i wr => ∃ j : Nat, j ≤ n ∧ i = .int .i64 (j : Int) ∧ Hid (∀ x, x < j → rowB l (M.getD x []) = false) ∧ Hid (Below w.heap.size w wr)) (fun i _ => n - (intOf i).toNat)
  case atStart => exact ⟨0, by omega, rfl, Lib.hid (fun k hk => absurd hk (by omega)), Lib.hid (Below.refl _ _)⟩
  case round =>
    obtain ⟨j, hj, rfl, hall, hB⟩ := hrel
    rcases Nat.lt_or_ge j n with hlt | hge
    · obtain ⟨b1, off1, A1, c1, rfl, hbl1, hc0, hT1⟩ := (HT.out.below hB.out) j (by have := HL.out; omega)
      have hin : (j : Int) < (n : Int) := by omega
      have HC := Lib.hid fun (W : World) (hW : Below wr.heap.size wr W) => after hB.out hW (prow_any g l (M.getD j []) A1 c1 W ((HS.out.below hB.out).below hW) HA.out (hT1.below hW) (HO.out j (by have := HL.out; omega)))
      clear hT1
      cases hb : rowB l (M.getD j []) with
      | false =>
        rw [hb] at HC
        have hall2 := Lib.hid (fun x (hx : x < j + 1) => (by
          rcases Nat.lt_or_ge x j with h | h
          · exact hall.out x h
          · obtain rfl : x = j := by omega
            exact hb : rowB l (M.getD x []) = false))
        clear hb hall
        generalize (M.getD j []).length = n1 at *
        go_wp2_with (go_at_call 26; (with_reducible refine (HC.out _ (Below.refl _ _)).mono ?_); rintro e w3 ⟨rfl, hb3⟩)
        go_round
        case rel => exact ⟨j + 1, by omega, by go_num, hall2, Lib.hid hb3⟩
        case measure => simp [intOf]; omega
      | true =>
        rw [hb] at HC
        have HR := Lib.hid (HY.out j (by have := HL.out; omega) hb)
        clear hb hall
        generalize (M.getD j []).length = n1 at *
        go_wp2_with (go_at_call 26; (with_reducible refine (HC.out _ (Below.refl _ _)).mono ?_); rintro e w3 ⟨rfl, hb3⟩)
        go_ret
        exact ⟨⟨(j : Int), rfl, by rw [HR.out]; simp⟩, hb3⟩
    · obtain rfl : j = n := by omega
      have HR := Lib.hid (HN.out fun i hi => hall.out i (by have := HL.out; omega))
      clear hall
      go_wp2
      go_ret
      exact ⟨⟨-1, rfl, by rw [HR.out]; rfl⟩, hB.out⟩
theorem contains_any (g : Nat) (l : List PR) (M : List RW) (A : Option Addr) (c : Nat) (w : World) (hS : SetAt w g l) (hl : AllP l) (hT : Mts w A M) (hM : OkM M) :
    Calls Try.prog 25 #[.slice A M.length c, .func (.func 26) #[.map (some g)] #[]] w fun e w' => e = .returned (.bool (M.any (rowB l))) ∧ Below w.heap.size w w' := by
  have HC := Lib.hid (index_any g l M A c w hS hl hT hM)
  clear hS hl hT hM
  generalize M.length = n at *
  generalize M.any (rowB l) = z at *
  go_enter Try.func25, Try.ntmps25
  go_wp2_with (go_at_call 40; (with_reducible refine HC.out.mono ?_); rintro e w3 ⟨⟨i, rfl, hz⟩, hb3⟩; have HZ := Lib.hid hz; have HB := Lib.hid hb3; clear hz hb3)
  go_ret
  exact ⟨by rw [← HZ.out]; rfl, HB.out⟩
set_option maxHeartbeats 4000000 in
theorem holds_any (l : List PR) (b : Option Addr) (k d : Nat) (M : List RW) (A : Option Addr) (c : Nat) (w : World) (hP : Prs w b l) (hk : l.length = k) (hk2 : k ≤ 100000) (hT : Mts w A M) (hM : OkM M) :
    Calls Try.prog 14 #[mtV A M.length c, .slice b k d] w fun e w' => e = .returned (.bool (holdB l M)) ∧ Below w.heap.size w w' := by
  have b1 := (Below.refl w.heap.size w).alloc (Nat.le_refl _) (.cells #[.slice A M.length c] 25)
  have R1 := Lib.hid (Blk.new w [.slice A M.length c] 25)
  have HP := Lib.hid (hP.below b1)
  have HT := Lib.hid (hT.below b1)
  have HB := Lib.hid b1
  dsimp only [mtV]
  by_cases h0 : M.length = 0
  · have HR := Lib.hid (show holdB l M = true by unfold holdB; rw [List.eq_nil_of_length_eq_zero h0]; rfl)
    rw [h0]
    clear hP hT hM h0 b1
    go_enter Try.func14, Try.ntmps14
    go_wp2_with fail
    go_ret
    exact ⟨by rw [HR.out]; rfl, (Below.refl w.heap.size w).alloc (Nat.le_refl _) _⟩
  · have HR := Lib.hid (show holdB l M = M.any (rowB l) by
      unfold holdB
      rcases M with _ | ⟨x, M⟩
      · exact absurd rfl h0
      · rfl)
    have hz : ((M.length : Int) == 0) = false := by simp; exact fun e => h0 (by rw [e]; rfl)
    have HG := Lib.hid fun (W : World) (h : Prs W b l) => gather_any b l k d W h hk hk2
    have HCo := Lib.hid fun (g : Nat) (W : World) (h : SetAt W g l) (h2 : Mts W A M) => contains_any g l M A c W h hP.1 h2 hM
    clear hP hT hM b1 h0
    generalize M.any (rowB l) = z at *
    generalize M.length = n at *
    go_enter Try.func14, Try.ntmps14
    go_upto_region 1 with fail
    generalize w.alloc (.cells #[.slice A n c] 25) = w1 at *
    have r0 := R1.out.cell (i := 0) rfl
    go_upto_region 4 with (go_at_call 24; (with_reducible refine (HG.out _ HP.out).mono ?_); rintro e w2 ⟨rfl, hs, hb⟩; have HS2 := Lib.hid hs; have HB2 := Lib.hid hb; clear hs hb)
    have s0 := (R1.out.below HB2.out R1.out.lt).cell (i := 0) rfl
    have HC2 := Lib.hid (HCo.out _ _ HS2.out (HT.out.below HB2.out))
    have HBB := Lib.hid (HB.out.trans (HB2.out.mono HB.out.size))
    clear r0 HCo HG
    generalize w1.heap.size = g1 at *
    go_wp2_with (go_at_call 25; (with_reducible refine HC2.out.mono ?_); rintro e w3 ⟨rfl, hb3⟩; have HB3 := Lib.hid hb3; clear hb3)
    go_ret
    exact ⟨by rw [HR.out]; rfl, HBB.out.trans (HB3.out.mono HBB.out.size)⟩
end Go.Proofs.Ytpfkhcgeblihcaa.Qo

/-
  Plain: words more behind words that are whole: what their match is, and what it holds of.
-/
namespace Go.Proofs.Ytpfkhcgeblihcaa.Qu
open Go.ChangeShapes Go.WideShapes Go.ChangeAt Go.RowKit
open Bytes8 Blk8 Own8 OwnE Fa Fb Fc Fo Pr8 Pv8 Qa Qb Qc Qn Qp
set_option linter.unusedVariables false
set_option maxRecDepth 100000
set_option linter.unusedSimpArgs false

abbrev sp (x : TX) : PR := (splitN x, splitV x)
def st : List TX → List RW → List PR → List RW × List PR
  | [], M, row => (M, row)
  | x :: r, M, row => if x = [43] then st r (M ++ [canon row]) [] else st r M (row ++ [sp x])
theorem st_snoc : ∀ (r : List TX) (M : List RW) (row : List PR) (x : TX), x ≠ [43] → (st (r ++ [x]) M row).1 = (st r M row).1 ∧ (st (r ++ [x]) M row).2 = (st r M row).2 ++ [sp x]
  | [], M, row, x, hx => by simp [st, hx]
  | y :: r, M, row, x, hx => by
    rw [List.cons_append, st, st]
    split
    · exact st_snoc r _ _ x hx
    · exact st_snoc r _ _ x hx
theorem st_names : ∀ (r : List TX) (M : List RW) (row : List PR) (F : TX → Prop), (∀ x ∈ r, x = [43] ∨ F (splitN x)) → (∀ p ∈ row, F p.1) → ∀ p ∈ (st r M row).2, F p.1
  | [], M, row, F, _, h => h
  | y :: r, M, row, F, hr, h => by
    rw [st]
    split
    · exact st_names r _ _ F (fun x hx => hr x (by simp [hx])) (fun _ h => by cases h)
    · rename_i e
      refine st_names r _ _ F (fun x hx => hr x (by simp [hx])) (fun p hp => ?_)
      rcases List.mem_append.1 hp with h1 | h1
      · exact h p h1
      · rw [List.mem_singleton.1 h1]
        rcases hr y (by simp) with h2 | h2
        · exact absurd h2 e
        · exact h2
theorem comp_st : ∀ (m : Nat) (ws t : List TX) (k : Nat) (M : List RW) (row : List PR), ws.length - k = m → PW ws → (0 < ws.length → ws.getD (ws.length - 1) [] ≠ [43]) → k ≤ ws.length → (0 < k → ws.getD (k - 1) [] ≠ [43] → row ≠ []) → comp (ws.drop k ++ t) M row = comp t (st (ws.drop k) M row).1 (st (ws.drop k) M row).2
  | 0, ws, t, k, M, row, hm, _, _, hk, _ => by rw [List.drop_eq_nil_of_le (by omega)]; rfl
  | m + 1, ws, t, k, M, row, hm, hP, hL, hk, hrow => by
    have hlt : k < ws.length := by omega
    have hd : ws.drop k = ws.getD k [] :: ws.drop (k + 1) := by
      rw [List.drop_eq_getElem_cons hlt, List.getD_eq_getElem?_getD, List.getElem?_eq_getElem hlt]; rfl
    rw [hd, List.cons_append, comp, st]
    rcases hP k hlt with ⟨e, h0, h1⟩ | h
    · rw [if_pos e, if_pos e, if_neg]
      · refine comp_st m ws t (k + 1) _ _ (by omega) hP hL hlt (fun _ h2 => ?_)
        rw [Nat.add_sub_cancel] at h2
        exact absurd e h2
      · rintro (h2 | h2)
        · exact hrow h0 h1 h2
        · have h3 := List.drop_eq_nil_iff.1 (List.append_eq_nil_iff.1 h2).1
          have h4 := hL (by omega)
          rw [show ws.length - 1 = k by omega] at h4
          exact h4 e
    · rw [if_neg h.1, if_neg h.1, if_pos h.2.1]
      exact comp_st m ws t (k + 1) _ _ (by omega) hP hL hlt (fun _ _ => by simp)
theorem comp_all {ws : List TX} (h : FW ws) (t : List TX) : comp (ws ++ t) [] [] = comp t (st ws [] []).1 (st ws [] []).2 :=
  comp_st _ ws t 0 [] [] rfl h.1 h.2 (Nat.zero_le _) (fun h => absurd h (by omega))
theorem rowB_canon {l row : List PR} : rowB l (canon row) = true ↔ ∀ p ∈ row, ∃ v, (p.1, v) ∈ row ∧ (p.1, v) ∈ l := by
  constructor
  · intro h p hp
    obtain ⟨a, ha, e1, _⟩ := (canon_in row p).2 hp
    have h1 := List.all_eq_true.1 h a ha
    obtain ⟨v, hv, h2⟩ := List.any_eq_true.1 h1
    rw [e1] at h2
    exact ⟨v, (canon_in row (p.1, v)).1 ⟨a, ha, e1, hv⟩, by simpa using h2⟩
  · intro h
    refine List.all_eq_true.2 fun a ha => ?_
    have hr := canon_ris row
    rcases hc : a.2 with _ | ⟨v, vs⟩
    · exact absurd hc (hr.each a ha).1
    · obtain ⟨u, h1, h2⟩ := h (a.1, v) ((canon_in row (a.1, v)).1 ⟨a, ha, rfl, by rw [hc]; simp⟩)
      obtain ⟨b, hb, e1, e2⟩ := (canon_in row (a.1, u)).2 h1
      have hab : b = a := by
        rcases List.mem_iff_getElem.1 ha with ⟨i, hi, rfl⟩
        rcases List.mem_iff_getElem.1 hb with ⟨j, hj, rfl⟩
        rcases Nat.lt_trichotomy i j with h3 | h3 | h3
        · have := List.pairwise_iff_getElem.1 hr.names i j hi hj h3
          dsimp only at e1; rw [e1, ltL_irrefl] at this; cases this
        · subst h3; rfl
        · have := List.pairwise_iff_getElem.1 hr.names j i hj hi h3
          dsimp only at e1; rw [e1, ltL_irrefl] at this; cases this
      subst hab
      exact List.any_eq_true.2 ⟨u, e2, by simpa using h2⟩

abbrev nev : TX := [78, 69, 86, 69, 82, 61, 49]
theorem nev_split : splitE nev = 0 ∧ splitN nev = [78, 69, 86, 69, 82] ∧ nev ≠ [43] := by decide +kernel
theorem nev_name : ([78, 69, 86, 69, 82] : TX) ∉ Seq8.nameLs := by decide +kernel
/-- The last word of whole words, with a sign behind it. -/
theorem last_more {x : TX} (h : okW x) : splitE (x ++ [63]) = 0 ∧ splitN (x ++ [63]) = splitN x ∧ x ++ [63] ≠ [43] ∧ AllB (x ++ [63]) ∧ (x ++ [63]).length ≤ 900000 := by
  obtain ⟨h1, h2, ⟨h3, h3'⟩, h4, h5⟩ := h
  obtain ⟨p1, p2⟩ := pay_split h2
  have hn : nmB (splitN x) = true := by
    unfold flawI at p1
    by_cases hn : nmB (splitN x) = true
    · exact hn
    · rw [if_neg hn] at p1; cases p1
  have e : x ++ [63] = pay (splitN x) (splitV x ++ [63]) := by
    conv => lhs; rw [← p2]
    unfold pay
    simp
  have hf : flawI (splitN x) (splitV x ++ [63]) = 0 := by
    unfold flawI
    rw [if_pos hn, if_neg (by simp; omega)]
  obtain ⟨q1, q2, q3⟩ := split_pay hf
  have hx : x.length ≤ 400 := by
    rw [← p2, pay_len]
    have := nmB_len hn
    omega
  refine ⟨by rw [e]; exact q1, by rw [e]; exact q2, fun h => ?_, h3.app (fun y hy => by simp at hy; subst hy; decide), by simp; omega⟩
  have h6 := congrArg List.length h
  rw [e, pay_len] at h6
  simp at h6
  omega
structure More (ws : List TX) (one : TX) (M X Y Z : List RW) : Prop where
  m : compM ws = (0, M)
  x : compM (ws ++ [[43], one]) = (0, X)
  y : compM (ws ++ [nev]) = (0, Y)
  z : compM (ws ++ [ws.getD (ws.length - 1) [] ++ [63]]) = (0, Z)
  hx : ∀ l, holdB l M = true → holdB l X = true
  hy : ∀ l, holdB l M = false → holdB l Y = false
  hz : ∀ l, holdB l M = true → holdB l Z = true
theorem holdB_snoc (l : List PR) (A : List RW) (r : RW) : holdB l (A ++ [r]) = (A.any (rowB l) || rowB l r) := by
  unfold holdB
  rw [List.any_append]
  have : (A ++ [r]).isEmpty = false := by cases A <;> rfl
  rw [this]
  simp
theorem more_of {ws : List TX} {one : TX} (h : FW ws) (h0 : ws ≠ []) (hl : ws.length ≤ 12) (ho : okW one) : ∃ M X Y Z, More ws one M X Y Z := by
  have hpos := List.length_pos_iff.2 h0
  have hlast := h.2 hpos
  have hlo : okW (ws.getD (ws.length - 1) []) := by
    rcases h.1 (ws.length - 1) (by omega) with ⟨e, _⟩ | e
    · exact absurd e hlast
    · exact e
  obtain ⟨A, hA⟩ : ∃ A, (st ws [] []).1 = A := ⟨_, rfl⟩
  obtain ⟨R, hR⟩ : ∃ R, (st ws [] []).2 = R := ⟨_, rfl⟩
  have hc := fun t => comp_all h t
  rw [hA, hR] at hc
  have hmem : sp (ws.getD (ws.length - 1) []) ∈ R := by
    rcases List.eq_nil_or_concat ws with e | ⟨r, x, e⟩
    · exact absurd e h0
    · rw [List.concat_eq_append] at e
      subst e
      have e1 : (r ++ [x]).getD ((r ++ [x]).length - 1) [] = x := by simp
      rw [e1] at hlast ⊢
      rw [← hR, (st_snoc r [] [] x hlast).2]
      simp
  have hRne : R ≠ [] := fun e => by rw [e] at hmem; cases hmem
  have hnm : ∀ p ∈ R, p.1 ∈ Seq8.nameLs := by
    rw [← hR]
    refine st_names ws [] [] (fun n => n ∈ Seq8.nameLs) (fun x hx => ?_) (fun _ h => by cases h)
    obtain ⟨i, hi, rfl⟩ := List.mem_iff_getElem.1 hx
    have h1 := h.1 i hi
    rw [show ws.getD i [] = ws[i] by simp [List.getElem?_eq_getElem hi]] at h1
    rcases h1 with ⟨e, _⟩ | e
    · exact .inl e
    · exact .inr e.2.2.2.1
  obtain ⟨n1, n2, n3⟩ := nev_split
  obtain ⟨z1, z2, z3, _⟩ := last_more hlo
  have big : ∀ t : List TX, t.length ≤ 2 → ¬ 32 < (ws ++ t).length := fun t ht => by simp; omega
  have hm : compM ws = (0, A ++ [canon R]) := by
    have := hc []
    rw [List.append_nil] at this
    unfold compM
    rw [if_neg (by omega), this, comp, if_neg hRne]
  refine ⟨A ++ [canon R], A ++ [canon R] ++ [canon [sp one]], A ++ [canon (R ++ [sp nev])], A ++ [canon (R ++ [sp (ws.getD (ws.length - 1) [] ++ [63])])], ⟨hm, ?_, ?_, ?_, fun l hh => ?_, fun l hh => ?_, fun l hh => ?_⟩⟩
  · unfold compM
    rw [if_neg (big _ (by simp)), hc, comp, if_pos rfl, if_neg (by simp [hRne]), comp, if_neg ho.1, if_pos ho.2.1, comp, if_neg (by simp)]
    rfl
  · unfold compM
    rw [if_neg (big _ (by simp)), hc, comp, if_neg n3, if_pos n1, comp, if_neg (by simp)]
  · unfold compM
    rw [if_neg (big _ (by simp)), hc, comp, if_neg z3, if_pos z1, comp, if_neg (by simp)]
  · rw [holdB_snoc] at hh ⊢
    rw [List.any_append]
    simp only [List.any_cons, List.any_nil, Bool.or_false, hh, Bool.true_or]
  · rw [holdB_snoc] at hh ⊢
    rw [Bool.or_eq_false_iff] at hh ⊢
    refine ⟨hh.1, ?_⟩
    cases e : rowB l (canon (R ++ [sp nev])) with
    | false => rfl
    | true =>
      have h1 := rowB_canon.1 e
      have h2 : rowB l (canon R) = true := rowB_canon.2 fun p hp => by
        obtain ⟨v, h3, h4⟩ := h1 p (by simp [hp])
        refine ⟨v, ?_, h4⟩
        rcases List.mem_append.1 h3 with h5 | h5
        · exact h5
        · have h6 := List.mem_singleton.1 h5
          have h7 : p.1 = splitN nev := congrArg Prod.fst h6
          rw [n2] at h7
          exact absurd (h7 ▸ hnm p hp) nev_name
      rw [h2] at hh; cases hh.2
  · rw [holdB_snoc] at hh ⊢
    rw [Bool.or_eq_true] at hh ⊢
    rcases hh with h1 | h1
    · exact .inl h1
    · refine .inr (rowB_canon.2 fun p hp => ?_)
      have h2 := rowB_canon.1 h1
      rcases List.mem_append.1 hp with h3 | h3
      · obtain ⟨v, h4, h5⟩ := h2 p h3
        exact ⟨v, by simp [h4], h5⟩
      · rw [List.mem_singleton.1 h3]
        obtain ⟨v, h4, h5⟩ := h2 _ hmem
        refine ⟨v, ?_, ?_⟩
        · show (splitN (ws.getD (ws.length - 1) [] ++ [63]), v) ∈ _
          rw [z2]; exact List.mem_append_left _ h4
        · show (splitN (ws.getD (ws.length - 1) [] ++ [63]), v) ∈ l
          rw [z2]; exact h5
end Go.Proofs.Ytpfkhcgeblihcaa.Qu

/-
  Pairs by names, then by values: the program's comparison.
-/
namespace Go.Proofs.Ytpfkhcgeblihcaa.Qf
open Go.ChangeShapes Go.WideShapes Go.ChangeAt Go.RowKit
open Bytes8 Blk8 Fa Fb Fo Pr8 Qa
set_option linter.unusedVariables false
set_option maxRecDepth 100000
set_option linter.unusedSimpArgs false

def orI (a b : Int) : Int := if a = 0 then b else a
set_option maxHeartbeats 2000000 in
theorem or_any (g : Nat) (a b : Int) (w : World) (h0 : w.cell? ⟨g, 0, none⟩ = some (.int .i64 a)) (h1 : w.cell? ⟨g, 1, none⟩ = some (.int .i64 b)) :
    Calls Try.prog 32 #[.slice (some ⟨g, 0, none⟩) 2 2] w fun e w' => e = .returned (.int .i64 (orI a b)) ∧ w = w' := by
  have HO0 : Hid (a ≠ 0 → orI a b = a) := Lib.hid fun h => if_neg h
  have HO1 : Hid (a = 0 → orI a b = b) := Lib.hid fun h => if_pos h
  go_enter Try.func32, Try.ntmps32
  go_wp2
  go_loopw [8] (fun i wr => ∃ k : Nat, k ≤ 2 ∧ (i = .int .i64 0 ∧ k = 0 ∨ i = .int .i64 1 ∧ k = 1 ∨ i = .int .i64 2 ∧ k = 2) ∧ Hid ((0 < k → a = 0) ∧ (1 < k → b = 0)) ∧ w = wr) (fun i _ => 2 - (intOf i).toNat)
  case atStart => exact ⟨0, by omega, .inl ⟨rfl, rfl⟩, Lib.hid ⟨fun h => absurd h (by omega), fun h => absurd h (by omega)⟩, rfl⟩
  case round =>
    obtain ⟨k, hk, hi, hall, rfl⟩ := hrel
    rcases hi with ⟨rfl, rfl⟩ | ⟨rfl, rfl⟩ | ⟨rfl, rfl⟩
    · by_cases h : a = 0
      · have HR := Lib.hid h
        subst h
        go_wp2
        go_round
        case rel => exact ⟨1, by omega, .inr (.inl ⟨rfl, rfl⟩), Lib.hid (by simp), trivial⟩
        case measure => simp [intOf]
      · have HR := Lib.hid (HO0.out h)
        have hb : (a != 0) = true := by simpa using h
        clear h
        go_wp2
        go_ret
        exact ⟨by rw [HR.out]; rfl, rfl⟩
    · have ha := hall.out.1 (by omega)
      by_cases h : b = 0
      · subst h
        go_wp2
        go_round
        case rel => exact ⟨2, by omega, .inr (.inr ⟨rfl, rfl⟩), Lib.hid (by simp [ha]), trivial⟩
        case measure => simp [intOf]
      · have HR := Lib.hid (HO1.out ha)
        have hb : (b != 0) = true := by simpa using h
        clear h ha
        go_wp2
        go_ret
        exact ⟨by rw [HR.out]; rfl, rfl⟩
    · have ha := hall.out.1 (by omega)
      have hb := hall.out.2 (by omega)
      have HR := Lib.hid (show orI a b = 0 by rw [HO1.out ha, hb])
      clear ha hb
      go_wp2
      go_ret
      exact ⟨by rw [HR.out]; rfl, rfl⟩

def cmpB (x y : TX) : Int := Lib.compareBytes (T x).data.toList (T y).data.toList
def cmpN (p q : PR) : Int := orI (cmpB p.1 q.1) (cmpB p.2 q.2)
theorem cmpB_lt {x y : TX} (hx : AllB x) (hy : AllB y) : decide (cmpB x y < 0) = ltL x y := by
  unfold cmpB
  rw [← ByteArray.toList_eq, ← ByteArray.toList_eq, T_toList, T_toList]
  exact comp_nums _ _ hx hy
theorem comp_zero : ∀ l m : List UInt8, Lib.compareBytes l m = 0 ↔ l = m
  | [], [] => by simp [Lib.compareBytes]
  | [], _ :: _ => by simp [Lib.compareBytes]
  | _ :: _, [] => by simp [Lib.compareBytes]
  | x :: l, y :: m => by
    simp only [Lib.compareBytes]
    by_cases h1 : x < y
    · rw [if_pos h1]
      constructor
      · intro h; cases h
      · intro h; injection h with h _; subst h; exact absurd h1 (by rw [UInt8.lt_iff_toNat_lt]; omega)
    · rw [if_neg h1]
      by_cases h2 : y < x
      · rw [if_pos h2]
        constructor
        · intro h; cases h
        · intro h; injection h with h _; subst h; exact absurd h2 (by rw [UInt8.lt_iff_toNat_lt]; omega)
      · rw [if_neg h2, comp_zero l m]
        have e : x = y := by
          rw [UInt8.lt_iff_toNat_lt] at h1 h2
          exact UInt8.toNat_inj.1 (by omega)
        subst e
        simp
theorem cmpB_zero {x y : TX} (hx : AllB x) (hy : AllB y) : cmpB x y = 0 ↔ x = y := by
  unfold cmpB
  rw [comp_zero, ← ByteArray.toList_eq, ← ByteArray.toList_eq]
  constructor
  · intro h
    refine T_inj hx hy ?_
    rw [ByteArray.toList_eq, ByteArray.toList_eq] at h
    exact ByteArray.ext (Array.toList_inj.1 h)
  · rintro rfl; rfl
abbrev okQ (p : PR) : Prop := AllB p.1 ∧ AllB p.2
theorem cmpN_lt {p q : PR} (hp : okQ p) (hq : okQ q) : decide (cmpN p q < 0) = ltN p q := by
  unfold cmpN ltN orI
  rw [← cmpB_lt hp.1 hq.1, ← cmpB_lt hp.2 hq.2]
  have hz := cmpB_zero hp.1 hq.1
  by_cases h : p.1 = q.1
  · have h0 := hz.2 h
    rw [if_pos h0, h0]
    simp [h]
  · have h0 : cmpB p.1 q.1 ≠ 0 := fun e => h (hz.1 e)
    rw [if_neg h0]
    simp [h]

set_option maxHeartbeats 2000000 in
theorem cmpalts_any (p q : PR) (w : World) :
    Calls Try.prog 31 #[pv p.1 p.2, pv q.1 q.2] w fun e w' => e = .returned (.int .i64 (cmpN p q)) ∧ Grew w w' := by
  obtain ⟨n, v⟩ := p
  obtain ⟨m, u⟩ := q
  have H1 : Hid (∀ w, Calls Try.prog 33 #[.string (T n), .string (T m)] w fun e w' => e = .returned (.int .i64 (cmpB n m)) ∧ w = w') := Lib.hid fun w => scompare_any (T n) (T m) w
  have H2 : Hid (∀ w, Calls Try.prog 33 #[.string (T v), .string (T u)] w fun e w' => e = .returned (.int .i64 (cmpB v u)) ∧ w = w') := Lib.hid fun w => scompare_any (T v) (T u) w
  have HG := Lib.hid ((Grew.boxed w (box n v)).alloc (box m u))
  have B1 := Lib.hid ((Blk.new w [.string (T n), .string (T v)] 40).alloc (box m u))
  have B2 := Lib.hid (Blk.new_at (w.alloc (box n v)) [.string (T m), .string (T u)] 40 (w.heap.size + 1) (by simp))
  show Calls _ _ _ _ fun e w' => e = .returned (.int .i64 (orI (cmpB n m) (cmpB v u))) ∧ _
  dsimp only [pv, box] at *
  have HO := Lib.hid fun g w (h0 : w.cell? ⟨g, 0, none⟩ = some (.int .i64 (cmpB n m))) (h1 : w.cell? ⟨g, 1, none⟩ = some (.int .i64 (cmpB v u))) => or_any g _ _ w h0 h1
  generalize orI (cmpB n m) (cmpB v u) = C at *
  generalize cmpB n m = C1 at *
  generalize cmpB v u = C2 at *
  generalize T n = SN at *
  generalize T v = SV at *
  generalize T m = SM at *
  generalize T u = SU at *
  have hm : Try.prog.follows .mixedOrders = true := by kernel_rfl
  go_enter Try.func31, Try.ntmps31
  go_wp2_with fail
  generalize hW : (w.alloc (.cells #[.string SN, .string SV] 40)).alloc (.cells #[.string SM, .string SU] 40) = W at *
  have c0 := B1.out.cell (i := 0) rfl
  have c1 := B1.out.cell (i := 1) rfl
  have d0 := B2.out.cell (i := 0) rfl
  have d1 := B2.out.cell (i := 1) rfl
  have hlt1 := B1.out.lt
  have hlt2 := B2.out.lt
  have HW := Lib.hid hW
  have e0 := World.new_ne W ⟨w.heap.size, 0, none⟩ c0
  have e1 := World.new_ne W ⟨w.heap.size, 1, none⟩ c1
  have e2 := World.new_ne W ⟨w.heap.size + 1, 0, none⟩ d0
  have e3 := World.new_ne W ⟨w.heap.size + 1, 1, none⟩ d1
  clear hW
  go_region_held3 (fun W' => W'.cell? ⟨w.heap.size, 0, none⟩ = some (.string SN) ∧ W'.cell? ⟨w.heap.size, 1, none⟩ = some (.string SV) ∧ W'.cell? ⟨w.heap.size + 1, 0, none⟩ = some (.string SM) ∧ W'.cell? ⟨w.heap.size + 1, 1, none⟩ = some (.string SU)) (first | (with_reducible exact ⟨c0, c1, d0, d1⟩) | go_keep) (first
    | (go_simp; go_at_call 33; (with_reducible refine (H1.out _).mono ?_); rintro e w' ⟨rfl, rfl⟩)
    | (go_simp; go_at_call 33; (with_reducible refine (H2.out _).mono ?_); rintro e w' ⟨rfl, rfl⟩)
    | (go_simp; go_at_call 32; (with_reducible refine (HO.out _ _ (by simp) (by simp)).mono ?_); rintro e w' ⟨rfl, rfl⟩))
  all_goals
    go_wp2
    go_ret
    exact ⟨rfl, (HG.out.alloc _).drewN 1⟩
end Go.Proofs.Ytpfkhcgeblihcaa.Qf

/-
  Pairs each once, where like ones are neighbours: the library's Compact.
-/
namespace Go.Proofs.Ytpfkhcgeblihcaa.Qh
open Go.ChangeShapes Go.WideShapes Go.ChangeAt Go.RowKit
open Bytes8 Blk8 Own8 OwnE Fa Fb Fo Pr8 Qa
set_option linter.unusedVariables false
set_option maxRecDepth 100000
set_option linter.unusedSimpArgs false

/-! ## plain -/
theorem ddS_last (acc : List PR) (p : PR) : (ddS acc p).getLast? = some p := by
  unfold ddS; split
  · assumption
  · rw [List.getLast?_append]; rfl
theorem dd_take {l : List PR} {i : Nat} (hi : i < l.length) : dd (l.take (i + 1)) = ddS (dd (l.take i)) (l.getD i nil2) := by
  rw [take_step hi]; unfold dd; rw [List.foldl_append]; rfl
theorem dd_last {l : List PR} {i : Nat} (hi : i < l.length) : (dd (l.take (i + 1))).getLast? = some (l.getD i nil2) := by
  rw [dd_take hi]; exact ddS_last _ _
theorem dd_same {l : List PR} {i : Nat} (hi : i + 1 < l.length) (h : l.getD (i + 1) nil2 = l.getD i nil2) : dd (l.take (i + 2)) = dd (l.take (i + 1)) := by
  rw [dd_take hi]; unfold ddS; rw [if_pos (by rw [dd_last (by omega), h])]
theorem dd_new {l : List PR} {i : Nat} (hi : i + 1 < l.length) (h : l.getD (i + 1) nil2 ≠ l.getD i nil2) : dd (l.take (i + 2)) = dd (l.take (i + 1)) ++ [l.getD (i + 1) nil2] := by
  rw [dd_take hi]; unfold ddS; rw [if_neg]
  rw [dd_last (by omega)]
  intro e; injection e with e; exact h e.symm
theorem dd_one (l : List PR) (h : 1 ≤ l.length) : dd (l.take 1) = l.take 1 := by
  rcases l with _ | ⟨p, l⟩
  · simp at h
  · rfl
theorem dd_len (l : List PR) (i : Nat) : (dd (l.take i)).length ≤ i := by
  induction i with
  | zero => simp [dd]
  | succ i ih =>
    by_cases hi : i < l.length
    · rw [dd_take hi]; unfold ddS; split
      · omega
      · simp; omega
    · rw [List.take_of_length_le (by omega)] at ih ⊢
      omega
theorem dd_all {l : List PR} (h : AllP l) : AllP (dd l) := fun p hp => by
  have key : ∀ (m acc : List PR), (∀ q ∈ acc, okP q) → (∀ q ∈ m, okP q) → ∀ q ∈ m.foldl ddS acc, okP q := by
    intro m
    induction m with
    | nil => intro acc ha _ q hq; exact ha q hq
    | cons x m ih =>
      intro acc ha hm q hq
      refine ih (ddS acc x) (fun y hy => ?_) (fun y hy => hm y (by simp [hy])) q hq
      unfold ddS at hy
      split at hy
      · exact ha y hy
      · rcases List.mem_append.1 hy with h1 | h1
        · exact ha y h1
        · rw [List.mem_singleton.1 h1]; exact hm x (by simp)
  exact key l [] (fun _ h => by cases h) h p hp
/-- The row half way: what is kept so far, behind it what was there. -/
def half (l : List PR) (i : Nat) : List PR := dd (l.take i) ++ l.drop (dd (l.take i)).length
theorem half_len {l : List PR} {i : Nat} (hi : i ≤ l.length) : (half l i).length = l.length := by
  have := dd_len l i
  unfold half; simp; omega
theorem half_high {l : List PR} {i j : Nat} (hi : i ≤ l.length) (hj : (dd (l.take i)).length ≤ j) : (half l i).getD j nil2 = l.getD j nil2 := by
  have := dd_len l i
  unfold half
  rw [List.getD_eq_getElem?_getD, List.getD_eq_getElem?_getD, List.getElem?_append_right hj, List.getElem?_drop]
  congr 2
  omega
theorem half_same {l : List PR} {i : Nat} (hi : i + 1 < l.length) (h : l.getD (i + 1) nil2 = l.getD i nil2) : half l (i + 2) = half l (i + 1) := by
  unfold half; rw [dd_same hi h]
theorem half_new {l : List PR} {i : Nat} (hi : i + 1 < l.length) (h : l.getD (i + 1) nil2 ≠ l.getD i nil2) : half l (i + 2) = (half l (i + 1)).set (dd (l.take (i + 1))).length (l.getD (i + 1) nil2) := by
  have hd := dd_len l (i + 1)
  unfold half
  rw [dd_new hi h, List.set_append_right _ _ (Nat.le_refl _), Nat.sub_self]
  have e : l.drop (dd (l.take (i + 1))).length = l.getD (dd (l.take (i + 1))).length nil2 :: l.drop ((dd (l.take (i + 1))).length + 1) := by
    rw [List.drop_eq_getElem_cons (by omega), List.getD_eq_getElem?_getD, List.getElem?_eq_getElem (by omega)]; rfl
  rw [e, List.set_cons_zero, List.append_assoc]
  simp
theorem half_start {l : List PR} {i : Nat} (h : dd (l.take i) = l.take i) (hi : i ≤ l.length) : half l i = l := by
  unfold half; rw [h, List.length_take, Nat.min_eq_left hi, List.take_append_drop]
theorem half_end (l : List PR) : half l l.length = dd l ++ l.drop (dd l).length := by unfold half; rw [List.take_length]

/-! ## parts of a row of pairs -/
theorem elemP : Try.prog.elem 26 = 40 := by kernel_rfl
theorem sizeofP (w : World) : (sizeOf 40).run Try.prog w = .ok 2 w := by
  obtain ⟨i, hi, hzz⟩ := Option.map_eq_some_iff.1 pairElt.info
  simp only [Prod.mk.injEq] at hzz
  simp [sizeOf, typeInfo, hi, hzz]
theorem underP : Try.prog.underlying 26 = some (.slice (Try.prog.elem 26)) := by rw [elemP]; exact Try.underlying26
theorem cutp_l (g n c k : Nat) (hk : k < n) (hc : n ≤ c) (w : World) :
    (Instr.slice 26 (.slice (some ⟨g, 0, none⟩) n c) (some (.int .i64 (k : Int))) none none).run Try.prog w = .ok (.slice (some ⟨g, k * 2, none⟩) (n - k) (c - k)) w := by
  have hne : ¬ c = k := by omega
  rw [run_slice_l w 26 (some ⟨g, 0, none⟩) n c underP .i64 (k : Int) (by omega) (by omega), elemP, sizeofP]
  simp [Result.andThen, sliced, hne, add_none]
theorem cutp_h (g n c k : Nat) (hk : k ≤ c) (w : World) :
    (Instr.slice 26 (.slice (some ⟨g, 0, none⟩) n c) none (some (.int .i64 (k : Int))) none).run Try.prog w = .ok (.slice (some ⟨g, 0, none⟩) k c) w := by
  rw [run_slice_h w 26 (some ⟨g, 0, none⟩) n c underP .i64 (k : Int) (by omega) (by omega), elemP, sizeofP]
  simp [Result.andThen, sliced, add_none]
theorem zeroP (w : World) : (zeroValue 40).run Try.prog w = .ok (.agg #[.string { data := #[] }, .string { data := #[] }]) w := Try.zeroValue40 w
theorem clearp (w : World) (ty : TypeId) (g o n c : Nat) (hn : 0 < n) (hc : ∀ j, j < n * 2 → (w.cell? ⟨g, o + j, none⟩).isSome = true) (hf : ∀ j, j < n * 2 → w.frozen? ⟨g, o + j, none⟩ = false) :
    (Builtin.clear_ #[26] ty #[.slice (some ⟨g, o, none⟩) n c]).run Try.prog w = .ok (.tuple #[]) (w.setCells g o (List.replicate (n * 2) (.string { data := #[] }))) := by
  have hzc : (Builtin.zeroCells (#[.string { data := #[] }, .string { data := #[] }] : Array Value) n).toList = List.replicate (n * 2) (.string { data := #[] }) := by
    simp [Builtin.zeroCells]
    apply List.ext_getElem
    · simp
    · intro i h1 h2
      simp only [List.getElem_map, List.getElem_range, List.getElem_replicate]
      rcases Nat.mod_two_eq_zero_or_one i with h | h <;> rw [h] <;> rfl
  have hst := run_storeCells_cells (P := Try.prog) g o (List.replicate (n * 2) (.string { data := #[] })) 0 w (by simpa using hc) (by simpa using hf) (by intro v hv'; rw [List.eq_of_mem_replicate hv']; rfl)
  simp only [Nat.add_zero] at hst
  obtain ⟨m, rfl⟩ : ∃ m, n = m + 1 := ⟨n - 1, by omega⟩
  have hz := zeroP
  simp [Builtin.clear_, run_underlying Try.underlying26, hz, Value.cells, hzc, hst]
theorem below_setCells {B : Nat} {w0 : World} {g : Nat} (hg : B ≤ g) : ∀ (vs : List Value) (o : Nat) (w : World), Below B w0 w → Below B w0 (w.setCells g o vs)
  | [], _, _, h => h
  | v :: r, o, w, h => below_setCells hg r (o + 1) _ (h.setCell (p := ⟨g, o, none⟩) hg v)
theorem size_setCells (g : Nat) : ∀ (vs : List Value) (o : Nat) (w : World), (w.setCells g o vs).heap.size = w.heap.size
  | [], _, _ => rfl
  | v :: r, o, w => by rw [World.setCells, size_setCells g r]; simp
theorem own_caps {w : World} {base n c g : Nat} {l : List PR} (h : OwnP w base (some ⟨g, 0, none⟩) n c l) : n ≤ c ∧ c ≤ maxLen ∧ base ≤ g ∧ g < w.heap.size := by
  rcases h.2.2.2.2 with ⟨he, _⟩ | ⟨g', cap, cur, he, hb, hg, hnc, hcm, _⟩
  · cases he
  · injection he with e1 e2 e3
    injection e1 with e1
    injection e1 with e1
    subst e1; subst e3
    refine ⟨hnc, hcm, hb, ?_⟩
    rcases Nat.lt_or_ge g w.heap.size with h | h
    · exact h
    · rw [Array.getElem?_eq_none h] at hg; cases hg
end Go.Proofs.Ytpfkhcgeblihcaa.Qh
