/-
  What within and Same answer: a set of pairs as a map.
-/
import Derived.Test.YtmimfojlcihhaaaPb
import Derived.Maps.OwnSet
import Derived.DeepKeys4
namespace Go.Proofs.Ytmimfojlcihhaaa.Pm8
open Go.ChangeShapes Go.WideShapes Go.ChangeAt Go.RowKit Go.Maps
open Bytes8 Blk8 Own8 OwnE Fa Fb Fc Fo In8 Pr8 Pa8 Pb8
set_option linter.unusedVariables false
set_option linter.unusedSimpArgs false

theorem laidOut : laidOutB Try.prog = true := by kernel_rfl
theorem rowPair : (24 : TypeId) < Try.prog.types.size := of_decide_eq_true (by kernel_rfl)
theorem widePair : (match Try.prog.underlying 24 with | some (.array _ _) | some (.struct _) => true | _ => false) = true := by rw [Try.underlying24]
theorem law : Keyed Try.prog 24 := Keyed.of_law (deep_law_laid laidOut (m := 2) (by omega) rowPair (by kernel_rfl) widePair)
def klP (p : PR) : Lit := .string (keyBytes [.string (T p.1).data.toList, .string (T p.2).data.toList])
theorem keyPair : Try.prog.keyType 24 = true := by kernel_rfl
theorem cellsPair : Try.prog.cellsOf 24 = 2 := by kernel_rfl
theorem cellsText : Try.prog.cellsOf 9 = 1 := by kernel_rfl
theorem typesTwo : ∃ n, Try.prog.types.size + 1 = n + 2 := by
  have h : (0 : Nat) < Try.prog.types.size := Nat.lt_of_le_of_lt (Nat.zero_le _) rowPair
  exact ⟨Try.prog.types.size - 1, by omega⟩
theorem hkey {p : PR} (hp : okP p) : keyOf Try.prog 24 (.agg #[.string (T p.1), .string (T p.2)]) = some (klP p) := by
  have h1 : (T p.1).size ≤ maxLen := by rw [T_size]; exact hp.2.2.1
  have h2 : (T p.2).size ≤ maxLen := by rw [T_size]; exact hp.2.2.2
  have hf : (Value.agg #[.string (T p.1), .string (T p.2)]).formed Try.prog 24 = true := by simp [Value.formed, Try.underlying24, cellsPair]
  obtain ⟨n, hn⟩ := typesTwo
  unfold keyOf klP
  rw [Try.underlying24]
  simp only [keyPair, hf, Bool.and_self, if_true, hn]
  simp [Program.keyLits, Try.underlying24, Try.underlying9, cellsPair, cellsText, Value.cells, h1, h2]
theorem klP_inj {p q : PR} (hp : okP p) (hq : okP q) (h : klP p = klP q) : p = q := by
  have e := law.inj (hkey hp) (by rw [h]; exact hkey hq)
  injection e with e
  simp only [Array.mk.injEq, List.cons.injEq, Value.string.injEq, and_true] at e
  obtain ⟨a, b⟩ := p; obtain ⟨c, d⟩ := q
  have e1 := T_inj hp.1 hq.1 e.1
  have e2 := T_inj hp.2.1 hq.2.1 e.2
  simp only at e1 e2
  rw [e1, e2]
theorem isKeyP (p : PR) : WideAt.IsKeyLit (klP p) := by unfold klP; trivial
abbrev unitD : DataW Unit := .agg []
/-- The map of these pairs. -/
def mapD (l : List PR) : DataW Unit := l.foldl (fun D p => D.put (klP p) unitD) (.map [])
theorem mapD_step {l : List PR} {k : Nat} (hk : k < l.length) : mapD (l.take (k + 1)) = (mapD (l.take k)).put (klP (l.getD k nil2)) unitD := by
  rw [take_step hk]; unfold mapD; rw [List.foldl_append]; rfl
theorem foldl_isMap (l : List PR) : ∀ D : DataW Unit, IsMap D → IsMap (l.foldl (fun D p => D.put (klP p) unitD) D) := by
  induction l with
  | nil => exact fun _ h => h
  | cons p l ih => exact fun D h => ih _ (h.put _ _)
theorem foldl_has {p : PR} (hp : okP p) (l : List PR) (hl : AllP l) : ∀ D : DataW Unit, IsMap D → has (l.foldl (fun D p => D.put (klP p) unitD) D) (klP p) = (has D (klP p) || decide (p ∈ l)) := by
  induction l with
  | nil => intro D _; simp
  | cons q l ih =>
    intro D hD
    rw [List.foldl_cons, ih (fun x hx => hl x (by simp [hx])) _ (hD.put _ _)]
    by_cases h : p = q
    · subst h
      rw [has_put_same hD (isKeyP p)]
      simp
    · have hne : klP p ≠ klP q := fun e => h (klP_inj hp (hl q (by simp)) e)
      rw [has_put_other hne]
      simp [h]
theorem mapD_has {p : PR} (hp : okP p) {l : List PR} (hl : AllP l) : has (mapD l) (klP p) = decide (p ∈ l) := by
  unfold mapD
  rw [foldl_has hp l hl _ isMap_empty]
  rfl
theorem zeroU (w : World) : (zeroValue 68).run Try.prog w = .ok (.agg #[]) w := by kernel_rfl

theorem make_hint (n : Int) (w : World) : (Instr.makeMap 67 (some (.int .i64 n))).run Try.prog w = .ok (.map (some w.heap.size)) (w.alloc (.map #[] 0)) := by
  simp [Instr.makeMap, run_underlying Try.underlying67, asInt]
  rfl

set_option maxHeartbeats 4000000 in
set_option maxRecDepth 100000 in
theorem within_any (a b : Option Addr) (l m : List PR) (n k c d : Nat) (w : World) (hP : Prs w a l) (hQ : Prs w b m) (hL : l.length = n) (hM : m.length = k) (hmax : n ≤ 100000) (hmax2 : k ≤ 100000) :
    Calls Try.prog 38 #[.slice a n c, .slice b k d] w fun e w' => e = .returned (.bool (subB l m)) ∧ Below w.heap.size w w' := by
  have hmm := fun w => make_hint (k : Int) w
  have HP := Lib.hid hP
  have HQ := Lib.hid hQ
  have HL := Lib.hid hL
  have HM := Lib.hid hM
  have HMk := Lib.hid fun j => hkey (hQ.1.at_ j)
  have HLk := Lib.hid fun j => hkey (hP.1.at_ j)
  have HHas := Lib.hid fun j => mapD_has (hP.1.at_ j) hQ.1
  clear hP hQ hL hM
  go_enter Try.func38, Try.ntmps38
  go_wp2
  go_loopw [17] (fun i wr => ∃ j : Nat, j ≤ k ∧ i = .int .i64 (j : Int) ∧ Hid (wr.ownsMap Try.prog 24 unitElem w.heap.size j (mapD (m.take j))) ∧ Hid (Below w.heap.size w wr)) (fun i _ => k - (intOf i).toNat)
  case atStart => exact ⟨0, by omega, rfl, Lib.hid (World.ownsMap_made _ _ _ _), Lib.hid ((Below.refl _ _).alloc (Nat.le_refl _) _)⟩
  case round =>
    obtain ⟨j, hj, rfl, hown, hB⟩ := hrel
    rcases Nat.lt_or_ge j k with hlt | hge
    · obtain ⟨b1, off1, rfl, hbl1, hc0, hc1⟩ := (HQ.out.below hB.out).2 j (by have := HM.out; omega)
      have hin : (j : Int) < (k : Int) := by omega
      have HS := Lib.hid (mapD_step (l := m) (k := j) (by have := HM.out; omega))
      have HK := Lib.hid (HMk.out j)
      generalize T (m.getD j nil2).1 = E1 at *
      generalize T (m.getD j nil2).2 = E2 at *
      go_wp2_with (at_mapUpdate; refine wpList_mapUpdate_own _ rfl _ _ _ 67 rfl 24 68 law Try.underlying67 unitElem w.heap.size j (mapD (m.take j)) rfl (hown.out.alloc (.cells #[.string E1, .string E2] 24)) (by unfold maxLen; omega) _ _ (klP (m.getD j nil2)) rfl rfl HK.out unitD [] unitElem_mk ?_; intro w2 ho2 hg2; have HO2 := Lib.hid ho2; have HB2 := Lib.hid ((hB.out.alloc hB.out.size (.cells #[.string E1, .string E2] 24)).grown hg2 (by have := hB.out.size; simp; omega) (fun q hq => by cases hq; exact Nat.le_refl _)); clear ho2 hg2)
      go_round
      case rel => exact ⟨j + 1, by omega, by go_num, by rw [HS.out]; exact HO2, HB2⟩
      case measure => simp [intOf]; omega
    · obtain rfl : j = k := by omega
      have ht : m.take j = m := List.take_of_length_le (by have := HM.out; omega)
      rw [ht] at hown
      clear ht HMk
      go_wp2
      go_loopw [27] (fun i wr => ∃ x : Nat, x ≤ n ∧ i = .int .i64 (x : Int) ∧ Hid (∀ y, y < x → l.getD y nil2 ∈ m) ∧ Hid (wr.ownsMap Try.prog 24 unitElem w.heap.size j (mapD m)) ∧ Hid (Below w.heap.size w wr)) (fun i _ => n - (intOf i).toNat)
      case atStart => exact ⟨0, by omega, rfl, Lib.hid fun y hy => absurd hy (by omega), hown, hB⟩
      case round =>
        obtain ⟨x, hx, rfl, hall, hown2, hB2⟩ := hrel
        rcases Nat.lt_or_ge x n with hlt2 | hge2
        · obtain ⟨b2, off2, rfl, hbl2, hd0, hd1⟩ := (HP.out.below hB2.out).2 x (by have := HL.out; omega)
          have hin2 : (x : Int) < (n : Int) := by omega
          have HK := Lib.hid (HLk.out x)
          have hH := HHas.out x
          generalize T (l.getD x nil2).1 = E1 at *
          generalize T (l.getD x nil2).2 = E2 at *
          by_cases hm : l.getD x nil2 ∈ m
          · rw [decide_eq_true hm] at hH
            have HH := Lib.hid hH
            have hall2 := Lib.hid (fun y (hy : y < x + 1) => (by
              rcases Nat.lt_or_ge y x with h1 | h1
              · exact hall.out y h1
              · obtain rfl : y = x := by omega
                exact hm : l.getD y nil2 ∈ m))
            clear hm hH hall
            go_wp2_with (at_lookup; refine wpList_lookup_own_unit _ rfl _ _ 67 rfl 24 68 law Try.underlying67 (zeroU _) w.heap.size j (mapD m) rfl (hown2.out.alloc (.cells #[.string E1, .string E2] 24)) _ (klP (l.getD x nil2)) rfl HK.out ?_; rw [HH.out])
            go_round
            case rel => exact ⟨x + 1, by omega, by go_num, hall2, Lib.hid ((hown2.out.alloc _).alloc _), Lib.hid ((hB2.out.alloc hB2.out.size _).alloc (by have := hB2.out.size; simp; omega) _)⟩
            case measure => simp [intOf]; omega
          · rw [decide_eq_false hm] at hH
            have HH := Lib.hid hH
            have HN := Lib.hid (subB_no (m := m) (by have := HL.out; omega) hm)
            clear hm hH hall
            go_wp2_with (at_lookup; refine wpList_lookup_own_unit _ rfl _ _ 67 rfl 24 68 law Try.underlying67 (zeroU _) w.heap.size j (mapD m) rfl (hown2.out.alloc (.cells #[.string E1, .string E2] 24)) _ (klP (l.getD x nil2)) rfl HK.out ?_; rw [HH.out])
            go_ret
            exact ⟨ret_bool HN.out.symm, (hB2.out.alloc hB2.out.size _).alloc (by have := hB2.out.size; simp; omega) _⟩
        · obtain rfl : x = n := by omega
          have HN := Lib.hid (subB_yes (m := m) fun i hi => hall.out i (by have := HL.out; omega))
          clear hall
          go_wp2
          go_ret
          exact ⟨ret_bool HN.out.symm, hB2.out⟩

theorem same_pairs (a b : Option Addr) (l m : List PR) (n k c d : Nat) (w : World) (hP : Prs w a l) (hQ : Prs w b m) (hL : l.length = n) (hM : m.length = k) (hmax : n ≤ 100000) (hmax2 : k ≤ 100000) :
    Calls Try.prog 26 #[.slice a n c, .slice b k d] w fun e w' => e = .returned (.bool (subB l m && subB m l)) ∧ Below w.heap.size w w' := by
  have HP := Lib.hid hP
  have HQ := Lib.hid hQ
  have H1 := Lib.hid fun w (h1 : Prs w a l) (h2 : Prs w b m) => within_any a b l m n k c d w h1 h2 hL hM hmax hmax2
  have H2 := Lib.hid fun w (h1 : Prs w a l) (h2 : Prs w b m) => within_any b a m l k n d c w h2 h1 hM hL hmax2 hmax
  clear hP hQ hL hM
  cases h1 : subB l m with
  | false =>
    rw [h1] at H1
    clear h1
    go_enter Try.func26, Try.ntmps26
    go_wp2_with (go_at_call 38; (with_reducible refine (H1.out _ HP.out HQ.out).mono ?_); rintro e w2 ⟨rfl, hb⟩; have B2 := Lib.hid hb; clear hb)
    go_ret
    exact ⟨rfl, B2.out⟩
  | true =>
    rw [h1] at H1
    clear h1
    generalize subB m l = z at *
    go_enter Try.func26, Try.ntmps26
    go_wp2_with (first
      | (go_at_call 38; (with_reducible refine (H1.out _ HP.out HQ.out).mono ?_); rintro e w2 ⟨rfl, hb⟩; have B2 := Lib.hid hb; clear hb)
      | (go_at_call 38; (with_reducible refine (H2.out _ (HP.out.below B2.out) (HQ.out.below B2.out)).mono ?_); rintro e w3 ⟨rfl, hb⟩; have B3 := Lib.hid (B2.out.trans (hb.mono B2.out.size)); clear hb))
    go_ret
    exact ⟨rfl, B3.out⟩
end Go.Proofs.Ytmimfojlcihhaaa.Pm8
