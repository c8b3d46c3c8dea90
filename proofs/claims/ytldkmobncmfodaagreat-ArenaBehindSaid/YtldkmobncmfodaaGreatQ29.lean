/-
  Texts beneath the proof, one behind the other.
-/
import Derived.Test.YtldkmobncmfodaaGreatQ28
import Derived.Test.YtldkmobncmfodaaGreatQ21

/-
  Pairs that may be, sorted: what the library's sort makes of them (its contract: the shelf's).
-/
namespace Go.Proofs.YtldkmobncmfodaaGreat.Ps8
open Go.ChangeShapes Go.WideShapes Go.ChangeAt Go.RowKit Go.Lib
open Bytes8 Blk8 Own8 OwnE Fa Fb Fc Fo In8 Pr8
set_option linter.unusedVariables false
set_option maxRecDepth 100000
set_option linter.unusedSimpArgs false

/-- Of pairs that may be: unlike ones have unlike payloads. -/
theorem pay_inj {n v m u : List Int} (h : flawI n v = 0) (k : flawI m u = 0) (e : pay n v = pay m u) : n = m ∧ v = u := by
  obtain ⟨_, h1, h2⟩ := split_pay h
  obtain ⟨_, k1, k2⟩ := split_pay k
  rw [e] at h1 h2
  exact ⟨h1.symm.trans k1, h2.symm.trans k2⟩
def okR (p : PR) : Prop := AllB p.1 ∧ AllB p.2 ∧ flawI p.1 p.2 = 0
def ltP (p q : PR) : Bool := lessP p.1 p.2 q.1 q.2
theorem ltP_total {p q : PR} (hp : okR p) (hq : okR q) (h : ltP p q = false) (k : ltP q p = false) : p = q := by
  obtain ⟨e1, e2⟩ := pay_inj hp.2.2 hq.2.2 (ltL_total _ _ h k)
  exact Prod.ext e1 e2
/-- The row sorted. -/
def sortP (l : List PR) : List PR := l.mergeSort fun x y => !ltP y x
theorem sortP_perm (l : List PR) : (sortP l).Perm l := List.mergeSort_perm _ _
theorem sortP_mem (l : List PR) (p : PR) : p ∈ sortP l ↔ p ∈ l := (sortP_perm l).mem_iff
theorem sortP_len (l : List PR) : (sortP l).length = l.length := (sortP_perm l).length_eq
theorem own_block {w : World} {base n c g : Nat} {l : List PR} (h : OwnP w base (some ⟨g, 0, none⟩) n c l) :
    base ≤ g ∧ ∃ cur : Array Value, w.heap[g]? = some (.cells cur 220 (0, 0)) ∧ cur.toList.take (n * 2) = cellsP l := by
  rcases h.2.2.2.2 with ⟨he, _⟩ | ⟨g', cap, cur, he, hb, hg, _, _, _, ht⟩
  · cases he
  · injection he with e1 e2 e3
    simp at e1
    subst e1
    exact ⟨hb, cur, hg, ht⟩
end Go.Proofs.YtldkmobncmfodaaGreat.Ps8

/-
  Loops that only read pairs: Index, Contains, SamePairs, the document's Within.
-/
namespace Go.Proofs.YtldkmobncmfodaaGreat.Pa8
open Go.ChangeShapes Go.WideShapes Go.ChangeAt Go.RowKit
open Bytes8 Blk8 Own8 OwnE Fa Fb Fc Fo In8 Pr8
set_option linter.unusedVariables false
set_option maxRecDepth 100000
set_option linter.unusedSimpArgs false

/-! ## SamePairs -/
set_option maxRecDepth 100000 in
theorem spairs_any (a b : Option Addr) (l m : List PR) (n k c d : Nat) (w : World) (hP : Prs w a l) (hQ : Prs w b m) (hL : l.length = n) (hM : m.length = k) (hmax : n ≤ 1000000) (hmax2 : k ≤ 1000000) :
    Calls Tryz.prog 76 #[.slice a n c, .slice b k d] w fun e w' => e = .returned (.bool (decide (l = m))) ∧ Below w.heap.size w w' := by
  by_cases hnk : n = k
  · subst hnk
    have HP := Lib.hid hP
    have HQ := Lib.hid hQ
    have HL := Lib.hid hL
    have HM := Lib.hid hM
    have HE := Lib.hid fun j => neq_pr (hP.1.at_ j) (hQ.1.at_ j)
    have hmx : Tryz.prog.follows .mixedOrders = true := by kernel_rfl
    clear hP hQ hL hM
    go_enter Tryz.func76, Tryz.ntmps76
    go_wp2
    go_loopw [5] (fun i wr => ∃ j : Nat, j ≤ n ∧ i = .int .i64 (j : Int) ∧ Hid (∀ x, x < j → l.getD x nil2 = m.getD x nil2) ∧ Hid (Below w.heap.size w wr)) (fun i _ => n - (intOf i).toNat)
    case atStart => exact ⟨0, by omega, rfl, Lib.hid fun j hj => absurd hj (by omega), Lib.hid (Below.refl _ _)⟩
    case round =>
      obtain ⟨j, hj, rfl, hall, hB⟩ := hrel
      rcases Nat.lt_or_ge j n with hlt | hge
      · obtain ⟨b1, off1, rfl, hbl1, hc0, hc1⟩ := (HP.out.below hB.out).2 j (by have := HL.out; omega)
        obtain ⟨b2, off2, rfl, hbl2, hd0, hd1⟩ := (HQ.out.below hB.out).2 j (by have := HM.out; omega)
        have hin : (j : Int) < (n : Int) := by omega
        have hq := HE.out j
        generalize T (l.getD j nil2).1 = E1 at *
        generalize T (l.getD j nil2).2 = E2 at *
        generalize T (m.getD j nil2).1 = F1 at *
        generalize T (m.getD j nil2).2 = F2 at *
        by_cases he : l.getD j nil2 = m.getD j nil2
        · rw [decide_eq_true he] at hq
          have hall2 := Lib.hid (fun x (hx : x < j + 1) => (by
            rcases Nat.lt_or_ge x j with h1 | h1
            · exact hall.out x h1
            · obtain rfl : x = j := by omega
              exact he : l.getD x nil2 = m.getD x nil2))
          clear he hall
          go_wp2_with fail
          go_quiet (fail)
          go_wp2
          go_round
          case rel => exact ⟨j + 1, by omega, by go_num, hall2, Lib.hid (below_drewN hB.out _)⟩
          case measure => simp [intOf]; omega
        · rw [decide_eq_false he] at hq
          have hne : l ≠ m := fun e => he (by rw [e])
          have HN := Lib.hid hne
          clear he hall hne
          go_wp2_with fail
          go_quiet (fail)
          go_wp2
          go_ret
          exact ⟨ret_bool (by simp [HN.out]), below_drewN hB.out _⟩
      · obtain rfl : j = n := by omega
        have hlm : l = m := by
          apply List.ext_getElem (by rw [HL.out, HM.out])
          intro i h1 h2
          have := hall.out i (by have := HL.out; omega)
          rwa [List.getD_eq_getElem?_getD, List.getD_eq_getElem?_getD, List.getElem?_eq_getElem h1, List.getElem?_eq_getElem h2] at this
        have HN := Lib.hid hlm
        clear hlm hall
        go_wp2
        go_ret
        exact ⟨ret_bool (by simp [HN.out]), hB.out⟩
  · have hne : l ≠ m := fun e => hnk (by rw [← hL, ← hM, e])
    have hnk2 : ((n : Int) != (k : Int)) = true := by simp; omega
    have HN := Lib.hid hne
    clear hne hnk hP hQ
    go_enter Tryz.func76, Tryz.ntmps76
    go_wp2
    go_ret
    exact ⟨ret_bool (by simp [HN.out]), Below.refl _ _⟩

end Go.Proofs.YtldkmobncmfodaaGreat.Pa8

/-
  What List answers.
-/
namespace Go.Proofs.YtldkmobncmfodaaGreat.Pl8
open Go.ChangeShapes Go.WideShapes Go.ChangeAt Go.RowKit
open Bytes8 Blk8 Own8 OwnE Fa Fb Fc Fo In8 Pr8 Ps8
set_option linter.unusedVariables false
set_option maxRecDepth 100000
set_option linter.unusedSimpArgs false

/-- The code of the first pair that has one. -/
def codeL : List PR → Int
  | [] => 0
  | p :: r => if flawI p.1 p.2 = 0 then codeL r else flawI p.1 p.2
theorem codeL_at : ∀ (l : List PR) (k : Nat), k < l.length → (∀ j, j < k → flawI (l.getD j nil2).1 (l.getD j nil2).2 = 0) → flawI (l.getD k nil2).1 (l.getD k nil2).2 ≠ 0 → codeL l = flawI (l.getD k nil2).1 (l.getD k nil2).2
  | p :: l, 0, _, _, h => by
    unfold codeL; rw [if_neg (by simpa using h)]; rfl
  | p :: l, k + 1, hk, hj, h => by
    unfold codeL
    rw [if_pos (by simpa using hj 0 (by omega))]
    exact codeL_at l k (by simpa using hk) (fun j hjk => by simpa using hj (j + 1) (by omega)) (by simpa using h)
theorem codeL_zero : ∀ (l : List PR), (∀ p ∈ l, flawI p.1 p.2 = 0) → codeL l = 0
  | [], _ => rfl
  | p :: l, h => by unfold codeL; rw [if_pos (h p (by simp))]; exact codeL_zero l fun q hq => h q (by simp [hq])
def listE (l : List PR) : Int := if l = [] then 16 else if codeL l = 0 then (if (ded l).length ≤ 16 then 0 else 21) else codeL l
def listL (l : List PR) : List PR := if listE l = 0 then sortP (ded l) else []
def Listed (l : List PR) (w : World) (e : Ending) (w' : World) : Prop := ∃ A c, e = .returned (.tuple #[.slice A (listL l).length c, .int .i64 (listE l)]) ∧ Prs w' A (listL l) ∧ Below w.heap.size w w'
/-- .. where the row is a new one. -/
def ListedN (l : List PR) (w : World) (e : Ending) (w' : World) : Prop := ∃ A c, e = .returned (.tuple #[.slice A (listL l).length c, .int .i64 (listE l)]) ∧ Prs w' A (listL l) ∧ Below w.heap.size w w' ∧ ∀ b off, A = some ⟨b, off, none⟩ → 0 < (listL l).length → w.heap.size ≤ b
theorem ListedN.old {l : List PR} {w : World} {e : Ending} {w' : World} (h : ListedN l w e w') : Listed l w e w' := by
  obtain ⟨A, c, h1, h2, h3, _⟩ := h
  exact ⟨A, c, h1, h2, h3⟩
theorem listedN_none {l : List PR} {w w' : World} {x : Int} (h : listE l = x) (hx : x ≠ 0) (hb : Below w.heap.size w w') : ListedN l w (.returned (.tuple #[.slice none 0 0, .int .i64 x])) w' := by
  have hL : listL l = [] := if_neg (by rw [h]; exact hx)
  unfold ListedN
  rw [hL, h]
  exact ⟨none, 0, rfl, Prs.nil _ _, hb, fun b off e => by cases e⟩
theorem own_some {w : World} {base n c : Nat} {A : Option Addr} {l : List PR} (h : OwnP w base A n c l) (hn : 0 < n) : ∃ g, A = some ⟨g, 0, none⟩ := by
  rcases h.2.2.2.2 with ⟨he, h0⟩ | ⟨g', cap, cur, he, _⟩
  · omega
  · injection he with e1 e2 e3
    exact ⟨g', e1⟩

end Go.Proofs.YtldkmobncmfodaaGreat.Pl8

/-
  Rising rows of pairs, plain; pairs out of a maker of numbers.
-/
namespace Go.Proofs.YtldkmobncmfodaaGreat.Pq8
open Go.ChangeShapes Go.WideShapes Go.ChangeAt Go.RowKit
open Bytes8 Blk8 Own8 OwnE Fa Fb Fc Fo In8 Rows2 Seq8 SeqP Pr8 Ps8 Pl8
set_option linter.unusedVariables false
set_option maxRecDepth 100000
set_option linter.unusedSimpArgs false

def Rises (l : List PR) : Prop := l.Pairwise fun x y => ltP x y = true
theorem ltL_ntrans (a b c : List Int) (h : ltL a b = false) (k : ltL b c = false) : ltL a c = false := by
  cases h1 : ltL a c with
  | false => rfl
  | true =>
    cases h2 : ltL b a with
    | true => rw [ltL_trans _ _ _ h2 h1] at k; cases k
    | false => rw [ltL_total _ _ h h2] at h1; rw [h1] at k; cases k
theorem sortP_le (l : List PR) : (sortP l).Pairwise fun x y => (!ltP y x) = true := by
  unfold sortP
  refine List.pairwise_mergeSort ?_ ?_ l
  · intro a b c h k
    simp only [Bool.not_eq_true'] at h k ⊢
    exact ltL_ntrans _ _ _ k h
  · intro a b
    cases h : ltP b a with
    | false => rfl
    | true => rw [show ltP a b = false from ltL_asymm _ _ h]; rfl
theorem sortP_rises {l : List PR} (hR : ∀ p ∈ l, okR p) (hn : l.Nodup) : Rises (sortP l) := by
  have h1 := sortP_le l
  have h2 : (sortP l).Nodup := (sortP_perm l).nodup_iff.2 hn
  refine (h1.and h2).imp_of_mem fun {x y} hx hy h => ?_
  cases k : ltP x y with
  | true => rfl
  | false => exact absurd (ltP_total (hR x ((sortP_mem l x).1 hx)) (hR y ((sortP_mem l y).1 hy)) k (by simpa using h.1)) h.2
theorem rises_eq : ∀ (l m : List PR), Rises l → Rises m → (∀ p, p ∈ l ↔ p ∈ m) → l = m
  | [], [], _, _, _ => rfl
  | [], b :: m, _, _, h => absurd ((h b).2 (by simp)) (by simp)
  | a :: l, [], _, _, h => absurd ((h a).1 (by simp)) (by simp)
  | a :: l, b :: m, hl, hm, h => by
    obtain ⟨l1, l2⟩ := List.pairwise_cons.1 hl
    obtain ⟨m1, m2⟩ := List.pairwise_cons.1 hm
    have hab : a = b := by
      rcases List.mem_cons.1 ((h a).1 (by simp)) with e | ha
      · exact e
      · rcases List.mem_cons.1 ((h b).2 (by simp)) with e | hb
        · exact e.symm
        · have this : ltP b a = false := ltL_asymm _ _ (l1 b hb)
          rw [m1 a ha] at this; cases this
    subst hab
    have hi : ∀ q, ltP a q = true → q ≠ a := fun q hq e => by
      rw [e, show ltP a a = false from ltL_irrefl _] at hq; cases hq
    rw [rises_eq l m l2 m2 fun p => ⟨fun hp => by
      rcases List.mem_cons.1 ((h p).1 (by simp [hp])) with e | hp'
      · exact absurd e (hi p (l1 p hp))
      · exact hp', fun hp => by
      rcases List.mem_cons.1 ((h p).2 (by simp [hp])) with e | hp'
      · exact absurd e (hi p (m1 p hp))
      · exact hp'⟩]
theorem list_rises {l : List PR} (hR : ∀ p ∈ l, okR p) : Rises (sortP (ded l)) := sortP_rises (fun p hp => hR p ((ded_mem l p).1 hp)) (ded_nodup l)
theorem list_mem (l : List PR) (p : PR) : p ∈ sortP (ded l) ↔ p ∈ l := (sortP_mem _ p).trans (ded_mem l p)
theorem list_same {l m : List PR} (hl : ∀ p ∈ l, okR p) (hm : ∀ p ∈ m, okR p) (h : ∀ p, p ∈ l ↔ p ∈ m) : sortP (ded l) = sortP (ded m) :=
  rises_eq _ _ (list_rises hl) (list_rises hm) fun p => (list_mem l p).trans ((h p).trans (list_mem m p).symm)

theorem okR_okP {p : PR} (h : okR p) : okP p := by
  obtain ⟨h1, h2⟩ := flaw_len h.2.2
  exact ⟨h.1, h.2.1, Nat.le_trans h1 (by decide), Nat.le_trans h2 (by decide)⟩
theorem OwnP.keptB {w w' : World} {base gq : Nat} {A : Option Addr} {n c : Nat} {l : List PR} (h : OwnP w base A n c l) (hk : KeptB w.heap.size gq w w') (hg : gq < base) : OwnP w' base A n c l := by
  refine ⟨h.1, h.2.1, Nat.le_trans h.2.2.1 hk.size, h.2.2.2.1, ?_⟩
  rcases h.2.2.2.2 with h1 | ⟨g, cap, cur, h1, h2, h3, h4⟩
  · exact .inl h1
  · refine .inr ⟨g, cap, cur, h1, h2, ?_, h4⟩
    have hlt : g < w.heap.size := by
      rcases Nat.lt_or_ge g w.heap.size with h | h
      · exact h
      · rw [Array.getElem?_eq_none h] at h3; cases h3
    rw [hk.block g hlt (by omega)]; exact h3

def MadeP (gq : Nat) (a : Option Addr) (len cap : Nat) (f : Nat → Int) (w : World) (e : Ending) (w' : World) : Prop :=
  ∃ (L : List PR) (A : Option Addr) (c k' : Nat), e = .returned (.slice A L.length c) ∧ OwnP w' w.heap.size A L.length c L ∧ ((∀ p ∈ L, okR p) ∧ 0 < L.length ∧ L.length ≤ 16) ∧ SeqIn w' gq a len cap f k' ∧ KeptB w.heap.size gq w w'

end Go.Proofs.YtldkmobncmfodaaGreat.Pq8

/-
  Pairs put in their place, plain; a store into a row of pairs that a call gathers.
-/
namespace Go.Proofs.YtldkmobncmfodaaGreat.Pi8
open Go.ChangeShapes Go.WideShapes Go.ChangeAt Go.RowKit
open Bytes8 Blk8 Own8 OwnE Fa Fb Fc Fo In8 Pr8 Ps8 Pl8 Pq8
set_option linter.unusedVariables false
set_option maxRecDepth 100000
set_option linter.unusedSimpArgs false

/-- The row while its end is moved up: what stood at t - 1 stands at t, for t behind j. -/
def shiftL (R : List PR) (j : Nat) : List PR := (List.range (R.length + 1)).map fun t => if t ≤ j then (R ++ [nil2]).getD t nil2 else R.getD (t - 1) nil2
theorem shiftL_len (R : List PR) (j : Nat) : (shiftL R j).length = R.length + 1 := by unfold shiftL; simp
theorem shiftL_at (R : List PR) (j t : Nat) (ht : t < R.length + 1) : (shiftL R j).getD t nil2 = if t ≤ j then (R ++ [nil2]).getD t nil2 else R.getD (t - 1) nil2 := by
  unfold shiftL
  rw [List.getD_eq_getElem?_getD, List.getElem?_map, List.getElem?_range ht]
  rfl
theorem getD_ext {l m : List PR} (h : l.length = m.length) (k : ∀ t, t < l.length → l.getD t nil2 = m.getD t nil2) : l = m := by
  apply List.ext_getElem h
  intro i h1 h2
  have := k i h1
  rwa [List.getD_eq_getElem?_getD, List.getD_eq_getElem?_getD, List.getElem?_eq_getElem h1, List.getElem?_eq_getElem h2] at this
theorem getD_app_l {l m : List PR} {t : Nat} (h : t < l.length) : (l ++ m).getD t nil2 = l.getD t nil2 := by
  rw [List.getD_eq_getElem?_getD, List.getD_eq_getElem?_getD, List.getElem?_append_left h]
theorem getD_set {l : List PR} {i t : Nat} {p : PR} (hi : i < l.length) : (l.set i p).getD t nil2 = if t = i then p else l.getD t nil2 := by
  rw [List.getD_eq_getElem?_getD, List.getD_eq_getElem?_getD, List.getElem?_set]
  by_cases h : i = t
  · subst h; simp [hi]
  · rw [if_neg h, if_neg (fun e => h e.symm)]
theorem shiftL_start (R : List PR) : shiftL R R.length = R ++ [nil2] := by
  refine getD_ext (by rw [shiftL_len]; simp) fun t ht => ?_
  rw [shiftL_len] at ht
  rw [shiftL_at R _ t ht, if_pos (by omega)]
theorem shiftL_step (R : List PR) (j : Nat) (hj : j + 1 ≤ R.length) : (shiftL R (j + 1)).set (j + 1) ((shiftL R (j + 1)).getD j nil2) = shiftL R j := by
  refine getD_ext (by rw [List.length_set, shiftL_len, shiftL_len]) fun t ht => ?_
  rw [List.length_set, shiftL_len] at ht
  rw [getD_set (by rw [shiftL_len]; omega), shiftL_at R j t ht]
  by_cases h : t = j + 1
  · subst h
    rw [if_pos rfl, if_neg (by omega), shiftL_at R (j + 1) j (by omega), if_pos (by omega), getD_app_l (by omega)]
    rfl
  · rw [if_neg h, shiftL_at R (j + 1) t ht]
    by_cases h2 : t ≤ j
    · rw [if_pos (by omega), if_pos h2]
    · rw [if_neg (by omega), if_neg h2]
def insL (R : List PR) (k : Nat) (x : PR) : List PR := R.take k ++ x :: R.drop k
theorem shiftL_end (R : List PR) (k : Nat) (x : PR) (hk : k ≤ R.length) : (shiftL R k).set k x = insL R k x := by
  have hl : (insL R k x).length = R.length + 1 := by unfold insL; simp; omega
  refine getD_ext (by rw [List.length_set, shiftL_len, hl]) fun t ht => ?_
  rw [List.length_set, shiftL_len] at ht
  rw [getD_set (by rw [shiftL_len]; omega), shiftL_at R k t ht]
  unfold insL
  rw [List.getD_eq_getElem?_getD (l := R.take k ++ x :: R.drop k)]
  by_cases h : t = k
  · subst h
    rw [if_pos rfl, List.getElem?_append_right (by simp; omega)]
    simp [Nat.min_eq_left hk]
  · rw [if_neg h]
    by_cases h2 : t ≤ k
    · rw [if_pos h2, getD_app_l (by omega), List.getElem?_append_left (by simp; omega), List.getElem?_take_of_lt (by omega), List.getD_eq_getElem?_getD]
    · rw [if_neg h2, List.getElem?_append_right (by simp; omega), List.length_take, Nat.min_eq_left hk]
      obtain ⟨d, rfl⟩ : ∃ d, t = k + 1 + d := ⟨t - k - 1, by omega⟩
      rw [show k + 1 + d - k = d + 1 by omega, List.getElem?_cons_succ, List.getElem?_drop, List.getD_eq_getElem?_getD, show k + 1 + d - 1 = k + d by omega]
theorem insL_mem (R : List PR) (k : Nat) (x q : PR) : q ∈ insL R k x ↔ q ∈ R ∨ q = x := by
  unfold insL
  conv => rhs; rw [← List.take_append_drop k R]
  simp only [List.mem_append, List.mem_cons]
  constructor
  · rintro (h | h | h)
    · exact Or.inl (Or.inl h)
    · exact Or.inr h
    · exact Or.inl (Or.inr h)
  · rintro ((h | h) | h)
    · exact Or.inl h
    · exact Or.inr (Or.inr h)
    · exact Or.inr (Or.inl h)
/-- Where all ahead of k are ahead of x, and x is ahead of the one at k, x has its place at k. -/
theorem insL_rises {R : List PR} {k : Nat} {x : PR} (hR : Rises R) (hk : k ≤ R.length) (h1 : ∀ t, t < k → ltP (R.getD t nil2) x = true) (h2 : k < R.length → ltP x (R.getD k nil2) = true) : Rises (insL R k x) := by
  unfold insL Rises
  have hd := hR.sublist (List.drop_sublist k R)
  have hkd : ∀ q ∈ R.drop k, ltP x q = true := fun q hq => by
    obtain ⟨i, hi, rfl⟩ := List.mem_iff_getElem.1 hq
    rw [List.length_drop] at hi
    have hx := h2 (by omega)
    rw [List.getElem_drop]
    rcases Nat.eq_zero_or_pos i with h0 | h0
    · subst h0
      rwa [List.getD_eq_getElem?_getD, List.getElem?_eq_getElem (by omega)] at hx
    · refine ltL_trans _ _ _ hx ?_
      have := List.pairwise_iff_getElem.1 hR k (k + i) (by omega) (by omega) (by omega)
      rwa [List.getD_eq_getElem?_getD, List.getElem?_eq_getElem (show k < R.length by omega)]
  rw [List.pairwise_append]
  refine ⟨hR.sublist (List.take_sublist k R), List.pairwise_cons.2 ⟨hkd, hd⟩, fun p hp q hq => ?_⟩
  obtain ⟨i, hi, rfl⟩ := List.mem_iff_getElem.1 hp
  rw [List.length_take] at hi
  have hx := h1 i (by omega)
  rw [List.getElem_take]
  rw [List.getD_eq_getElem?_getD, List.getElem?_eq_getElem (show i < R.length by omega)] at hx
  rcases List.mem_cons.1 hq with rfl | hq
  · exact hx
  · exact ltL_trans _ _ _ hx (hkd q hq)

/-! ## the row so far -/
def rowL (l : List PR) (i : Nat) : List PR := sortP (ded (l.take i))
theorem rowL_okR {l : List PR} {i : Nat} (h : ∀ t, t < i → okR (l.getD t nil2)) (hi : i ≤ l.length) : ∀ p ∈ l.take i, okR p := fun p hp => by
  obtain ⟨t, ht, rfl⟩ := List.mem_iff_getElem.1 hp
  rw [List.length_take] at ht
  have := h t (by omega)
  rw [List.getElem_take]
  rwa [List.getD_eq_getElem?_getD, List.getElem?_eq_getElem (show t < l.length by omega)] at this
theorem rowL_there {l : List PR} {i : Nat} (hi : i < l.length) (h : ∀ t, t < i + 1 → okR (l.getD t nil2)) (hm : l.getD i nil2 ∈ rowL l i) : rowL l (i + 1) = rowL l i := by
  have h1 := rowL_okR h (by omega)
  have h2 := rowL_okR (fun t ht => h t (by omega)) (show i ≤ l.length by omega)
  refine list_same h1 h2 fun p => ?_
  rw [take_step hi]
  simp only [List.mem_append, List.mem_singleton]
  exact ⟨fun k => k.elim id fun e => by rw [e]; exact (list_mem _ _).1 hm, Or.inl⟩
theorem rowL_ins {l : List PR} {i k : Nat} (hi : i < l.length) (h : ∀ t, t < i + 1 → okR (l.getD t nil2)) (hk : k ≤ (rowL l i).length) (h1 : ∀ t, t < k → ltP ((rowL l i).getD t nil2) (l.getD i nil2) = true) (h2 : k < (rowL l i).length → ltP (l.getD i nil2) ((rowL l i).getD k nil2) = true) : insL (rowL l i) k (l.getD i nil2) = rowL l (i + 1) := by
  have o1 := rowL_okR h (by omega)
  have o2 := rowL_okR (fun t ht => h t (by omega)) (show i ≤ l.length by omega)
  refine rises_eq _ _ (insL_rises (list_rises o2) hk h1 h2) (list_rises o1) fun p => ?_
  rw [insL_mem]
  unfold rowL
  rw [list_mem, list_mem, take_step hi]
  simp
theorem rowL_zero (l : List PR) : rowL l 0 = [] := by unfold rowL ded sortP; simp

/-! ## a store into the row -/
theorem cellsP_set : ∀ (l : List PR) (i : Nat) (p : PR), ((cellsP l).set (i * 2) (.string (T p.1))).set (i * 2 + 1) (.string (T p.2)) = cellsP (l.set i p)
  | [], _, _ => rfl
  | q :: l, 0, p => by simp [cellsP]
  | q :: l, i + 1, p => by
    have ih := cellsP_set l i p
    rw [show (i + 1) * 2 = i * 2 + 1 + 1 by omega]
    simp only [cellsP, List.set_cons_succ]
    rw [ih]
theorem OwnP.frozen {w : World} {base n c g : Nat} {l : List PR} (h : OwnP w base (some ⟨g, 0, none⟩) n c l) (i : Nat) : w.frozen? ⟨g, i, none⟩ = false := by
  obtain ⟨_, cur, hg, _⟩ := own_block h
  simp [World.frozen?, hg]
theorem OwnP.set {w : World} {base n c g : Nat} {l : List PR} (h : OwnP w base (some ⟨g, 0, none⟩) n c l) (i : Nat) (p : PR) (hp : okP p) (hi : i < n) :
    OwnP ((w.setCell ⟨g, i * 2, none⟩ (.string (T p.1))).setCell ⟨g, i * 2 + 1, none⟩ (.string (T p.2))) base (some ⟨g, 0, none⟩) n c (l.set i p) := by
  refine ⟨fun q hq => ?_, by rw [List.length_set]; exact h.2.1, ?_, ?_, ?_⟩
  · rcases List.mem_or_eq_of_mem_set hq with h1 | h1
    · exact h.1 q h1
    · subst h1; exact hp
  · simpa [World.setCell] using h.2.2.1
  · rw [cellsP_len, List.length_set, h.2.1]
  · rcases h.2.2.2.2 with ⟨he, h0⟩ | ⟨g', cap, cur, he, hb, hg, hnc, hcm, hsz, ht⟩
    · cases he
    · injection he with e1 e2 e3
      simp at e1
      subst e1
      refine .inr ⟨g, cap, (cur.setIfInBounds (i * 2) (.string (T p.1))).setIfInBounds (i * 2 + 1) (.string (T p.2)), ?_, hb, ?_, hnc, hcm, by simpa using hsz, ?_⟩
      · rw [← e3]
      · simp [World.setCell, Array.getElem?_modify, hg]
      · rw [← cellsP_set, ← ht]
        simp only [Array.toList_setIfInBounds, List.take_set]
theorem OwnP.cellAt {w : World} {base n c g : Nat} {l : List PR} (h : OwnP w base (some ⟨g, 0, none⟩) n c l) (i : Nat) (hi : i < n) : w.cell? ⟨g, i * 2, none⟩ = some (.string (T (l.getD i nil2).1)) ∧ w.cell? ⟨g, i * 2 + 1, none⟩ = some (.string (T (l.getD i nil2).2)) ∧ g < w.heap.size ∧ base ≤ g := by
  obtain ⟨hb, cur, hg, ht⟩ := own_block h
  obtain ⟨b, off, e, hlt, h0, h1⟩ := h.prs.2 i (by rw [h.2.1]; exact hi)
  simp at e
  obtain ⟨rfl, rfl⟩ := e
  rw [Nat.zero_add] at h0 h1
  exact ⟨h0, h1, hlt, hb⟩
end Go.Proofs.YtldkmobncmfodaaGreat.Pi8
