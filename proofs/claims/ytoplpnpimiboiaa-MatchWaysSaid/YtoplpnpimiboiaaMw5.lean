/-
  Texts beneath the proof, one behind the other.
-/
import Derived.BigQuiet
import Derived.Deep.Cut
import Derived.Deep.CutRange
import Derived.Test.YtoplpnpimiboiaaMw4
import Derived.Test.YtoplpnpimiboiaaMw3
import Derived.Test.YtoplpnpimiboiaaMw2

/-
  Two rows of texts, whether they are one: the document's way, and the library's.
-/
namespace Go.Proofs.Ytoplpnpimiboiaa.Qc
open Go.ChangeShapes Go.WideShapes Go.ChangeAt Go.RowKit
open Bytes8 Blk8 Own8 OwnE Fa Fo Pr8 Pv8 Qa Qb
set_option linter.unusedVariables false
set_option maxRecDepth 100000
set_option linter.unusedSimpArgs false

theorem ext_getD {α : Type} (d : α) {l m : List α} (h : l.length = m.length) (k : ∀ i, i < l.length → l.getD i d = m.getD i d) : l = m := by
  refine List.ext_getElem h fun i h1 h2 => ?_
  have := k i h1
  rwa [List.getD_eq_getElem?_getD, List.getD_eq_getElem?_getD, List.getElem?_eq_getElem h1, List.getElem?_eq_getElem h2] at this
theorem getD_ne {α : Type} (d : α) {l m : List α} {i : Nat} (h : l.getD i d ≠ m.getD i d) : l ≠ m := fun e => h (by rw [e])
theorem T_eq {l m : TX} (hl : AllB l) (hm : AllB m) : ((T l).toList == (T m).toList) = decide (l = m) := T_beq hl hm
theorem all_at {vs : List TX} (h : ∀ v ∈ vs, AllB v) (i : Nat) : AllB (vs.getD i []) := by
  by_cases hi : i < vs.length
  · exact h _ (getD_in hi)
  · rw [List.getD_eq_getElem?_getD, List.getElem?_eq_none (by omega)]; intro x hx; cases hx

set_option maxHeartbeats 2000000 in
theorem stexts_any (a b : Option Addr) (vs us : List TX) (c d : Nat) (w : World) (hP : Txts w a vs) (hQ : Txts w b us) (hA : ∀ v ∈ vs, AllB v) (hB : ∀ u ∈ us, AllB u) (h1 : vs.length ≤ maxLen) (h2 : us.length ≤ maxLen) :
    Calls Try.prog 14 #[.slice a vs.length c, .slice b us.length d] w fun e w' => e = .returned (.bool (decide (vs = us))) ∧ Below w.heap.size w w' := by
  unfold maxLen at h1 h2
  have hmx : Try.prog.follows .mixedOrders = true := by kernel_rfl
  by_cases hl : vs.length = us.length
  · have HP := Lib.hid hP
    have HQ := Lib.hid hQ
    have HT := Lib.hid fun k => T_eq (all_at hA k) (all_at hB k)
    have HE := Lib.hid (ext_getD [] hl)
    have HN := Lib.hid fun i => getD_ne (l := vs) (m := us) (i := i) ([] : TX)
    obtain ⟨n, hn⟩ : ∃ n, us.length = n := ⟨_, rfl⟩
    have hnb : n ≤ 9223372036854775807 := by omega
    have HL := Lib.hid (hl.trans hn)
    have HM := Lib.hid hn
    rw [hl, hn]
    clear hP hQ hl hA hB h1 h2 hn
    go_enter Try.func14, Try.ntmps14
    go_wp2
    go_loopw [5] (fun i wr => ∃ j : Nat, j ≤ n ∧ i = .int .i64 (j : Int) ∧ Hid (∀ k, k < j → vs.getD k [] = us.getD k []) ∧ Hid (Below w.heap.size w wr)) (fun i _ => n - (intOf i).toNat)
    case atStart => exact ⟨0, by omega, rfl, Lib.hid (fun k hk => absurd hk (by omega)), Lib.hid (Below.refl _ _)⟩
    case round =>
      obtain ⟨j, hj, rfl, hall, hB⟩ := hrel
      rcases Nat.lt_or_ge j n with hlt | hge
      · obtain ⟨b1, off1, rfl, hbl1, hc0⟩ := (HP.out.below hB.out) j (by have := HL.out; omega)
        obtain ⟨b2, off2, rfl, hbl2, hd0⟩ := (HQ.out.below hB.out) j (by have := HM.out; omega)
        have hin : (j : Int) < (n : Int) := by omega
        have ht := HT.out j
        by_cases he : vs.getD j [] = us.getD j []
        · have hall2 := Lib.hid (fun k (hk : k < j + 1) => (by
            rcases Nat.lt_or_ge k j with h | h
            · exact hall.out k h
            · obtain rfl : k = j := by omega
              exact he : vs.getD k [] = us.getD k []))
          rw [he] at hc0
          clear he hall ht
          generalize T (us.getD j []) = E1 at *
          go_wp2_with fail
          go_quiet (fail)
          go_wp2
          go_round
          case rel => exact ⟨j + 1, by omega, by go_num, hall2, Lib.hid (below_drewN hB.out _)⟩
          case measure => simp [intOf]; omega
        · rw [decide_eq_false he] at ht
          have HR := Lib.hid (HN.out j he)
          clear he hall
          generalize T (us.getD j []) = E1 at *
          generalize T (vs.getD j []) = E2 at *
          go_wp2_with fail
          go_quiet (fail)
          go_wp2
          go_ret
          exact ⟨by rw [decide_eq_false HR.out]; rfl, below_drewN hB.out _⟩
      · obtain rfl : j = n := by omega
        have HR := Lib.hid (HE.out fun i hi => hall.out i (by have := HL.out; omega))
        clear hall
        go_wp2
        go_ret
        exact ⟨by rw [decide_eq_true HR.out]; rfl, hB.out⟩
  · have HR := Lib.hid (show vs ≠ us from fun e => hl (by rw [e]))
    have hl2 : ¬ (vs.length : Int) = (us.length : Int) := by omega
    have hd : ((vs.length : Int) == (us.length : Int)) = false := by simp; omega
    clear hP hQ hA hB
    generalize vs.length = n at *
    generalize us.length = m at *
    go_enter Try.func14, Try.ntmps14
    go_wp2
    go_ret
    exact ⟨by rw [decide_eq_false HR.out]; rfl, Below.refl _ _⟩

set_option maxHeartbeats 2000000 in
theorem ltexts_any (a b : Option Addr) (vs us : List TX) (c d : Nat) (w : World) (hP : Txts w a vs) (hQ : Txts w b us) (hA : ∀ v ∈ vs, AllB v) (hB : ∀ u ∈ us, AllB u) (h1 : vs.length ≤ maxLen) (h2 : us.length ≤ maxLen) :
    Calls Try.prog 65 #[.slice a vs.length c, .slice b us.length d] w fun e w' => e = .returned (.bool (decide (vs = us))) ∧ Below w.heap.size w w' := by
  unfold maxLen at h1 h2
  have hmx : Try.prog.follows .mixedOrders = true := by kernel_rfl
  by_cases hl : vs.length = us.length
  · have HP := Lib.hid hP
    have HQ := Lib.hid hQ
    have HT := Lib.hid fun k => T_eq (all_at hA k) (all_at hB k)
    have HE := Lib.hid (ext_getD [] hl)
    have HN := Lib.hid fun i => getD_ne (l := vs) (m := us) (i := i) ([] : TX)
    obtain ⟨n, hn⟩ : ∃ n, us.length = n := ⟨_, rfl⟩
    have hnb : n ≤ 9223372036854775807 := by omega
    have HL := Lib.hid (hl.trans hn)
    have HM := Lib.hid hn
    rw [hl, hn]
    clear hP hQ hl hA hB h1 h2 hn
    go_enter Try.func65, Try.ntmps65
    go_wp2
    go_loopw [13] (fun i wr => ∃ j : Nat, j ≤ n ∧ i = .int .i64 (j : Int) ∧ Hid (∀ k, k < j → vs.getD k [] = us.getD k []) ∧ Hid (Below w.heap.size w wr)) (fun i _ => n - (intOf i).toNat)
    case atStart => exact ⟨0, by omega, rfl, Lib.hid (fun k hk => absurd hk (by omega)), Lib.hid (Below.refl _ _)⟩
    case round =>
      obtain ⟨j, hj, rfl, hall, hB⟩ := hrel
      rcases Nat.lt_or_ge j n with hlt | hge
      · obtain ⟨b1, off1, rfl, hbl1, hc0⟩ := (HP.out.below hB.out) j (by have := HL.out; omega)
        obtain ⟨b2, off2, rfl, hbl2, hd0⟩ := (HQ.out.below hB.out) j (by have := HM.out; omega)
        have hin : (j : Int) < (n : Int) := by omega
        have ht := HT.out j
        by_cases he : vs.getD j [] = us.getD j []
        · have hall2 := Lib.hid (fun k (hk : k < j + 1) => (by
            rcases Nat.lt_or_ge k j with h | h
            · exact hall.out k h
            · obtain rfl : k = j := by omega
              exact he : vs.getD k [] = us.getD k []))
          rw [he] at hc0
          clear he hall ht
          generalize T (us.getD j []) = E1 at *
          go_wp2_with fail
          go_quiet (fail)
          go_wp2
          go_round
          case rel => exact ⟨j + 1, by omega, by go_num, hall2, Lib.hid (below_drewN hB.out _)⟩
          case measure => simp [intOf]; omega
        · rw [decide_eq_false he] at ht
          have HR := Lib.hid (HN.out j he)
          clear he hall
          generalize T (us.getD j []) = E1 at *
          generalize T (vs.getD j []) = E2 at *
          go_wp2_with fail
          go_quiet (fail)
          go_wp2
          go_ret
          exact ⟨by rw [decide_eq_false HR.out]; rfl, below_drewN hB.out _⟩
      · obtain rfl : j = n := by omega
        have HR := Lib.hid (HE.out fun i hi => hall.out i (by have := HL.out; omega))
        clear hall
        go_wp2
        go_ret
        exact ⟨by rw [decide_eq_true HR.out]; rfl, hB.out⟩
  · have HR := Lib.hid (show vs ≠ us from fun e => hl (by rw [e]))
    have hd : ((vs.length : Int) == (us.length : Int)) = false := by simp; omega
    clear hP hQ hA hB
    generalize vs.length = n at *
    generalize us.length = m at *
    go_enter Try.func65, Try.ntmps65
    go_wp2
    go_ret
    exact ⟨by rw [decide_eq_false HR.out]; rfl, Below.refl _ _⟩
end Go.Proofs.Ytoplpnpimiboiaa.Qc

/-
  Rising rows of pairs, plain; pairs out of a maker of numbers.
-/
namespace Go.Proofs.Ytoplpnpimiboiaa.Pq8
open Go.ChangeShapes Go.WideShapes Go.ChangeAt Go.RowKit
open Bytes8 Blk8 Own8 OwnE Fa Fb Fc Fo In8 Rows2 Seq8 SeqP Pr8 Ps8 Pl8
set_option linter.unusedVariables false
set_option maxRecDepth 100000
set_option linter.unusedSimpArgs false

def Rises (l : List PR) : Prop := l.Pairwise fun x y => ltP x y = true
theorem ltL_ntrans (a b c : List Int) (h : ltL a b = false) (k : ltL b c = false) : ltL a c = false := by
  cases h1 : ltL a c with
  | false => rfl
  | true =>
    cases h2 : ltL b a with
    | true => rw [ltL_trans _ _ _ h2 h1] at k; cases k
    | false => rw [ltL_total _ _ h h2] at h1; rw [h1] at k; cases k
theorem sortP_le (l : List PR) : (sortP l).Pairwise fun x y => (!ltP y x) = true := by
  unfold sortP
  refine List.pairwise_mergeSort ?_ ?_ l
  · intro a b c h k
    simp only [Bool.not_eq_true'] at h k ⊢
    exact ltL_ntrans _ _ _ k h
  · intro a b
    cases h : ltP b a with
    | false => rfl
    | true => rw [show ltP a b = false from ltL_asymm _ _ h]; rfl
theorem sortP_rises {l : List PR} (hR : ∀ p ∈ l, okR p) (hn : l.Nodup) : Rises (sortP l) := by
  have h1 := sortP_le l
  have h2 : (sortP l).Nodup := (sortP_perm l).nodup_iff.2 hn
  refine (h1.and h2).imp_of_mem fun {x y} hx hy h => ?_
  cases k : ltP x y with
  | true => rfl
  | false => exact absurd (ltP_total (hR x ((sortP_mem l x).1 hx)) (hR y ((sortP_mem l y).1 hy)) k (by simpa using h.1)) h.2
theorem rises_eq : ∀ (l m : List PR), Rises l → Rises m → (∀ p, p ∈ l ↔ p ∈ m) → l = m
  | [], [], _, _, _ => rfl
  | [], b :: m, _, _, h => absurd ((h b).2 (by simp)) (by simp)
  | a :: l, [], _, _, h => absurd ((h a).1 (by simp)) (by simp)
  | a :: l, b :: m, hl, hm, h => by
    obtain ⟨l1, l2⟩ := List.pairwise_cons.1 hl
    obtain ⟨m1, m2⟩ := List.pairwise_cons.1 hm
    have hab : a = b := by
      rcases List.mem_cons.1 ((h a).1 (by simp)) with e | ha
      · exact e
      · rcases List.mem_cons.1 ((h b).2 (by simp)) with e | hb
        · exact e.symm
        · have this : ltP b a = false := ltL_asymm _ _ (l1 b hb)
          rw [m1 a ha] at this; cases this
    subst hab
    have hi : ∀ q, ltP a q = true → q ≠ a := fun q hq e => by
      rw [e, show ltP a a = false from ltL_irrefl _] at hq; cases hq
    rw [rises_eq l m l2 m2 fun p => ⟨fun hp => by
      rcases List.mem_cons.1 ((h p).1 (by simp [hp])) with e | hp'
      · exact absurd e (hi p (l1 p hp))
      · exact hp', fun hp => by
      rcases List.mem_cons.1 ((h p).2 (by simp [hp])) with e | hp'
      · exact absurd e (hi p (m1 p hp))
      · exact hp'⟩]
theorem list_fine {l : List PR} (hR : ∀ p ∈ l, okR p) (h0 : 0 < l.length) (h16 : (ded l).length ≤ 16) : listE l = 0 ∧ listL l = sortP (ded l) := by
  have he : listE l = 0 := by
    unfold listE
    rw [if_neg (fun e => by rw [e] at h0; cases h0), if_pos (codeL_zero l fun p hp => (hR p hp).2.2), if_pos h16]
  exact ⟨he, if_pos he⟩
theorem list_rises {l : List PR} (hR : ∀ p ∈ l, okR p) : Rises (sortP (ded l)) := sortP_rises (fun p hp => hR p ((ded_mem l p).1 hp)) (ded_nodup l)
theorem list_mem (l : List PR) (p : PR) : p ∈ sortP (ded l) ↔ p ∈ l := (sortP_mem _ p).trans (ded_mem l p)
theorem list_same {l m : List PR} (hl : ∀ p ∈ l, okR p) (hm : ∀ p ∈ m, okR p) (h : ∀ p, p ∈ l ↔ p ∈ m) : sortP (ded l) = sortP (ded m) :=
  rises_eq _ _ (list_rises hl) (list_rises hm) fun p => (list_mem l p).trans ((h p).trans (list_mem m p).symm)
theorem ded_len (l : List PR) : (ded l).length ≤ l.length := by
  have : ∀ (l acc : List PR), (l.foldl addU acc).length ≤ acc.length + l.length := by
    intro l
    induction l with
    | nil => intro acc; simp
    | cons p l ih =>
      intro acc
      rw [List.foldl_cons]
      have h1 := ih (addU acc p)
      have h2 : (addU acc p).length ≤ acc.length + 1 := by unfold addU; split <;> simp
      simp only [List.length_cons]; omega
  have h2 := this l []
  unfold ded
  simpa using h2
theorem nodup_len : ∀ (l m : List PR), l.Nodup → (∀ p ∈ l, p ∈ m) → l.length ≤ m.length
  | [], m, _, _ => Nat.zero_le _
  | a :: l, m, hn, h => by
    have ha := h a (by simp)
    obtain ⟨h1, h2⟩ := List.nodup_cons.1 hn
    have h3 := nodup_len l (m.erase a) h2 fun p hp => (List.mem_erase_of_ne (fun e : p = a => h1 (e ▸ hp))).2 (h p (by simp [hp]))
    rw [List.length_erase_of_mem ha] at h3
    have := List.length_pos_of_mem ha
    simp only [List.length_cons]; omega
/-- Of the same members: as many, each once. -/
theorem ded_len_same {l m : List PR} (h : ∀ p, p ∈ l → p ∈ m) : (ded l).length ≤ (ded m).length :=
  nodup_len _ _ (ded_nodup l) fun p hp => (ded_mem m p).2 (h p ((ded_mem l p).1 hp))

theorem okR_okP {p : PR} (h : okR p) : okP p := by
  obtain ⟨h1, h2⟩ := flaw_len h.2.2
  exact ⟨h.1, h.2.1, Nat.le_trans h1 (by decide), Nat.le_trans h2 (by decide)⟩
theorem OwnP.keptB {w w' : World} {base gq : Nat} {A : Option Addr} {n c : Nat} {l : List PR} (h : OwnP w base A n c l) (hk : KeptB w.heap.size gq w w') (hg : gq < base) : OwnP w' base A n c l := by
  refine ⟨h.1, h.2.1, Nat.le_trans h.2.2.1 hk.size, h.2.2.2.1, ?_⟩
  rcases h.2.2.2.2 with h1 | ⟨g, cap, cur, h1, h2, h3, h4⟩
  · exact .inl h1
  · refine .inr ⟨g, cap, cur, h1, h2, ?_, h4⟩
    have hlt : g < w.heap.size := by
      rcases Nat.lt_or_ge g w.heap.size with h | h
      · exact h
      · rw [Array.getElem?_eq_none h] at h3; cases h3
    rw [hk.block g hlt (by omega)]; exact h3

def MadeP (gq : Nat) (a : Option Addr) (len cap : Nat) (f : Nat → Int) (w : World) (e : Ending) (w' : World) : Prop :=
  ∃ (L : List PR) (A : Option Addr) (c k' : Nat), e = .returned (.slice A L.length c) ∧ OwnP w' w.heap.size A L.length c L ∧ ((∀ p ∈ L, okR p) ∧ 0 < L.length ∧ L.length ≤ 16) ∧ SeqIn w' gq a len cap f k' ∧ KeptB w.heap.size gq w w'

set_option maxHeartbeats 2000000 in
set_option maxRecDepth 100000 in
theorem pairs_any (gq : Nat) (a : Option Addr) (len cap : Nat) (f : Nat → Int) (k : Nat) (w : World) (h : SeqIn w gq a len cap f k) :
    Calls Try.prog 21 #[.pointer (some ⟨gq, 0, none⟩), .int .i64 16] w (MadeP gq a len cap f w) := by
  have hgq := h.1.lt
  have S0 := Lib.hid h
  clear h
  unfold MadeP
  go_enter Try.func21, Try.ntmps21
  go_wp2_with (go_at_call 39; (with_reducible refine (seqN_any gq a len cap f k 16 w (by decide) (by decide) S0.out).mono ?_); rintro e w1 ⟨r, k1, rfl, hr, hS, hK⟩; have S1 := Lib.hid hS; have K1 := Lib.hid hK; clear hS hK)
  go_loopw [5, 6] (fun s i wr => ∃ (j n : Nat) (A : Option Addr) (c k2 : Nat) (L : List PR), i = .int .i64 (j : Int) ∧ s = .slice A n c ∧ n + j = r + 1 ∧ n ≤ 16 ∧ j ≤ 16 ∧ Hid (OwnP wr w.heap.size A n c L) ∧ Hid (∀ p ∈ L, okR p) ∧ Hid (SeqIn wr gq a len cap f k2) ∧ Hid (KeptB w.heap.size gq w wr)) (fun _ i _ => (intOf i).toNat)
  case atStart => exact ⟨r + 1, 0, none, 0, k1, [], by go_num, rfl, by omega, by omega, by omega, Lib.hid (OwnP.nil w1 _ K1.out.size), Lib.hid (fun p hp => by cases hp), S1, K1⟩
  case round =>
    obtain ⟨j, n, A, c, k2, L, rfl, rfl, hnj, hn, hj, hO, hR, hS, hK⟩ := hrel
    cases j with
    | zero =>
      have hlen := hO.out.2.1
      go_wp2
      go_ret
      exact ⟨L, A, c, k2, by rw [hlen]; rfl, by rw [hlen]; exact hO.out, ⟨hR.out, by omega, by omega⟩, hS.out, hK.out⟩
    | succ j =>
      have e : ((j + 1 : Nat) : Int) = (j : Int) + 1 := by omega
      have hpos : (0 : Int) < (j : Int) + 1 := by omega
      rw [e]
      go_wp2_with (first
        | (go_at_call 23; (with_reducible refine (pair_any gq a len cap f k2 wr hS.out).mono ?_); rintro e w2 ⟨p1, p2, k3, rfl, hok, hS2, hK2⟩; have HOk := Lib.hid hok; have S2 := Lib.hid hS2; have O2 := Lib.hid (OwnP.keptB hO.out hK2 hgq); have K2 := Lib.hid (hK.out.trans (hK2.mono hK.out.size)); dsimp only [pv]; clear hok hS2 hK2)
        | (at_builtin; refine wpList_append_elt pairElt rfl (.tmp 15) (.tmp 18) rfl w.heap.size A n c (cellsP L) rfl (O2.out.2.2.alloc (.cells #[.string (T p1), .string (T p2)] 45)) ⟨w2.heap.size, 0, none⟩ 1 1 [.string (T p1), .string (T p2)] rfl rfl (Blk.news (Blk.new w2 [.string (T p1), .string (T p2)] 45)) (by intro u hu; simp at hu; rcases hu with rfl | rfl <;> rfl) (by omega) (by omega) ?_; intro A2 c2 w3 ho2 hbel2; have HO4 := Lib.hid ho2; have K4 := Lib.hid ((K2.out.alloc K2.out.size (.cells #[.string (T p1), .string (T p2)] 45)).trans (KeptB.of_below hbel2)); have S4 := Lib.hid ((Blk.alloc S2.out.1 (.cells #[.string (T p1), .string (T p2)] 45)).below hbel2 hgq); clear ho2 hbel2))
      go_round
      case rel =>
        refine ⟨j, n + 1, A2, c2, k3, L ++ [(p1, p2)], rfl, rfl, by omega, by omega, by omega, Lib.hid ⟨?_, ?_, ?_⟩, Lib.hid ?_, Lib.hid ⟨S4.out, ints_keptB S0.out.2.1 K4.out S0.out.2.2.1, S2.out.2.2⟩, K4⟩
        · intro q hq
          rcases List.mem_append.1 hq with h | h
          · exact hO.out.1 q h
          · simp at h; subst h; exact okR_okP HOk.out
        · rw [List.length_append, hO.out.2.1]; rfl
        · rw [cellsP_app]; exact HO4.out
        · intro q hq
          rcases List.mem_append.1 hq with h | h
          · exact hR.out q h
          · simp at h; subst h; exact HOk.out
      case measure => simp [intOf] <;> omega
end Go.Proofs.Ytoplpnpimiboiaa.Pq8

/-
  Pairs put in their place, plain; a store into a row of pairs that a call gathers.
-/
namespace Go.Proofs.Ytoplpnpimiboiaa.Pi8
open Go.ChangeShapes Go.WideShapes Go.ChangeAt Go.RowKit
open Bytes8 Blk8 Own8 OwnE Fa Fb Fc Fo In8 Pr8 Ps8 Pl8 Pq8
set_option linter.unusedVariables false
set_option maxRecDepth 100000
set_option linter.unusedSimpArgs false

/-- The row while its end is moved up: what stood at t - 1 stands at t, for t behind j. -/
def shiftL (R : List PR) (j : Nat) : List PR := (List.range (R.length + 1)).map fun t => if t ≤ j then (R ++ [nil2]).getD t nil2 else R.getD (t - 1) nil2
theorem shiftL_len (R : List PR) (j : Nat) : (shiftL R j).length = R.length + 1 := by unfold shiftL; simp
theorem shiftL_at (R : List PR) (j t : Nat) (ht : t < R.length + 1) : (shiftL R j).getD t nil2 = if t ≤ j then (R ++ [nil2]).getD t nil2 else R.getD (t - 1) nil2 := by
  unfold shiftL
  rw [List.getD_eq_getElem?_getD, List.getElem?_map, List.getElem?_range ht]
  rfl
theorem getD_ext {l m : List PR} (h : l.length = m.length) (k : ∀ t, t < l.length → l.getD t nil2 = m.getD t nil2) : l = m := by
  apply List.ext_getElem h
  intro i h1 h2
  have := k i h1
  rwa [List.getD_eq_getElem?_getD, List.getD_eq_getElem?_getD, List.getElem?_eq_getElem h1, List.getElem?_eq_getElem h2] at this
theorem getD_app_l {l m : List PR} {t : Nat} (h : t < l.length) : (l ++ m).getD t nil2 = l.getD t nil2 := by
  rw [List.getD_eq_getElem?_getD, List.getD_eq_getElem?_getD, List.getElem?_append_left h]
theorem getD_set {l : List PR} {i t : Nat} {p : PR} (hi : i < l.length) : (l.set i p).getD t nil2 = if t = i then p else l.getD t nil2 := by
  rw [List.getD_eq_getElem?_getD, List.getD_eq_getElem?_getD, List.getElem?_set]
  by_cases h : i = t
  · subst h; simp [hi]
  · rw [if_neg h, if_neg (fun e => h e.symm)]
theorem shiftL_start (R : List PR) : shiftL R R.length = R ++ [nil2] := by
  refine getD_ext (by rw [shiftL_len]; simp) fun t ht => ?_
  rw [shiftL_len] at ht
  rw [shiftL_at R _ t ht, if_pos (by omega)]
theorem shiftL_step (R : List PR) (j : Nat) (hj : j + 1 ≤ R.length) : (shiftL R (j + 1)).set (j + 1) ((shiftL R (j + 1)).getD j nil2) = shiftL R j := by
  refine getD_ext (by rw [List.length_set, shiftL_len, shiftL_len]) fun t ht => ?_
  rw [List.length_set, shiftL_len] at ht
  rw [getD_set (by rw [shiftL_len]; omega), shiftL_at R j t ht]
  by_cases h : t = j + 1
  · subst h
    rw [if_pos rfl, if_neg (by omega), shiftL_at R (j + 1) j (by omega), if_pos (by omega), getD_app_l (by omega)]
    rfl
  · rw [if_neg h, shiftL_at R (j + 1) t ht]
    by_cases h2 : t ≤ j
    · rw [if_pos (by omega), if_pos h2]
    · rw [if_neg (by omega), if_neg h2]
def insL (R : List PR) (k : Nat) (x : PR) : List PR := R.take k ++ x :: R.drop k
theorem shiftL_end (R : List PR) (k : Nat) (x : PR) (hk : k ≤ R.length) : (shiftL R k).set k x = insL R k x := by
  have hl : (insL R k x).length = R.length + 1 := by unfold insL; simp; omega
  refine getD_ext (by rw [List.length_set, shiftL_len, hl]) fun t ht => ?_
  rw [List.length_set, shiftL_len] at ht
  rw [getD_set (by rw [shiftL_len]; omega), shiftL_at R k t ht]
  unfold insL
  rw [List.getD_eq_getElem?_getD (l := R.take k ++ x :: R.drop k)]
  by_cases h : t = k
  · subst h
    rw [if_pos rfl, List.getElem?_append_right (by simp; omega)]
    simp [Nat.min_eq_left hk]
  · rw [if_neg h]
    by_cases h2 : t ≤ k
    · rw [if_pos h2, getD_app_l (by omega), List.getElem?_append_left (by simp; omega), List.getElem?_take_of_lt (by omega), List.getD_eq_getElem?_getD]
    · rw [if_neg h2, List.getElem?_append_right (by simp; omega), List.length_take, Nat.min_eq_left hk]
      obtain ⟨d, rfl⟩ : ∃ d, t = k + 1 + d := ⟨t - k - 1, by omega⟩
      rw [show k + 1 + d - k = d + 1 by omega, List.getElem?_cons_succ, List.getElem?_drop, List.getD_eq_getElem?_getD, show k + 1 + d - 1 = k + d by omega]
theorem insL_mem (R : List PR) (k : Nat) (x q : PR) : q ∈ insL R k x ↔ q ∈ R ∨ q = x := by
  unfold insL
  conv => rhs; rw [← List.take_append_drop k R]
  simp only [List.mem_append, List.mem_cons]
  constructor
  · rintro (h | h | h)
    · exact Or.inl (Or.inl h)
    · exact Or.inr h
    · exact Or.inl (Or.inr h)
  · rintro ((h | h) | h)
    · exact Or.inl h
    · exact Or.inr (Or.inr h)
    · exact Or.inr (Or.inl h)
/-- Where all ahead of k are ahead of x, and x is ahead of the one at k, x has its place at k. -/
theorem insL_rises {R : List PR} {k : Nat} {x : PR} (hR : Rises R) (hk : k ≤ R.length) (h1 : ∀ t, t < k → ltP (R.getD t nil2) x = true) (h2 : k < R.length → ltP x (R.getD k nil2) = true) : Rises (insL R k x) := by
  unfold insL Rises
  have hd := hR.sublist (List.drop_sublist k R)
  have hkd : ∀ q ∈ R.drop k, ltP x q = true := fun q hq => by
    obtain ⟨i, hi, rfl⟩ := List.mem_iff_getElem.1 hq
    rw [List.length_drop] at hi
    have hx := h2 (by omega)
    rw [List.getElem_drop]
    rcases Nat.eq_zero_or_pos i with h0 | h0
    · subst h0
      rwa [List.getD_eq_getElem?_getD, List.getElem?_eq_getElem (by omega)] at hx
    · refine ltL_trans _ _ _ hx ?_
      have := List.pairwise_iff_getElem.1 hR k (k + i) (by omega) (by omega) (by omega)
      rwa [List.getD_eq_getElem?_getD, List.getElem?_eq_getElem (show k < R.length by omega)]
  rw [List.pairwise_append]
  refine ⟨hR.sublist (List.take_sublist k R), List.pairwise_cons.2 ⟨hkd, hd⟩, fun p hp q hq => ?_⟩
  obtain ⟨i, hi, rfl⟩ := List.mem_iff_getElem.1 hp
  rw [List.length_take] at hi
  have hx := h1 i (by omega)
  rw [List.getElem_take]
  rw [List.getD_eq_getElem?_getD, List.getElem?_eq_getElem (show i < R.length by omega)] at hx
  rcases List.mem_cons.1 hq with rfl | hq
  · exact hx
  · exact ltL_trans _ _ _ hx (hkd q hq)

/-! ## the row so far -/
def rowL (l : List PR) (i : Nat) : List PR := sortP (ded (l.take i))
theorem rowL_okR {l : List PR} {i : Nat} (h : ∀ t, t < i → okR (l.getD t nil2)) (hi : i ≤ l.length) : ∀ p ∈ l.take i, okR p := fun p hp => by
  obtain ⟨t, ht, rfl⟩ := List.mem_iff_getElem.1 hp
  rw [List.length_take] at ht
  have := h t (by omega)
  rw [List.getElem_take]
  rwa [List.getD_eq_getElem?_getD, List.getElem?_eq_getElem (show t < l.length by omega)] at this
theorem rowL_there {l : List PR} {i : Nat} (hi : i < l.length) (h : ∀ t, t < i + 1 → okR (l.getD t nil2)) (hm : l.getD i nil2 ∈ rowL l i) : rowL l (i + 1) = rowL l i := by
  have h1 := rowL_okR h (by omega)
  have h2 := rowL_okR (fun t ht => h t (by omega)) (show i ≤ l.length by omega)
  refine list_same h1 h2 fun p => ?_
  rw [take_step hi]
  simp only [List.mem_append, List.mem_singleton]
  exact ⟨fun k => k.elim id fun e => by rw [e]; exact (list_mem _ _).1 hm, Or.inl⟩
theorem rowL_ins {l : List PR} {i k : Nat} (hi : i < l.length) (h : ∀ t, t < i + 1 → okR (l.getD t nil2)) (hk : k ≤ (rowL l i).length) (h1 : ∀ t, t < k → ltP ((rowL l i).getD t nil2) (l.getD i nil2) = true) (h2 : k < (rowL l i).length → ltP (l.getD i nil2) ((rowL l i).getD k nil2) = true) : insL (rowL l i) k (l.getD i nil2) = rowL l (i + 1) := by
  have o1 := rowL_okR h (by omega)
  have o2 := rowL_okR (fun t ht => h t (by omega)) (show i ≤ l.length by omega)
  refine rises_eq _ _ (insL_rises (list_rises o2) hk h1 h2) (list_rises o1) fun p => ?_
  rw [insL_mem]
  unfold rowL
  rw [list_mem, list_mem, take_step hi]
  simp
theorem rowL_zero (l : List PR) : rowL l 0 = [] := by unfold rowL ded sortP; simp
theorem rowL_len (l : List PR) (i : Nat) : (rowL l i).length ≤ i := by
  unfold rowL
  rw [sortP_len]
  exact Nat.le_trans (ded_len _) (List.length_take_le _ _)

/-! ## a store into the row -/
theorem cellsP_set : ∀ (l : List PR) (i : Nat) (p : PR), ((cellsP l).set (i * 2) (.string (T p.1))).set (i * 2 + 1) (.string (T p.2)) = cellsP (l.set i p)
  | [], _, _ => rfl
  | q :: l, 0, p => by simp [cellsP]
  | q :: l, i + 1, p => by
    have ih := cellsP_set l i p
    rw [show (i + 1) * 2 = i * 2 + 1 + 1 by omega]
    simp only [cellsP, List.set_cons_succ]
    rw [ih]
theorem OwnP.frozen {w : World} {base n c g : Nat} {l : List PR} (h : OwnP w base (some ⟨g, 0, none⟩) n c l) (i : Nat) : w.frozen? ⟨g, i, none⟩ = false := by
  obtain ⟨_, cur, hg, _⟩ := own_block h
  simp [World.frozen?, hg]
theorem OwnP.set {w : World} {base n c g : Nat} {l : List PR} (h : OwnP w base (some ⟨g, 0, none⟩) n c l) (i : Nat) (p : PR) (hp : okP p) (hi : i < n) :
    OwnP ((w.setCell ⟨g, i * 2, none⟩ (.string (T p.1))).setCell ⟨g, i * 2 + 1, none⟩ (.string (T p.2))) base (some ⟨g, 0, none⟩) n c (l.set i p) := by
  refine ⟨fun q hq => ?_, by rw [List.length_set]; exact h.2.1, ?_, ?_, ?_⟩
  · rcases List.mem_or_eq_of_mem_set hq with h1 | h1
    · exact h.1 q h1
    · subst h1; exact hp
  · simpa [World.setCell] using h.2.2.1
  · rw [cellsP_len, List.length_set, h.2.1]
  · rcases h.2.2.2.2 with ⟨he, h0⟩ | ⟨g', cap, cur, he, hb, hg, hnc, hcm, hsz, ht⟩
    · cases he
    · injection he with e1 e2 e3
      simp at e1
      subst e1
      refine .inr ⟨g, cap, (cur.setIfInBounds (i * 2) (.string (T p.1))).setIfInBounds (i * 2 + 1) (.string (T p.2)), ?_, hb, ?_, hnc, hcm, by simpa using hsz, ?_⟩
      · rw [← e3]
      · simp [World.setCell, Array.getElem?_modify, hg]
      · rw [← cellsP_set, ← ht]
        simp only [Array.toList_setIfInBounds, List.take_set]
theorem OwnP.cellAt {w : World} {base n c g : Nat} {l : List PR} (h : OwnP w base (some ⟨g, 0, none⟩) n c l) (i : Nat) (hi : i < n) : w.cell? ⟨g, i * 2, none⟩ = some (.string (T (l.getD i nil2).1)) ∧ w.cell? ⟨g, i * 2 + 1, none⟩ = some (.string (T (l.getD i nil2).2)) ∧ g < w.heap.size ∧ base ≤ g := by
  obtain ⟨hb, cur, hg, ht⟩ := own_block h
  obtain ⟨b, off, e, hlt, h0, h1⟩ := h.prs.2 i (by rw [h.2.1]; exact hi)
  simp at e
  obtain ⟨rfl, rfl⟩ := e
  rw [Nat.zero_add] at h0 h1
  exact ⟨h0, h1, hlt, hb⟩
end Go.Proofs.Ytoplpnpimiboiaa.Pi8

/-
  Words out of numbers.
-/
namespace Go.Proofs.Ytoplpnpimiboiaa.Qp
open Go.ChangeShapes Go.WideShapes Go.ChangeAt Go.RowKit
open Bytes8 Blk8 Own8 OwnE Fa Fb Fc Fo Pr8 Pv8 Qa Qb Qc Numb Rows2
open Seq8 (SeqIn ints_keptB)
open Ps8 (okR)
set_option linter.unusedVariables false
set_option maxRecDepth 100000
set_option linter.unusedSimpArgs false

/-! ## plain -/
/-- Words that begin a match: no plus ahead, or behind another one; the others may be split. -/
def okW (v : TX) : Prop := v ≠ [43] ∧ splitE v = 0 ∧ (AllB v ∧ v.length ≤ 900000) ∧ splitN v ∈ Seq8.nameLs ∧ (splitV v).length ≤ 255
def PW (ws : List TX) : Prop := ∀ i, i < ws.length → (ws.getD i [] = [43] ∧ 0 < i ∧ ws.getD (i - 1) [] ≠ [43]) ∨ okW (ws.getD i [])
theorem getD_snoc_lt {ws : List TX} {x : TX} {i : Nat} (h : i < ws.length) : (ws ++ [x]).getD i [] = ws.getD i [] := by
  rw [List.getD_eq_getElem?_getD, List.getD_eq_getElem?_getD, List.getElem?_append_left h]
theorem getD_snoc_eq {ws : List TX} {x : TX} : (ws ++ [x]).getD ws.length [] = x := by
  rw [List.getD_eq_getElem?_getD, List.getElem?_append_right (Nat.le_refl _)]; simp
theorem PW.word {ws : List TX} (h : PW ws) {x : TX} (hx : okW x) : PW (ws ++ [x]) := fun i hi => by
  rcases Nat.lt_or_ge i ws.length with h1 | h1
  · rw [getD_snoc_lt h1, getD_snoc_lt (show i - 1 < ws.length by omega)]; exact h i h1
  · have e : i = ws.length := by simp at hi; omega
    subst e; rw [getD_snoc_eq]; exact .inr hx
theorem PW.plus {ws : List TX} (h : PW ws) (h0 : 0 < ws.length) (hl : ws.getD (ws.length - 1) [] ≠ [43]) : PW (ws ++ [[43]]) := fun i hi => by
  rcases Nat.lt_or_ge i ws.length with h1 | h1
  · rw [getD_snoc_lt h1, getD_snoc_lt (show i - 1 < ws.length by omega)]; exact h i h1
  · have e : i = ws.length := by simp at hi; omega
    subst e; rw [getD_snoc_eq, getD_snoc_lt (by omega)]; exact .inl ⟨rfl, h0, hl⟩
theorem PW.take {ws : List TX} (h : PW ws) (k : Nat) : PW (ws.take k) := fun i hi => by
  have hi' : i < ws.length := by simp at hi; omega
  have hk : i < k := by simp at hi; omega
  have e : ∀ j, j ≤ i → (ws.take k).getD j [] = ws.getD j [] := fun j hj => by
    rw [List.getD_eq_getElem?_getD, List.getD_eq_getElem?_getD, List.getElem?_take_of_lt (by omega)]
  rw [e i (Nat.le_refl _), e (i - 1) (by omega)]
  exact h i hi'
theorem PW.all {ws : List TX} (h : PW ws) : ∀ v ∈ ws, AllB v ∧ v.length ≤ 900000 := fun v hv => by
  obtain ⟨i, hi, rfl⟩ := List.mem_iff_getElem.1 hv
  have := h i hi
  rw [show ws.getD i [] = ws[i] by simp [List.getElem?_eq_getElem hi]] at this
  rcases this with ⟨e, _⟩ | e
  · rw [e]; exact ⟨(fun x hx => by simp at hx; subst hx; decide), by simp⟩
  · exact e.2.2.1
/-- Whole: no plus at the end. -/
def FW (ws : List TX) : Prop := PW ws ∧ (0 < ws.length → ws.getD (ws.length - 1) [] ≠ [43])
theorem okW_pay {n v : List Int} (hn : AllB n) (hv : AllB v) (h : flawI n v = 0) (h2 : n ∈ Seq8.nameLs) (h3 : v.length ≤ 255) : okW (pay n v) := by
  have hs := split_pay h
  have hl : 1 ≤ n.length ∧ n.length ≤ 64 ∧ v.length ≤ 256 := by
    unfold flawI at h
    by_cases h1 : nmB n = true
    · rw [if_pos h1] at h
      have := nmB_len h1
      by_cases h2 : 256 < v.length
      · rw [if_pos h2] at h; cases h
      · omega
    · rw [if_neg h1] at h; cases h
  refine ⟨fun e => ?_, hs.1, ⟨pay_all hn hv, by rw [pay_len]; omega⟩, by rw [hs.2.1]; exact h2, by rw [hs.2.2]; exact h3⟩
  have := congrArg List.length e
  rw [pay_len] at this
  simp at this
  omega
/-- Such words are a match. -/
theorem comp_from : ∀ (m : Nat) (ws : List TX) (k : Nat) (M : List RW) (row : List PR), ws.length - k = m → PW ws → (0 < ws.length → ws.getD (ws.length - 1) [] ≠ [43]) → k ≤ ws.length → (0 < k → ws.getD (k - 1) [] ≠ [43] → row ≠ []) → (comp (ws.drop k) M row).1 = 0
  | 0, ws, k, M, row, hm, _, _, hk, _ => by rw [List.drop_eq_nil_of_le (by omega)]; rfl
  | m + 1, ws, k, M, row, hm, hP, hL, hk, hrow => by
    have hlt : k < ws.length := by omega
    have hd : ws.drop k = ws.getD k [] :: ws.drop (k + 1) := by
      rw [List.drop_eq_getElem_cons hlt, List.getD_eq_getElem?_getD, List.getElem?_eq_getElem hlt]; rfl
    rw [hd, comp]
    rcases hP k hlt with ⟨e, h0, h1⟩ | h
    · rw [if_pos e, if_neg]
      · refine comp_from m ws (k + 1) _ _ (by omega) hP hL hlt (fun _ h2 => ?_)
        rw [Nat.add_sub_cancel] at h2
        exact absurd e h2
      · rintro (h2 | h2)
        · exact hrow h0 h1 h2
        · have h3 := List.drop_eq_nil_iff.1 h2
          have h4 := hL (by omega)
          rw [show ws.length - 1 = k by omega] at h4
          exact h4 e
    · rw [if_neg h.1, if_pos h.2.1]
      exact comp_from m ws (k + 1) _ _ (by omega) hP hL hlt (fun _ _ => by simp)
theorem comp_fine {ws : List TX} (h : FW ws) (hl : ws.length ≤ 32) : (compM ws).1 = 0 := by
  unfold compM
  rw [if_neg (by omega)]
  exact comp_from _ ws 0 [] [] rfl h.1 h.2 (Nat.zero_le _) (fun h => absurd h (by omega))

/-! ## the maker -/
theorem more_any (gq : Nat) (a : Option Addr) (len cap : Nat) (f : Nat → Int) (k : Nat) (w : World) (h : SeqIn w gq a len cap f k) :
    Calls Try.prog 38 #[.pointer (some ⟨gq, 0, none⟩)] w fun e w' => e = .returned (.bool (decide (k < len))) ∧ Below w.heap.size w w' := by
  have hmx : Try.prog.follows .mixedOrders = true := by kernel_rfl
  have c0 := h.1.cell (i := 0) rfl
  have c1 := h.1.cell (i := 1) rfl
  have hd : decide ((k : Int) < (len : Int)) = decide (k < len) := by simp
  clear h
  go_enter Try.func38, Try.ntmps38
  go_wp2_with fail
  go_quiet (fail)
  go_wp2_with fail
  go_ret
  exact ⟨by rw [← hd]; rfl, below_drewN (Below.refl _ _) _⟩
end Go.Proofs.Ytoplpnpimiboiaa.Qp

/-
  Words out of numbers, walked.
-/
namespace Go.Proofs.Ytoplpnpimiboiaa.Qq
open Go.ChangeShapes Go.WideShapes Go.ChangeAt Go.RowKit
open Bytes8 Blk8 Own8 OwnE Fa Fb Fc Fo Pr8 Pv8 Qa Qb Qc Qp Numb Rows2
open Qt (pairN_any PairedN values_few)
open Seq8 (SeqIn ints_keptB KeptB)
open Ps8 (okR)
set_option linter.unusedVariables false
set_option maxRecDepth 100000
set_option linter.unusedSimpArgs false

set_option maxRecDepth 100000 in
theorem seqN_det (gq : Nat) (a : Option Addr) (len cap : Nat) (f : Nat → Int) (k : Nat) (b : Int) (w : World) (hb : 1 ≤ b) (hb2 : b ≤ 1000000) (h : SeqIn w gq a len cap f k) :
    ∃ (r k' : Nat), (r : Int) < b ∧ Calls Try.prog 39 #[.pointer (some ⟨gq, 0, none⟩), .int .i64 b] w fun e w' => e = .returned (.int .i64 (r : Int)) ∧ SeqIn w' gq a len cap f k' ∧ KeptB w.heap.size gq w w' := by
  obtain ⟨hB, hI, hne, hk, hl⟩ := h
  have HB := Lib.hid hB
  have c0 := HB.out.cell (i := 0) rfl
  have c1 := HB.out.cell (i := 1) rfl
  have f1 := HB.out.frozen 1
  by_cases hlt : k < len
  · obtain ⟨bb, off, rfl, hbl, hc, hwf⟩ := hI k hlt
    have hbq := hne (by omega) bb off rfl
    obtain ⟨r, hr, hrb⟩ := below_nat (f k) b hb
    have HNum := Lib.hid fun w => number_nat (f k) b r w hb (by omega) hr.out
    have hkk : ¬ (len : Int) ≤ (k : Int) := by omega
    have hset : ∀ v, (w.setCell ⟨gq, 1, none⟩ v).cell? ⟨bb, off + k, none⟩ = some (.int .i64 (f k)) := fun v => by
      rw [← hc]; exact World.cell?_of_block (Below.heap_setCell _ _ _ _ hbq)
    have HI := Lib.hid hI
    have HNe := Lib.hid hne
    have hm : Try.prog.follows .mixedOrders = true := by kernel_rfl
    clear hI hne hB hr hwf
    generalize f k = x at *
    refine ⟨r, k + 1, hrb, ?_⟩
    go_enter Try.func39, Try.ntmps39
    go_wp2_with fail
    go_quiet (fail)
    obtain ⟨nq_1, hnq⟩ : ∃ x, x = nq := ⟨_, rfl⟩
    rw [← hnq]
    clear hnq nq
    go_wp2_with fail
    go_quiet ((go_at_call 56; exact quiet_kept (HNum.out _)))
    have HK := Lib.hid ((((KeptB.refl w.heap.size gq w).drewN nq_1).setCell (Or.inr rfl) (.int .i64 ((k : Int) + 1)) (p := ⟨gq, 1, none⟩)).drewN nq)
    go_wp2
    go_ret
    refine ⟨rfl, ⟨?_, ints_keptB HI.out HK.out HNe.out, HNe.out, by omega, hl⟩, HK.out⟩
    exact ((HB.out.drewN _).set_ 1 _).drewN _
  · have hkk : (len : Int) ≤ (k : Int) := by omega
    have HI := Lib.hid hI
    have HNe := Lib.hid hne
    clear hI hne hB
    refine ⟨0, k, by omega, ?_⟩
    go_enter Try.func39, Try.ntmps39
    go_wp2_with fail
    go_quiet (fail)
    go_wp2
    go_ret
    refine ⟨rfl, ⟨HB.out.drewN _, HI.out, HNe.out, hk, hl⟩, (KeptB.refl _ _ _).drewN _⟩


theorem flaw_len {n v : List Int} (h : flawI n v = 0) : n.length + v.length ≤ 900000 := by
  unfold flawI at h
  by_cases h1 : nmB n = true
  · rw [if_pos h1] at h
    have := nmB_len h1
    by_cases h2 : 256 < v.length
    · rw [if_pos h2] at h; cases h
    · omega
  · rw [if_neg h1] at h; cases h
theorem T_plus' (x : TX) (hx : AllB x) : ((T x).toList == [43]) = decide (x = [43]) := by
  rw [show ([43] : List UInt8) = (T [43]).toList by rw [T_toList]; rfl]
  exact T_beq hx (fun y hy => by simp at hy; subst hy; decide)
theorem ownT_keptB {w w' : World} {base gq : Nat} {A : Option Addr} {n c : Nat} {l : List TX} (h : OwnT w base A n c l) (hk : KeptB w.heap.size gq w w') (hg : gq < base) : OwnT w' base A n c l := by
  refine ⟨h.1, Nat.le_trans h.2.1 hk.size, h.2.2.1, ?_⟩
  rcases h.2.2.2 with h1 | ⟨g, cap, cur, h1, h2, h3, h4⟩
  · exact .inl h1
  · refine .inr ⟨g, cap, cur, h1, h2, ?_, h4⟩
    have hlt : g < w.heap.size := by
      rcases Nat.lt_or_ge g w.heap.size with h | h
      · exact h
      · rw [Array.getElem?_eq_none h] at h3; cases h3
    rw [hk.block g hlt (by omega)]; exact h3
theorem ownT_snoc {w : World} {base n c : Nat} {A : Option Addr} {l : List TX} {x : TX} (hl : l.length = n) (h : OwnE 9 1 w base A (n + 1) c (cellsT l ++ [.string (T x)])) : OwnT w base A (n + 1) c (l ++ [x]) := by
  refine ⟨by simp [hl], ?_⟩
  rw [show cellsT (l ++ [x]) = cellsT l ++ [.string (T x)] by simp [cellsT]]
  exact h
theorem elemT : Try.prog.elem 22 = 9 := by kernel_rfl
theorem sizeofT (w : World) : (sizeOf 9).run Try.prog w = .ok 1 w := by
  obtain ⟨i, hi, hzz⟩ := Option.map_eq_some_iff.1 tElt.info
  simp only [Prod.mk.injEq] at hzz
  simp [sizeOf, typeInfo, hi, hzz]
theorem underT : Try.prog.underlying 22 = some (.slice (Try.prog.elem 22)) := by rw [elemT]; exact Try.underlying22
theorem cutt_h (g n c k : Nat) (hk : k ≤ c) (hc : c ≤ 9223372036854775807) (w : World) :
    (Instr.slice 22 (.slice (some ⟨g, 0, none⟩) n c) none (some (.int .i64 (k : Int))) none).run Try.prog w = .ok (.slice (some ⟨g, 0, none⟩) k c) w := by
  rw [run_slice_h w 22 (some ⟨g, 0, none⟩) n c underT .i64 (k : Int) (by omega) (by omega), elemT, sizeofT]
  simp [Result.andThen, sliced, add_none]
theorem ownT_caps {w : World} {base n c g : Nat} {l : List TX} (h : OwnT w base (some ⟨g, 0, none⟩) n c l) : n ≤ c ∧ c ≤ 9223372036854775807 := by
  rcases h.2.2.2 with ⟨he, _⟩ | ⟨g', cap, cur, he, hb, hg, hnc, hcm, _⟩
  · cases he
  · injection he with e1 e2 e3
    subst e3
    unfold maxLen at hcm
    omega
theorem ownT_base {w : World} {base base2 n c : Nat} {A : Option Addr} {l : List TX} (h : OwnT w base A n c l) (hb : base2 ≤ base) : OwnT w base2 A n c l := by
  refine ⟨h.1, Nat.le_trans hb h.2.1, h.2.2.1, ?_⟩
  rcases h.2.2.2 with h1 | ⟨g, cap, cur, h1, h2, h3⟩
  · exact .inl h1
  · exact .inr ⟨g, cap, cur, h1, Nat.le_trans hb h2, h3⟩
theorem ownT_take {w : World} {base n c g q : Nat} {l : List TX} (h : OwnT w base (some ⟨g, 0, none⟩) n c l) (hq : q ≤ n) : OwnT w base (some ⟨g, 0, none⟩) q c (l.take q) := by
  have hl := h.1
  refine ⟨by simp; omega, h.2.1, by simp [cellsT]; omega, ?_⟩
  rcases h.2.2.2 with ⟨he, _⟩ | ⟨g', cap, cur, he, hb, hg, hnc, hcm, hsz, ht⟩
  · cases he
  · injection he with e1 e2 e3
    subst e3
    refine .inr ⟨g', c, cur, by rw [e1], hb, hg, by omega, hcm, hsz, ?_⟩
    rw [Nat.mul_one] at ht ⊢
    have : cellsT (l.take q) = (cellsT l).take q := by simp [cellsT, List.map_take]
    rw [this, ← ht, List.take_take, Nat.min_eq_left hq]
theorem fw_cut {ws : List TX} {q : Nat} (h : PW ws) (hq : q < ws.length) (hl : ws.getD q [] = [43]) : FW (ws.take q) := by
  refine ⟨h.take q, fun h0 => ?_⟩
  have hlen : (ws.take q).length = q := by simp; omega
  rw [hlen] at h0 ⊢
  rcases h q hq with ⟨_, h1, h2⟩ | h1
  · rw [List.getD_eq_getElem?_getD, List.getElem?_take_of_lt (by omega), ← List.getD_eq_getElem?_getD]; exact h2
  · exact absurd hl h1.1
/-- What the maker of words tells. -/
def Worded (most : Nat) (w : World) (e : Ending) (w' : World) : Prop := ∃ (ws : List TX) (A : Option Addr) (c : Nat), e = .returned (.slice A ws.length c) ∧ OwnT w' w.heap.size A ws.length c ws ∧ FW ws ∧ ws.length ≤ most ∧ Below w.heap.size w w'
set_option maxHeartbeats 8000000 in
theorem words_any (a : Option Addr) (len cap : Nat) (f : Nat → Int) (most : Nat) (w : World) (hI : InInts .i64 w a len f) (hlen : len ≤ 9223372036854775807) (hm : most ≤ 100) :
    Calls Try.prog 20 #[.slice a len cap, .int .i64 (most : Int)] w (Worded most w) := by
  have b1 := (Below.refl w.heap.size w).alloc (Nat.le_refl _) (.cells #[.slice a len cap, .int .i64 0] 41)
  have S1 : Hid (SeqIn (w.alloc (.cells #[.slice a len cap, .int .i64 0] 41)) w.heap.size a len cap f 0) := Lib.hid ⟨Blk.new w [.slice a len cap, .int .i64 0] 41, hI.below b1, fun h0 b off e => by
    obtain ⟨b', off', e', hlt, _⟩ := hI 0 h0
    rw [e] at e'
    injection e' with e'
    injection e' with e' _
    omega, Nat.zero_le _, hlen⟩
  have B1 := Lib.hid b1
  have HI := Lib.hid hI
  have hz1 : (w.alloc (.cells #[.slice a len cap, .int .i64 0] 41)).heap.size = w.heap.size + 1 := by simp
  have HZ1 := Lib.hid (Nat.le_of_eq hz1.symm)
  clear hI b1 hz1
  go_enter Try.func20, Try.ntmps20
  go_upto_region 2 with fail
  generalize w.alloc (.cells #[.slice a len cap, .int .i64 0] 41) = w1 at *
  go_wp2_with fail
  go_loopw [6] (fun z wr => ∃ (kq n c : Nat) (A : Option Addr) (ws : List TX), z = .slice A n c ∧ n ≤ most ∧ Hid (PW ws) ∧ Hid (OwnT wr (w.heap.size + 1) A n c ws) ∧ Hid (SeqIn wr w.heap.size a len cap f kq) ∧ Hid (Below w.heap.size w wr)) (fun z _ => most - (match z with | .slice _ n _ => n | _ => 0))
  case atStart => exact ⟨0, 0, 0, none, [], rfl, Nat.zero_le _, Lib.hid (fun i hi => absurd hi (by simp)), Lib.hid ⟨rfl, OwnE.nil w1 _ HZ1.out⟩, S1, B1⟩
  case round =>
    clear S1 B1 HZ1
    obtain ⟨kq, n, c, A, ws, rfl, hn, hP, hO, hS, hB⟩ := hrel
    have HM := Lib.hid (more_any w.heap.size a len cap f kq wr hS.out)
    by_cases hmore : kq < len ∧ n < most
    · have hd1 : decide (kq < len) = true := by simp; omega
      have hd2 : (n : Int) < (most : Int) := by omega
      rw [hd1] at HM
      have HD := Lib.hid fun (W : World) (h : SeqIn W w.heap.size a len cap f kq) => seqN_det w.heap.size a len cap f kq 4 W (by decide) (by decide) h
      clear hmore hd1
      go_upto_region 4 with (go_at_call 38; (with_reducible refine HM.out.mono ?_); rintro e w2 ⟨rfl, hb2⟩; have B2 := Lib.hid hb2; clear hb2)
      have S2 := Lib.hid (hS.out.below B2.out)
      have O2 : Hid (OwnT w2 (w.heap.size + 1) A n c ws) := Lib.hid ⟨hO.out.1, hO.out.2.kept B2.out (Nat.le_refl _)⟩
      have BB2 := Lib.hid (hB.out.trans (B2.out.mono hB.out.size))
      have B2x := Lib.hid hB.out.size
      obtain ⟨r, k2, hr, hcall⟩ := HD.out w2 S2.out
      have HN := Lib.hid hcall
      clear hcall HD HM hS hO hB B2
      have hd0 := B2x.out
      have hpl := Lib.hid (fun (h0 : 0 < n) (hl : ws.getD (n - 1) [] ≠ [43]) => PW.plus hP.out (by rw [O2.out.1]; exact h0) (by rw [O2.out.1]; exact hl))
      have hwd := Lib.hid fun (x : TX) (hx : okW x) => PW.word hP.out hx
      go_cut [35] from 11 to 45 (fun z wx => ∃ k3 : Nat, z = .bool (decide (r = 0 ∧ 0 < n ∧ ws.getD (n - 1) [] ≠ [43])) ∧ Hid (OwnT wx (w.heap.size + 1) A n c ws) ∧ Hid (SeqIn wx w.heap.size a len cap f k3) ∧ Hid (Below w.heap.size w wx))
      case first =>
        by_cases hr0 : r = 0
        · by_cases hn0 : n = 0
          · have HCB := Lib.hid (show decide (r = 0 ∧ 0 < n ∧ ws.getD (n - 1) [] ≠ [43]) = false from decide_eq_false (by omega))
            subst hr0
            subst hn0
            go_wp2_with (go_at_call 39; (with_reducible refine HN.out.mono ?_); rintro e w3 ⟨rfl, hS3, hK3⟩; have S3 := Lib.hid hS3; have O3 := Lib.hid (ownT_keptB O2.out hK3 (Nat.lt_succ_self _)); have BB3 := Lib.hid (BB2.out.trans ((hK3.mono BB2.out.size).below (Nat.le_refl _))); clear hS3 hK3)
            go_meet
            case rel => exact ⟨k2, by rw [HCB.out], O3, S3, BB3⟩
          · obtain ⟨q, hq⟩ : ∃ q, n = q + 1 := ⟨n - 1, by omega⟩
            obtain ⟨g, hA, _⟩ := O2.out.2.cell (i := 0) (by unfold cellsT; rw [List.length_map, O2.out.1]; omega)
            subst hA
            have hm1 : (n : Int) - 1 = (q : Int) := by omega
            have hq1 : (q : Int) < (n : Int) := by omega
            have hn1 : decide (0 < (n : Int)) = true := by simp; omega
            have HCe := Lib.hid fun w3 (h : OwnT w3 (w.heap.size + 1) (some ⟨g, 0, none⟩) n c ws) => show w3.cell? ⟨g, q, none⟩ = some (.string (T (ws.getD q []))) from by
              obtain ⟨b, off, e, _, hc⟩ := h.txts q (by rw [h.1]; omega)
              injection e with e; injection e with e1 e2; subst e1; subst e2
              rw [Nat.zero_add] at hc
              exact hc
            have hxA := (hP.out.all (ws.getD q []) (getD_in (by rw [O2.out.1]; omega))).1
            have hx := T_plus' (ws.getD q []) hxA
            by_cases hl : ws.getD q [] = [43]
            · rw [decide_eq_true hl] at hx
              have HCB := Lib.hid (show decide (r = 0 ∧ 0 < n ∧ ws.getD (n - 1) [] ≠ [43]) = false from decide_eq_false (by rw [show n - 1 = q by omega]; exact fun h => h.2.2 hl))
              subst hr0
              clear hl hq hn0
              generalize T (ws.getD q []) = S at *
              go_wp2_with (go_at_call 39; (with_reducible refine HN.out.mono ?_); rintro e w3 ⟨rfl, hS3, hK3⟩; have S3 := Lib.hid hS3; have O3 := Lib.hid (ownT_keptB O2.out hK3 (Nat.lt_succ_self _)); have BB3 := Lib.hid (BB2.out.trans ((hK3.mono BB2.out.size).below (Nat.le_refl _))); clear hS3 hK3; have l0 := HCe.out _ O3.out)
              go_meet
              case rel => exact ⟨k2, by rw [HCB.out], O3, S3, BB3⟩
            · rw [decide_eq_false hl] at hx
              have HCB := Lib.hid (show decide (r = 0 ∧ 0 < n ∧ ws.getD (n - 1) [] ≠ [43]) = true from decide_eq_true ⟨hr0, by omega, by rw [show n - 1 = q by omega]; exact hl⟩)
              subst hr0
              clear hl hq hn0
              generalize T (ws.getD q []) = S at *
              go_wp2_with (go_at_call 39; (with_reducible refine HN.out.mono ?_); rintro e w3 ⟨rfl, hS3, hK3⟩; have S3 := Lib.hid hS3; have O3 := Lib.hid (ownT_keptB O2.out hK3 (Nat.lt_succ_self _)); have BB3 := Lib.hid (BB2.out.trans ((hK3.mono BB2.out.size).below (Nat.le_refl _))); clear hS3 hK3; have l0 := HCe.out _ O3.out)
              go_meet
              case rel => exact ⟨k2, by rw [HCB.out], O3, S3, BB3⟩
        · have HCB := Lib.hid (show decide (r = 0 ∧ 0 < n ∧ ws.getD (n - 1) [] ≠ [43]) = false from decide_eq_false fun h => hr0 h.1)
          have hz : ((r : Int) == 0) = false := by simp; omega
          go_wp2_with (go_at_call 39; (with_reducible refine HN.out.mono ?_); rintro e w3 ⟨rfl, hS3, hK3⟩; have S3 := Lib.hid hS3; have O3 := Lib.hid (ownT_keptB O2.out hK3 (Nat.lt_succ_self _)); have BB3 := Lib.hid (BB2.out.trans ((hK3.mono BB2.out.size).below (Nat.le_refl _))); clear hS3 hK3)
          go_meet
          case rel => exact ⟨k2, by rw [HCB.out], O3, S3, BB3⟩
      case rest =>
        obtain ⟨k3, rfl, hO, hS, hB⟩ := hcut
        clear HN S2 O2 BB2 B2x hd0
        have hbs := hB.out.size
        by_cases hc : r = 0 ∧ 0 < n ∧ ws.getD (n - 1) [] ≠ [43]
        · rw [decide_eq_true hc]
          have HP := Lib.hid (hpl.out hc.2.1 hc.2.2)
          clear hc
          go_wp2_with (at_builtin; refine wpList_append_elt tElt rfl (.tmp 36) (.tmp 37) rfl (w.heap.size + 1) A n c (cellsT ws) rfl (hO.out.2.alloc (.cells #[.string { data := #[43] }] 9)) ⟨wc.heap.size, 0, none⟩ 1 1 [.string { data := #[43] }] rfl rfl (Blk.news (Blk.new wc [.string { data := #[43] }] 9)) (by intro u hu; simp at hu; subst hu; rfl) (by omega) (by omega) ?_; intro A2 c2 w5 ho5 hb5; have HO5 := Lib.hid (ownT_snoc (x := [43]) hO.out.1 (show OwnE 9 1 w5 (w.heap.size + 1) A2 (n + 1) c2 (cellsT ws ++ [.string (T [43])]) from by rw [show T [43] = ({ data := #[43] } : ByteArray) by decide]; exact ho5)); have HB5 := Lib.hid (hB.out.trans (((Below.refl wc.heap.size wc).alloc (Nat.le_refl _) (.cells #[.string { data := #[43] }] 9)).mono hbs)); have HB6 := Lib.hid hb5; clear ho5 hb5)
          have BB5 := Lib.hid (HB5.out.trans (HB6.out.mono (Nat.le_succ _)))
          have S5 : Hid (SeqIn w5 w.heap.size a len cap f k3) := Lib.hid ⟨(hS.out.1.alloc _).below HB6.out (Nat.lt_succ_self _), HI.out.below BB5.out, hS.out.2.2⟩
          go_round
          case rel => exact ⟨k3, n + 1, c2, A2, ws ++ [[43]], rfl, by omega, HP, HO5, S5, BB5⟩
          case measure => simp; omega
        · rw [decide_eq_false hc]
          clear hc hpl
          go_wp2_with (first
            | (go_at_call 23; (with_reducible refine (pairN_any w.heap.size a len cap f k3 wc hS.out).mono ?_); rintro e w4 ⟨nm, vl, k5, rfl, hok, hnv, hS4, hK4⟩; have NV4 := Lib.hid hnv; have OK4 := Lib.hid hok; have S4 := Lib.hid hS4; have O4 := Lib.hid ((ownT_keptB hO.out hK4 (Nat.lt_succ_self _)).alloc (.cells #[.string (T nm), .string (T vl)] 45)); have BB4 := Lib.hid ((hB.out.trans ((hK4.mono hbs).below (Nat.le_refl _))).alloc (Nat.le_trans hbs hK4.size) (.cells #[.string (T nm), .string (T vl)] 45)); have K4 := Lib.hid (hS4.1.alloc (.cells #[.string (T nm), .string (T vl)] 45)); have HPy := Lib.hid fun W => rpayload_grew nm vl (flaw_len hok.2.2) W; have hw4 := BB4.out.size; have hk4 := K4.out.lt; clear hok hnv hS4 hK4)
            | (go_at_call 22; (with_reducible refine (HPy.out _).mono ?_); rintro e w5 ⟨rfl, hG⟩; have G5 := Lib.hid hG.below; have O5 := Lib.hid (show OwnT w5 (w.heap.size + 1) A n c ws from ⟨O4.out.1, O4.out.2.kept hG.below (Nat.le_refl _)⟩); clear hG)
            | (at_builtin; refine wpList_append_elt tElt rfl (.tmp 41) (.tmp 44) rfl (w.heap.size + 1) A n c (cellsT ws) rfl (O5.out.2.alloc (.cells #[.string (T (pay nm vl))] 9)) ⟨w5.heap.size, 0, none⟩ 1 1 [.string (T (pay nm vl))] rfl rfl (Blk.news (Blk.new w5 [.string (T (pay nm vl))] 9)) (by intro u hu; simp at hu; subst hu; rfl) (by omega) (by omega) ?_; intro A2 c2 w6 ho6 hb6; have HO6 := Lib.hid (ownT_snoc (x := pay nm vl) O5.out.1 ho6); have HB6 := Lib.hid hb6; clear ho6 hb6))
          have BB5 := Lib.hid ((BB4.out.trans (G5.out.mono hw4)).alloc (Nat.le_trans hw4 G5.out.size) (.cells #[.string (T (pay nm vl))] 9))
          have BB6 := Lib.hid (BB5.out.trans (HB6.out.mono (Nat.le_succ _)))
          have S6 : Hid (SeqIn w6 w.heap.size a len cap f k5) := Lib.hid ⟨((K4.out.below G5.out hk4).alloc _).below HB6.out (Nat.lt_succ_self _), HI.out.below BB6.out, S4.out.2.2⟩
          have HP6 := Lib.hid (hwd.out _ (okW_pay OK4.out.1 OK4.out.2.1 OK4.out.2.2 NV4.out.1 (values_few _ NV4.out.2)))
          go_round
          case rel => exact ⟨k5, n + 1, c2, A2, ws ++ [pay nm vl], rfl, by omega, HP6, HO6, S6, BB6⟩
          case measure => simp; omega
    · by_cases hk : kq < len
      · have hd1 : decide (kq < len) = true := by simp; omega
        have hd2 : ¬ (n : Int) < (most : Int) := by omega
        rw [hd1] at HM
        clear hmore hd1 hk
        by_cases hn0 : n = 0
        · have HF := Lib.hid (show FW ws from ⟨hP.out, fun h => absurd h (by rw [hO.out.1]; omega)⟩)
          subst hn0
          go_wp2_with (go_at_call 38; (with_reducible refine HM.out.mono ?_); rintro e w2 ⟨rfl, hb2⟩; have O2 : Hid (OwnT w2 (w.heap.size + 1) A 0 c ws) := Lib.hid ⟨hO.out.1, hO.out.2.kept hb2 (Nat.le_refl _)⟩; have BB2 := Lib.hid (hB.out.trans (hb2.mono hB.out.size)); clear hb2)
          go_ret
          exact ⟨ws, A, c, by rw [O2.out.1]; rfl, by rw [O2.out.1]; exact ownT_base O2.out (Nat.le_succ _), HF.out, by rw [O2.out.1]; omega, BB2.out⟩
        · obtain ⟨q, hq⟩ : ∃ q, n = q + 1 := ⟨n - 1, by omega⟩
          obtain ⟨g, hA, _⟩ := hO.out.2.cell (i := 0) (by unfold cellsT; rw [List.length_map, hO.out.1]; omega)
          subst hA
          obtain ⟨hcap, hcap2⟩ := ownT_caps hO.out
          have hm1 : (n : Int) - 1 = (q : Int) := by omega
          have hq1 : (q : Int) < (n : Int) := by omega
          have hn1 : decide (0 < (n : Int)) = true := by simp; omega
          have hcut := cutt_h g n c q (by omega) hcap2
          have HCe := Lib.hid fun w3 (h : OwnT w3 (w.heap.size + 1) (some ⟨g, 0, none⟩) n c ws) => show w3.cell? ⟨g, q, none⟩ = some (.string (T (ws.getD q []))) from by
            obtain ⟨b, off, e, _, hc⟩ := h.txts q (by rw [h.1]; omega)
            injection e with e; injection e with e1 e2; subst e1; subst e2
            rw [Nat.zero_add] at hc
            exact hc
          have hxA := (hP.out.all (ws.getD q []) (getD_in (by rw [hO.out.1]; omega))).1
          have hx := T_plus' (ws.getD q []) hxA
          by_cases hl : ws.getD q [] = [43]
          · rw [decide_eq_true hl] at hx
            have HF := Lib.hid (fw_cut hP.out (q := q) (by rw [hO.out.1]; omega) hl)
            have HQ := Lib.hid hq
            clear hl hq hn0
            generalize T (ws.getD q []) = S at *
            go_upto_region 8 with (go_at_call 38; (with_reducible refine HM.out.mono ?_); rintro e w2 ⟨rfl, hb2⟩; have O2 : Hid (OwnT w2 (w.heap.size + 1) (some ⟨g, 0, none⟩) n c ws) := Lib.hid ⟨hO.out.1, hO.out.2.kept hb2 (Nat.le_refl _)⟩; have BB2 := Lib.hid (hB.out.trans (hb2.mono hB.out.size)); clear hb2)
            have l0 := HCe.out _ O2.out
            go_wp2_with fail
            go_ret
            have hqn : q ≤ n := by have := HQ.out; omega
            have ho := ownT_take O2.out hqn
            have hl : (ws.take q).length = q := ho.1
            exact ⟨ws.take q, some ⟨g, 0, none⟩, c, by rw [hl]; rfl, by rw [hl]; exact ownT_base ho (Nat.le_succ _), HF.out, by rw [hl]; omega, BB2.out⟩
          · rw [decide_eq_false hl] at hx
            have HF := Lib.hid (show FW ws from ⟨hP.out, fun _ => by rw [hO.out.1, show n - 1 = q by omega]; exact hl⟩)
            clear hl hq hn0
            generalize T (ws.getD q []) = S at *
            go_upto_region 8 with (go_at_call 38; (with_reducible refine HM.out.mono ?_); rintro e w2 ⟨rfl, hb2⟩; have O2 : Hid (OwnT w2 (w.heap.size + 1) (some ⟨g, 0, none⟩) n c ws) := Lib.hid ⟨hO.out.1, hO.out.2.kept hb2 (Nat.le_refl _)⟩; have BB2 := Lib.hid (hB.out.trans (hb2.mono hB.out.size)); clear hb2)
            have l0 := HCe.out _ O2.out
            go_wp2_with fail
            go_ret
            exact ⟨ws, some ⟨g, 0, none⟩, c, by rw [O2.out.1]; rfl, by rw [O2.out.1]; exact ownT_base O2.out (Nat.le_succ _), HF.out, by rw [O2.out.1]; omega, BB2.out⟩
      · have hd1 : decide (kq < len) = false := by simp; omega
        rw [hd1] at HM
        clear hmore hd1 hk
        by_cases hn0 : n = 0
        · have HF := Lib.hid (show FW ws from ⟨hP.out, fun h => absurd h (by rw [hO.out.1]; omega)⟩)
          subst hn0
          go_wp2_with (go_at_call 38; (with_reducible refine HM.out.mono ?_); rintro e w2 ⟨rfl, hb2⟩; have O2 : Hid (OwnT w2 (w.heap.size + 1) A 0 c ws) := Lib.hid ⟨hO.out.1, hO.out.2.kept hb2 (Nat.le_refl _)⟩; have BB2 := Lib.hid (hB.out.trans (hb2.mono hB.out.size)); clear hb2)
          go_ret
          exact ⟨ws, A, c, by rw [O2.out.1]; rfl, by rw [O2.out.1]; exact ownT_base O2.out (Nat.le_succ _), HF.out, by rw [O2.out.1]; omega, BB2.out⟩
        · obtain ⟨q, hq⟩ : ∃ q, n = q + 1 := ⟨n - 1, by omega⟩
          obtain ⟨g, hA, _⟩ := hO.out.2.cell (i := 0) (by unfold cellsT; rw [List.length_map, hO.out.1]; omega)
          subst hA
          obtain ⟨hcap, hcap2⟩ := ownT_caps hO.out
          have hm1 : (n : Int) - 1 = (q : Int) := by omega
          have hq1 : (q : Int) < (n : Int) := by omega
          have hn1 : decide (0 < (n : Int)) = true := by simp; omega
          have hcut := cutt_h g n c q (by omega) hcap2
          have HCe := Lib.hid fun w3 (h : OwnT w3 (w.heap.size + 1) (some ⟨g, 0, none⟩) n c ws) => show w3.cell? ⟨g, q, none⟩ = some (.string (T (ws.getD q []))) from by
            obtain ⟨b, off, e, _, hc⟩ := h.txts q (by rw [h.1]; omega)
            injection e with e; injection e with e1 e2; subst e1; subst e2
            rw [Nat.zero_add] at hc
            exact hc
          have hxA := (hP.out.all (ws.getD q []) (getD_in (by rw [hO.out.1]; omega))).1
          have hx := T_plus' (ws.getD q []) hxA
          by_cases hl : ws.getD q [] = [43]
          · rw [decide_eq_true hl] at hx
            have HF := Lib.hid (fw_cut hP.out (q := q) (by rw [hO.out.1]; omega) hl)
            have HQ := Lib.hid hq
            clear hl hq hn0
            generalize T (ws.getD q []) = S at *
            go_upto_region 8 with (go_at_call 38; (with_reducible refine HM.out.mono ?_); rintro e w2 ⟨rfl, hb2⟩; have O2 : Hid (OwnT w2 (w.heap.size + 1) (some ⟨g, 0, none⟩) n c ws) := Lib.hid ⟨hO.out.1, hO.out.2.kept hb2 (Nat.le_refl _)⟩; have BB2 := Lib.hid (hB.out.trans (hb2.mono hB.out.size)); clear hb2)
            have l0 := HCe.out _ O2.out
            go_wp2_with fail
            go_ret
            have hqn : q ≤ n := by have := HQ.out; omega
            have ho := ownT_take O2.out hqn
            have hl : (ws.take q).length = q := ho.1
            exact ⟨ws.take q, some ⟨g, 0, none⟩, c, by rw [hl]; rfl, by rw [hl]; exact ownT_base ho (Nat.le_succ _), HF.out, by rw [hl]; omega, BB2.out⟩
          · rw [decide_eq_false hl] at hx
            have HF := Lib.hid (show FW ws from ⟨hP.out, fun _ => by rw [hO.out.1, show n - 1 = q by omega]; exact hl⟩)
            clear hl hq hn0
            generalize T (ws.getD q []) = S at *
            go_upto_region 8 with (go_at_call 38; (with_reducible refine HM.out.mono ?_); rintro e w2 ⟨rfl, hb2⟩; have O2 : Hid (OwnT w2 (w.heap.size + 1) (some ⟨g, 0, none⟩) n c ws) := Lib.hid ⟨hO.out.1, hO.out.2.kept hb2 (Nat.le_refl _)⟩; have BB2 := Lib.hid (hB.out.trans (hb2.mono hB.out.size)); clear hb2)
            have l0 := HCe.out _ O2.out
            go_wp2_with fail
            go_ret
            exact ⟨ws, some ⟨g, 0, none⟩, c, by rw [O2.out.1]; rfl, by rw [O2.out.1]; exact ownT_base O2.out (Nat.le_succ _), HF.out, by rw [O2.out.1]; omega, BB2.out⟩
end Go.Proofs.Ytoplpnpimiboiaa.Qq
