/-
  Rising rows of pairs, plain; pairs out of a maker of numbers.
-/
import Derived.Test.YtmimfojlcihhaaaPl
namespace Go.Proofs.Ytmimfojlcihhaaa.Pq8
open Go.ChangeShapes Go.WideShapes Go.ChangeAt Go.RowKit
open Bytes8 Blk8 Own8 OwnE Fa Fb Fc Fo In8 Rows2 Seq8 SeqP Pr8 Pa8 Pu8 Ps8 Pl8
set_option linter.unusedVariables false
set_option linter.unusedSimpArgs false

def Rises (l : List PR) : Prop := l.Pairwise fun x y => ltP x y = true
theorem ltL_ntrans (a b c : List Int) (h : ltL a b = false) (k : ltL b c = false) : ltL a c = false := by
  cases h1 : ltL a c with
  | false => rfl
  | true =>
    cases h2 : ltL b a with
    | true => rw [ltL_trans _ _ _ h2 h1] at k; cases k
    | false => rw [ltL_total _ _ h h2] at h1; rw [h1] at k; cases k
theorem sortP_le (l : List PR) : (sortP l).Pairwise fun x y => (!ltP y x) = true := by
  unfold sortP
  refine List.pairwise_mergeSort ?_ ?_ l
  · intro a b c h k
    simp only [Bool.not_eq_true'] at h k ⊢
    exact ltL_ntrans _ _ _ k h
  · intro a b
    cases h : ltP b a with
    | false => rfl
    | true => rw [show ltP a b = false from ltL_asymm _ _ h]; rfl
theorem sortP_rises {l : List PR} (hR : ∀ p ∈ l, okR p) (hn : l.Nodup) : Rises (sortP l) := by
  have h1 := sortP_le l
  have h2 : (sortP l).Nodup := (sortP_perm l).nodup_iff.2 hn
  refine (h1.and h2).imp_of_mem fun {x y} hx hy h => ?_
  cases k : ltP x y with
  | true => rfl
  | false => exact absurd (ltP_total (hR x ((sortP_mem l x).1 hx)) (hR y ((sortP_mem l y).1 hy)) k (by simpa using h.1)) h.2
theorem rises_eq : ∀ (l m : List PR), Rises l → Rises m → (∀ p, p ∈ l ↔ p ∈ m) → l = m
  | [], [], _, _, _ => rfl
  | [], b :: m, _, _, h => absurd ((h b).2 (by simp)) (by simp)
  | a :: l, [], _, _, h => absurd ((h a).1 (by simp)) (by simp)
  | a :: l, b :: m, hl, hm, h => by
    obtain ⟨l1, l2⟩ := List.pairwise_cons.1 hl
    obtain ⟨m1, m2⟩ := List.pairwise_cons.1 hm
    have hab : a = b := by
      rcases List.mem_cons.1 ((h a).1 (by simp)) with e | ha
      · exact e
      · rcases List.mem_cons.1 ((h b).2 (by simp)) with e | hb
        · exact e.symm
        · have this : ltP b a = false := ltL_asymm _ _ (l1 b hb)
          rw [m1 a ha] at this; cases this
    subst hab
    have hi : ∀ q, ltP a q = true → q ≠ a := fun q hq e => by
      rw [e, show ltP a a = false from ltL_irrefl _] at hq; cases hq
    rw [rises_eq l m l2 m2 fun p => ⟨fun hp => by
      rcases List.mem_cons.1 ((h p).1 (by simp [hp])) with e | hp'
      · exact absurd e (hi p (l1 p hp))
      · exact hp', fun hp => by
      rcases List.mem_cons.1 ((h p).2 (by simp [hp])) with e | hp'
      · exact absurd e (hi p (m1 p hp))
      · exact hp'⟩]
theorem list_fine {l : List PR} (hR : ∀ p ∈ l, okR p) (h0 : 0 < l.length) (h16 : (ded l).length ≤ 16) : listE l = 0 ∧ listL l = sortP (ded l) := by
  have he : listE l = 0 := by
    unfold listE
    rw [if_neg (fun e => by rw [e] at h0; cases h0), if_pos (codeL_zero l fun p hp => (hR p hp).2.2), if_pos h16]
  exact ⟨he, if_pos he⟩
theorem list_rises {l : List PR} (hR : ∀ p ∈ l, okR p) : Rises (sortP (ded l)) := sortP_rises (fun p hp => hR p ((ded_mem l p).1 hp)) (ded_nodup l)
theorem list_mem (l : List PR) (p : PR) : p ∈ sortP (ded l) ↔ p ∈ l := (sortP_mem _ p).trans (ded_mem l p)
theorem list_same {l m : List PR} (hl : ∀ p ∈ l, okR p) (hm : ∀ p ∈ m, okR p) (h : ∀ p, p ∈ l ↔ p ∈ m) : sortP (ded l) = sortP (ded m) :=
  rises_eq _ _ (list_rises hl) (list_rises hm) fun p => (list_mem l p).trans ((h p).trans (list_mem m p).symm)
theorem ded_len (l : List PR) : (ded l).length ≤ l.length := by
  have : ∀ (l acc : List PR), (l.foldl addU acc).length ≤ acc.length + l.length := by
    intro l
    induction l with
    | nil => intro acc; simp
    | cons p l ih =>
      intro acc
      rw [List.foldl_cons]
      have h1 := ih (addU acc p)
      have h2 : (addU acc p).length ≤ acc.length + 1 := by unfold addU; split <;> simp
      simp only [List.length_cons]; omega
  have h2 := this l []
  unfold ded
  simpa using h2
theorem nodup_len : ∀ (l m : List PR), l.Nodup → (∀ p ∈ l, p ∈ m) → l.length ≤ m.length
  | [], m, _, _ => Nat.zero_le _
  | a :: l, m, hn, h => by
    have ha := h a (by simp)
    obtain ⟨h1, h2⟩ := List.nodup_cons.1 hn
    have h3 := nodup_len l (m.erase a) h2 fun p hp => (List.mem_erase_of_ne (fun e : p = a => h1 (e ▸ hp))).2 (h p (by simp [hp]))
    rw [List.length_erase_of_mem ha] at h3
    have := List.length_pos_of_mem ha
    simp only [List.length_cons]; omega
/-- Of the same members: as many, each once. -/
theorem ded_len_same {l m : List PR} (h : ∀ p, p ∈ l → p ∈ m) : (ded l).length ≤ (ded m).length :=
  nodup_len _ _ (ded_nodup l) fun p hp => (ded_mem m p).2 (h p ((ded_mem l p).1 hp))

theorem okR_okP {p : PR} (h : okR p) : okP p := by
  obtain ⟨h1, h2⟩ := flaw_len h.2.2
  exact ⟨h.1, h.2.1, Nat.le_trans h1 (by decide), Nat.le_trans h2 (by decide)⟩
theorem OwnP.keptB {w w' : World} {base gq : Nat} {A : Option Addr} {n c : Nat} {l : List PR} (h : OwnP w base A n c l) (hk : KeptB w.heap.size gq w w') (hg : gq < base) : OwnP w' base A n c l := by
  refine ⟨h.1, h.2.1, Nat.le_trans h.2.2.1 hk.size, h.2.2.2.1, ?_⟩
  rcases h.2.2.2.2 with h1 | ⟨g, cap, cur, h1, h2, h3, h4⟩
  · exact .inl h1
  · refine .inr ⟨g, cap, cur, h1, h2, ?_, h4⟩
    have hlt : g < w.heap.size := by
      rcases Nat.lt_or_ge g w.heap.size with h | h
      · exact h
      · rw [Array.getElem?_eq_none h] at h3; cases h3
    rw [hk.block g hlt (by omega)]; exact h3

def MadeP (gq : Nat) (a : Option Addr) (len cap : Nat) (f : Nat → Int) (w : World) (e : Ending) (w' : World) : Prop :=
  ∃ (L : List PR) (A : Option Addr) (c k' : Nat), e = .returned (.slice A L.length c) ∧ OwnP w' w.heap.size A L.length c L ∧ ((∀ p ∈ L, okR p) ∧ 0 < L.length ∧ L.length ≤ 16) ∧ SeqIn w' gq a len cap f k' ∧ KeptB w.heap.size gq w w'

set_option maxHeartbeats 2000000 in
set_option maxRecDepth 100000 in
theorem pairs_any (gq : Nat) (a : Option Addr) (len cap : Nat) (f : Nat → Int) (k : Nat) (w : World) (h : SeqIn w gq a len cap f k) :
    Calls Try.prog 29 #[.pointer (some ⟨gq, 0, none⟩), .int .i64 16] w (MadeP gq a len cap f w) := by
  have hgq := h.1.lt
  have S0 := Lib.hid h
  clear h
  unfold MadeP
  go_enter Try.func29, Try.ntmps29
  go_wp2_with (go_at_call 40; (with_reducible refine (seqN_any gq a len cap f k 16 w (by decide) (by decide) S0.out).mono ?_); rintro e w1 ⟨r, k1, rfl, hr, hS, hK⟩; have S1 := Lib.hid hS; have K1 := Lib.hid hK; clear hS hK)
  go_loopw [5, 6] (fun s i wr => ∃ (j n : Nat) (A : Option Addr) (c k2 : Nat) (L : List PR), i = .int .i64 (j : Int) ∧ s = .slice A n c ∧ n + j = r + 1 ∧ n ≤ 16 ∧ j ≤ 16 ∧ Hid (OwnP wr w.heap.size A n c L) ∧ Hid (∀ p ∈ L, okR p) ∧ Hid (SeqIn wr gq a len cap f k2) ∧ Hid (KeptB w.heap.size gq w wr)) (fun _ i _ => (intOf i).toNat)
  case atStart => exact ⟨r + 1, 0, none, 0, k1, [], by go_num, rfl, by omega, by omega, by omega, Lib.hid (OwnP.nil w1 _ K1.out.size), Lib.hid (fun p hp => by cases hp), S1, K1⟩
  case round =>
    obtain ⟨j, n, A, c, k2, L, rfl, rfl, hnj, hn, hj, hO, hR, hS, hK⟩ := hrel
    cases j with
    | zero =>
      have hlen := hO.out.2.1
      go_wp2
      go_ret
      exact ⟨L, A, c, k2, by rw [hlen]; rfl, by rw [hlen]; exact hO.out, ⟨hR.out, by omega, by omega⟩, hS.out, hK.out⟩
    | succ j =>
      have e : ((j + 1 : Nat) : Int) = (j : Int) + 1 := by omega
      have hpos : (0 : Int) < (j : Int) + 1 := by omega
      rw [e]
      go_wp2_with (first
        | (go_at_call 28; (with_reducible refine (pair_any gq a len cap f k2 wr hS.out).mono ?_); rintro e w2 ⟨p1, p2, k3, rfl, hok, hS2, hK2⟩; have HOk := Lib.hid hok; have S2 := Lib.hid hS2; have O2 := Lib.hid (OwnP.keptB hO.out hK2 hgq); have K2 := Lib.hid (hK.out.trans (hK2.mono hK.out.size)); dsimp only [pv]; clear hok hS2 hK2)
        | (at_builtin; refine wpList_append_elt pairElt rfl (.tmp 15) (.tmp 18) rfl w.heap.size A n c (cellsP L) rfl (O2.out.2.2.alloc (.cells #[.string (T p1), .string (T p2)] 24)) ⟨w2.heap.size, 0, none⟩ 1 1 [.string (T p1), .string (T p2)] rfl rfl (Blk.news (Blk.new w2 [.string (T p1), .string (T p2)] 24)) (by intro u hu; simp at hu; rcases hu with rfl | rfl <;> rfl) (by omega) (by omega) ?_; intro A2 c2 w3 ho2 hbel2; have HO4 := Lib.hid ho2; have K4 := Lib.hid ((K2.out.alloc K2.out.size (.cells #[.string (T p1), .string (T p2)] 24)).trans (KeptB.of_below hbel2)); have S4 := Lib.hid ((Blk.alloc S2.out.1 (.cells #[.string (T p1), .string (T p2)] 24)).below hbel2 hgq); clear ho2 hbel2))
      go_round
      case rel =>
        refine ⟨j, n + 1, A2, c2, k3, L ++ [(p1, p2)], rfl, rfl, by omega, by omega, by omega, Lib.hid ⟨?_, ?_, ?_⟩, Lib.hid ?_, Lib.hid ⟨S4.out, ints_keptB S0.out.2.1 K4.out S0.out.2.2.1, S2.out.2.2⟩, K4⟩
        · intro q hq
          rcases List.mem_append.1 hq with h | h
          · exact hO.out.1 q h
          · simp at h; subst h; exact okR_okP HOk.out
        · rw [List.length_append, hO.out.2.1]; rfl
        · rw [cellsP_app]; exact HO4.out
        · intro q hq
          rcases List.mem_append.1 hq with h | h
          · exact hR.out q h
          · simp at h; subst h; exact HOk.out
      case measure => simp [intOf] <;> omega
end Go.Proofs.Ytmimfojlcihhaaa.Pq8
