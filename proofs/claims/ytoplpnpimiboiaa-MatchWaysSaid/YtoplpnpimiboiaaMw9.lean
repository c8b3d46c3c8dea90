/-
  Texts beneath the proof, one behind the other.
-/
import Derived.Test.YtoplpnpimiboiaaMw8
import Derived.Test.YtoplpnpimiboiaaMw5
import Derived.Test.YtoplpnpimiboiaaMw6

/-
  Plain: the match of whole words: small, and with a row.
-/
namespace Go.Proofs.Ytoplpnpimiboiaa.Qs
open Go.ChangeShapes Go.WideShapes Go.ChangeAt Go.RowKit
open Bytes8 Blk8 Own8 OwnE Fa Fb Fc Fo Pr8 Pv8 Qa Qb Qc Qn Qp
open Qk (grp_len grp_ok)
set_option linter.unusedVariables false
set_option maxRecDepth 100000
set_option linter.unusedSimpArgs false

theorem canon_small (row : List PR) : (canon row).length ≤ row.length ∧ ((∀ p ∈ row, AllB p.1) → ∀ a ∈ canon row, a.2.length ≤ row.length) := by
  have hd := Qh.dd_len (sortN row) row.length
  rw [List.take_of_length_le (by rw [sortN_len]; exact Nat.le_refl _)] at hd
  obtain ⟨d1, d2⟩ := dd_fold (sortN row) [] .nil (sortN_up row) (fun a ha => by cases ha)
  rw [← grp_canon]
  refine ⟨Nat.le_trans (grp_len _ []) (by simp; exact hd), fun h a ha => ?_⟩
  have := (grp_ok (dd (sortN row)) [] 0 (fun _ h => by cases h) (fun p hp => h p ((sortN_mem row p).1 (((d2 p).1 hp).elim (fun h => by cases h) id))) a ha).2
  omega
theorem canon_ok {row : List PR} (h : ∀ p ∈ row, okP p) (hl : row.length ≤ 100000) : OkR (canon row) := by
  obtain ⟨h1, h2⟩ := canon_small row
  have h3 := h2 fun p hp => (h p hp).1
  have hM : 100000 ≤ maxLen := by decide
  refine ⟨fun a ha => ?_, by omega⟩
  have hv : ∀ v ∈ a.2, (a.1, v) ∈ row := fun v hv => (canon_in row (a.1, v)).1 ⟨a, ha, rfl, hv⟩
  refine ⟨?_, fun v hv' => ⟨(h _ (hv v hv')).2.1, (h _ (hv v hv')).2.2.2⟩, by have := h3 a ha; omega⟩
  rcases hc : a.2 with _ | ⟨v, vs⟩
  · exact absurd hc ((canon_ris row).each a ha).1
  · have := h _ (hv v (by rw [hc]; simp))
    exact ⟨this.1, this.2.2.1⟩
theorem split_ok' {x : TX} (hx : AllB x) (hl : x.length ≤ 900000) : okP (splitN x, splitV x) := by
  have h1 : (splitN x).length ≤ x.length := by
    unfold splitN
    split
    · rw [List.length_take]; exact Nat.min_le_right _ _
    · exact Nat.zero_le _
  have h2 : (splitV x).length ≤ x.length := by
    unfold splitV
    split
    · rw [List.length_drop]; omega
    · exact Nat.zero_le _
  exact ⟨splitN_all hx, splitV_all hx, by unfold maxLen; show (splitN x).length ≤ _; omega, by unfold maxLen; show (splitV x).length ≤ _; omega⟩
theorem comp_ok : ∀ (ws : List TX) (rows : List RW) (row : List PR), (∀ v ∈ ws, AllB v ∧ v.length ≤ 900000) → (∀ r ∈ rows, OkR r) → (∀ p ∈ row, okP p) → row.length + ws.length ≤ 100000 → (∀ r ∈ (comp ws rows row).2, OkR r) ∧ (comp ws rows row).2.length ≤ rows.length + ws.length + 1
  | [], rows, row, _, hR, hr, hl => by
    rw [comp]
    dsimp only
    split
    · exact ⟨hR, by omega⟩
    · refine ⟨fun r h => ?_, by simp⟩
      rcases List.mem_append.1 h with h | h
      · exact hR r h
      · rw [List.mem_singleton.1 h]; exact canon_ok hr (by simpa using hl)
  | x :: ws, rows, row, hw, hR, hr, hl => by
    have hl' : row.length + ws.length + 1 ≤ 100000 := by simpa [Nat.add_assoc] using hl
    rw [comp]
    split
    · split
      · exact ⟨(fun _ h => by cases h), Nat.zero_le _⟩
      · obtain ⟨h1, h2⟩ := comp_ok ws (rows ++ [canon row]) [] (fun v hv => hw v (by simp [hv])) (fun r h => by
          rcases List.mem_append.1 h with h | h
          · exact hR r h
          · rw [List.mem_singleton.1 h]; exact canon_ok hr (by omega)) (fun _ h => by cases h) (by simp; omega)
        exact ⟨h1, by simp at h2 ⊢; omega⟩
    · split
      · obtain ⟨h1, h2⟩ := comp_ok ws rows (row ++ [(splitN x, splitV x)]) (fun v hv => hw v (by simp [hv])) hR (fun p h => by
          rcases List.mem_append.1 h with h | h
          · exact hr p h
          · rw [List.mem_singleton.1 h]; exact split_ok' (hw x (by simp)).1 (hw x (by simp)).2) (by simp; omega)
        exact ⟨h1, by simp at h2 ⊢; omega⟩
      · exact ⟨(fun _ h => by cases h), Nat.zero_le _⟩
theorem compM_ok {ws : List TX} (h : ∀ v ∈ ws, AllB v ∧ v.length ≤ 900000) : OkM (compM ws).2 := by
  have hM : 100000 ≤ maxLen := by decide
  unfold compM
  split
  · exact ⟨(fun _ h => by cases h), Nat.zero_le _⟩
  · obtain ⟨h1, h2⟩ := comp_ok ws [] [] h (fun _ h => by cases h) (fun _ h => by cases h) (by simp; omega)
    exact ⟨h1, by simp at h2; omega⟩
theorem comp_some : ∀ (ws : List TX) (rows : List RW) (row : List PR), (comp ws rows row).1 = 0 → (rows ≠ [] ∨ row ≠ [] ∨ ws ≠ []) → (∀ x ∈ ws, x ≠ [43] → True) → (comp ws rows row).2 ≠ []
  | [], rows, row, _, h, _ => by
    rw [comp]
    dsimp only
    split
    · rename_i e
      rcases h with h | h | h
      · exact h
      · exact absurd e h
      · exact absurd rfl h
    · simp
  | x :: ws, rows, row, h0, _, ht => by
    rw [comp] at h0 ⊢
    split at h0
    · rename_i e
      rw [if_pos e]
      split at h0
      · cases h0
      · rename_i e2
        rw [if_neg e2]
        exact comp_some ws _ _ h0 (.inl (by simp)) (fun _ _ _ => trivial)
    · rename_i e
      rw [if_neg e]
      split at h0
      · rename_i e2
        rw [if_pos e2]
        exact comp_some ws _ _ h0 (.inr (.inl (by simp))) (fun _ _ _ => trivial)
      · rename_i e2
        exact absurd h0 e2
theorem compM_some {ws : List TX} (h : (compM ws).1 = 0) (hne : ws ≠ []) : (compM ws).2 ≠ [] := by
  unfold compM at h ⊢
  split at h
  · cases h
  · rename_i e
    rw [if_neg e]
    exact comp_some ws [] [] h (.inr (.inr hne)) (fun _ _ _ => trivial)
end Go.Proofs.Ytoplpnpimiboiaa.Qs

/-
  The chapter's example of layer 17; few pairs.
-/
namespace Go.Proofs.Ytoplpnpimiboiaa.Qr
open Go.ChangeShapes Go.WideShapes Go.ChangeAt Go.RowKit
open Bytes8 Blk8 Own8 OwnE Fa Fb Fc Fo Pr8 Pv8 Qa Qb Qc Qd Qn Numb Rows2
open Qm (compile_any Compd)
open Qo (holds_any)
open SeqP (pair_any Paired)
open Seq8
open Pq8 (okR_okP)
open Ps8 (okR)
set_option linter.unusedVariables false
set_option maxRecDepth 100000
set_option linter.unusedSimpArgs false

abbrev exW : List TX := [[65, 61, 49], [65, 61, 50], [66, 61, 51]]
abbrev exM : List RW := [[([65], [[49], [50]]), ([66], [[51]])]]
abbrev exP : List PR := [([66], [51]), ([65], [50])]
theorem ex_comp : compM exW = (0, exM) := by decide +kernel
theorem ex_hold : holdB exP exM = true := by decide +kernel
theorem ex_none : holdB [] [] = true := by decide +kernel
theorem small_M : OkM exM := by
  have h : ∀ v ∈ ([[65], [66], [49], [50], [51]] : List TX), OkT v := by
    intro v hv
    have : (v.all fun x => decide (0 ≤ x) && decide (x < 256)) = true ∧ v.length ≤ maxLen := by
      simp only [List.mem_cons, List.not_mem_nil, or_false] at hv
      rcases hv with rfl | rfl | rfl | rfl | rfl <;> exact ⟨by decide, by decide⟩
    exact ⟨Ff.small_all this.1, this.2⟩
  refine ⟨fun r hr => ⟨fun a ha => ?_, ?_⟩, by decide⟩
  · simp only [List.mem_cons, List.not_mem_nil, or_false] at hr
    subst hr
    simp only [List.mem_cons, List.not_mem_nil, or_false] at ha
    rcases ha with rfl | rfl
    · refine ⟨h _ (by simp), fun v hv => h v ?_, by decide⟩
      simp only [List.mem_cons, List.not_mem_nil, or_false] at hv ⊢
      rcases hv with rfl | rfl <;> simp
    · refine ⟨h _ (by simp), fun v hv => h v ?_, by decide⟩
      simp only [List.mem_cons, List.not_mem_nil, or_false] at hv ⊢
      subst hv; simp
  · simp only [List.mem_cons, List.not_mem_nil, or_false] at hr
    subst hr
    decide
theorem ex_all : ∀ v ∈ exW, AllB v ∧ v.length ≤ 900000 := by
  intro v hv
  have : (v.all fun x => decide (0 ≤ x) && decide (x < 256)) = true ∧ v.length ≤ 900000 := by
    simp only [List.mem_cons, List.not_mem_nil, or_false] at hv
    rcases hv with rfl | rfl | rfl <;> exact ⟨by decide, by decide⟩
  exact ⟨Ff.small_all this.1, this.2⟩
theorem ex_words (w : World) : Txts (w.alloc (.cells #[.string { data := #[65, 61, 49] }, .string { data := #[65, 61, 50] }, .string { data := #[66, 61, 51] }] 9)) (some ⟨w.heap.size, 0, none⟩) exW := fun i hi => by
  have hb := Blk.new w [.string { data := #[65, 61, 49] }, .string { data := #[65, 61, 50] }, .string { data := #[66, 61, 51] }] 9
  refine ⟨w.heap.size, 0, rfl, hb.lt, ?_⟩
  rw [Nat.zero_add]
  rcases i with _ | _ | _ | i
  · rw [hb.cell rfl, show T (exW.getD 0 []) = ({ data := #[65, 61, 49] } : ByteArray) by decide]
  · rw [hb.cell rfl, show T (exW.getD 1 []) = ({ data := #[65, 61, 50] } : ByteArray) by decide]
  · rw [hb.cell rfl, show T (exW.getD 2 []) = ({ data := #[66, 61, 51] } : ByteArray) by decide]
  · simp at hi; omega
theorem ex_pairs (w : World) : Prs (w.alloc (.cells #[.string { data := #[66] }, .string { data := #[51] }, .string { data := #[65] }, .string { data := #[50] }] 45)) (some ⟨w.heap.size, 0, none⟩) exP := by
  have hb := Blk.new w [.string { data := #[66] }, .string { data := #[51] }, .string { data := #[65] }, .string { data := #[50] }] 45
  refine ⟨fun p hp => ?_, fun i hi => ⟨w.heap.size, 0, rfl, hb.lt, ?_⟩⟩
  · simp only [List.mem_cons, List.not_mem_nil, or_false] at hp
    rcases hp with rfl | rfl <;> exact ⟨Ff.small_all (by decide), Ff.small_all (by decide), by decide, by decide⟩
  · rw [Nat.zero_add]
    rcases i with _ | _ | i
    · exact ⟨by rw [hb.cell rfl, show T (exP.getD 0 nil2).1 = ({ data := #[66] } : ByteArray) by decide], by rw [hb.cell rfl, show T (exP.getD 0 nil2).2 = ({ data := #[51] } : ByteArray) by decide]⟩
    · exact ⟨by rw [hb.cell rfl, show T (exP.getD 1 nil2).1 = ({ data := #[65] } : ByteArray) by decide], by rw [hb.cell rfl, show T (exP.getD 1 nil2).2 = ({ data := #[50] } : ByteArray) by decide]⟩
    · simp at hi; omega
set_option maxHeartbeats 8000000 in
theorem first_any (w : World) : Calls Try.prog 7 #[] w fun e w' => e = .returned (.bool true) ∧ Below w.heap.size w w' := by
  have b1 := (Below.refl w.heap.size w).alloc (Nat.le_refl _) (.cells #[.string { data := #[65, 61, 49] }, .string { data := #[65, 61, 50] }, .string { data := #[66, 61, 51] }] 9)
  have HC := Lib.hid (compile_any (some ⟨w.heap.size, 0, none⟩) exW 3 3 _ (ex_words w) rfl ex_all (by decide))
  have B1 := Lib.hid b1
  rw [ex_comp] at HC
  unfold Compd at HC
  dsimp only [exM, List.length] at HC
  clear b1
  go_enter Try.func7, Try.ntmps7
  go_upto_region 2 with (go_at_call 9; (with_reducible refine HC.out.mono ?_); rintro e w2 ⟨A2, c2, rfl, hm, hb, -⟩; have HM := Lib.hid hm; have B2 := Lib.hid (B1.out.trans (hb.mono B1.out.size)); clear hm hb)
  have R3 := Lib.hid (Blk.new w2 [.slice A2 1 c2] 25)
  have b3 := (Below.refl w2.heap.size w2).alloc (Nat.le_refl _) (.cells #[.slice A2 1 c2] 25)
  have M3 := Lib.hid (HM.out.below b3)
  have B3 := Lib.hid (B2.out.trans (b3.mono B2.out.size))
  clear b3
  change Hid (Blk (w2.alloc (.cells #[.slice A2 1 c2] 25)) _ _ _) at R3
  generalize w2.alloc (.cells #[.slice A2 1 c2] 25) = w3 at *
  generalize w2.heap.size = g3 at *
  obtain ⟨b, off, A3, c3, rfl, hbl, k0, hA⟩ := M3.out 0 (by decide)
  obtain ⟨b', off', A4, c4, rfl, hbl2, l0, l1, _⟩ := hA 0 (by decide)
  have r0 := R3.out.cell (i := 0) rfl
  change w3.cell? ⟨b, off + 0, none⟩ = some (.slice _ 2 c3) at k0
  change w3.cell? ⟨b', off' + 0 * 2 + 1, none⟩ = some (.slice A4 2 c4) at l1
  simp only [Nat.add_zero, Nat.zero_mul] at k0 l1
  have b4 := (Below.refl w3.heap.size w3).alloc (Nat.le_refl _) (.cells #[.string { data := #[66] }, .string { data := #[51] }, .string { data := #[65] }, .string { data := #[50] }] 45)
  have H1 := Lib.hid (holds_any exP (some ⟨w3.heap.size, 0, none⟩) 2 2 exM (some ⟨b, off, none⟩) c2 _ (ex_pairs w3) rfl (by decide) (M3.out.below b4) small_M)
  have H2 := Lib.hid fun W => holds_any [] none 0 0 [] none 0 W (Prs.nil W none) rfl (by decide) (Mts.nil W none) ⟨(fun _ h => by cases h), Nat.zero_le _⟩
  have B4 := Lib.hid (B3.out.trans (b4.mono B3.out.size))
  rw [ex_hold] at H1
  simp only [ex_none] at H2
  dsimp only [Qd.mtV, exM, List.length] at H1 H2
  clear hA hbl hbl2 l0 b4
  go_wp2_with (first
    | (go_at_call 17; (with_reducible refine H1.out.mono ?_); rintro e w5 ⟨rfl, hb⟩; have B5 := Lib.hid (B4.out.trans (hb.mono B4.out.size)); clear hb)
    | (go_at_call 17; (with_reducible refine (H2.out _).mono ?_); rintro e w6 ⟨rfl, hb⟩; have B6 := Lib.hid (B5.out.trans (hb.mono B5.out.size)); clear hb))
  go_ret
  exact ⟨rfl, B6.out⟩
/-- Pairs out of numbers. -/
def Made6 (gq : Nat) (a : Option Addr) (len cap : Nat) (f : Nat → Int) (w : World) (e : Ending) (w' : World) : Prop :=
  ∃ (L : List PR) (A : Option Addr) (c k' : Nat), e = .returned (.slice A L.length c) ∧ OwnP w' w.heap.size A L.length c L ∧ ((∀ p ∈ L, okR p) ∧ L.length ≤ 6) ∧ SeqIn w' gq a len cap f k' ∧ KeptB w.heap.size gq w w'
set_option maxHeartbeats 2000000 in
set_option maxRecDepth 100000 in
theorem pairs6_any (gq : Nat) (a : Option Addr) (len cap : Nat) (f : Nat → Int) (k : Nat) (w : World) (h : SeqIn w gq a len cap f k) :
    Calls Try.prog 21 #[.pointer (some ⟨gq, 0, none⟩), .int .i64 6] w (Made6 gq a len cap f w) := by
  have hgq := h.1.lt
  have S0 := Lib.hid h
  clear h
  unfold Made6
  go_enter Try.func21, Try.ntmps21
  go_wp2_with (go_at_call 39; (with_reducible refine (seqN_any gq a len cap f k 6 w (by decide) (by decide) S0.out).mono ?_); rintro e w1 ⟨r, k1, rfl, hr, hS, hK⟩; have S1 := Lib.hid hS; have K1 := Lib.hid hK; clear hS hK)
  go_loopw [5, 6] (fun s i wr => ∃ (j n : Nat) (A : Option Addr) (c k2 : Nat) (L : List PR), i = .int .i64 (j : Int) ∧ s = .slice A n c ∧ n + j = r + 1 ∧ n ≤ 6 ∧ j ≤ 6 ∧ Hid (OwnP wr w.heap.size A n c L) ∧ Hid (∀ p ∈ L, okR p) ∧ Hid (SeqIn wr gq a len cap f k2) ∧ Hid (KeptB w.heap.size gq w wr)) (fun _ i _ => (intOf i).toNat)
  case atStart => exact ⟨r + 1, 0, none, 0, k1, [], by go_num, rfl, by omega, by omega, by omega, Lib.hid (OwnP.nil w1 _ K1.out.size), Lib.hid (fun p hp => by cases hp), S1, K1⟩
  case round =>
    obtain ⟨j, n, A, c, k2, L, rfl, rfl, hnj, hn, hj, hO, hR, hS, hK⟩ := hrel
    cases j with
    | zero =>
      have hlen := hO.out.2.1
      go_wp2
      go_ret
      exact ⟨L, A, c, k2, by rw [hlen]; rfl, by rw [hlen]; exact hO.out, ⟨hR.out, by omega⟩, hS.out, hK.out⟩
    | succ j =>
      have e : ((j + 1 : Nat) : Int) = (j : Int) + 1 := by omega
      have hpos : (0 : Int) < (j : Int) + 1 := by omega
      rw [e]
      go_wp2_with (first
        | (go_at_call 23; (with_reducible refine (pair_any gq a len cap f k2 wr hS.out).mono ?_); rintro e w2 ⟨p1, p2, k3, rfl, hok, hS2, hK2⟩; have HOk := Lib.hid hok; have S2 := Lib.hid hS2; have O2 := Lib.hid (Pq8.OwnP.keptB hO.out hK2 hgq); have K2 := Lib.hid (hK.out.trans (hK2.mono hK.out.size)); dsimp only [pv]; clear hok hS2 hK2)
        | (at_builtin; refine wpList_append_elt pairElt rfl (.tmp 15) (.tmp 18) rfl w.heap.size A n c (cellsP L) rfl (O2.out.2.2.alloc (.cells #[.string (T p1), .string (T p2)] 45)) ⟨w2.heap.size, 0, none⟩ 1 1 [.string (T p1), .string (T p2)] rfl rfl (Blk.news (Blk.new w2 [.string (T p1), .string (T p2)] 45)) (by intro u hu; simp at hu; rcases hu with rfl | rfl <;> rfl) (by omega) (by omega) ?_; intro A2 c2 w3 ho2 hbel2; have HO4 := Lib.hid ho2; have K4 := Lib.hid ((K2.out.alloc K2.out.size (.cells #[.string (T p1), .string (T p2)] 45)).trans (KeptB.of_below hbel2)); have S4 := Lib.hid ((Blk.alloc S2.out.1 (.cells #[.string (T p1), .string (T p2)] 45)).below hbel2 hgq); clear ho2 hbel2))
      go_round
      case rel =>
        refine ⟨j, n + 1, A2, c2, k3, L ++ [(p1, p2)], rfl, rfl, by omega, by omega, by omega, Lib.hid ⟨?_, ?_, ?_⟩, Lib.hid ?_, Lib.hid ⟨S4.out, ints_keptB S0.out.2.1 K4.out S0.out.2.2.1, S2.out.2.2⟩, K4⟩
        · intro q hq
          rcases List.mem_append.1 hq with h | h
          · exact hO.out.1 q h
          · simp at h; subst h; exact okR_okP HOk.out
        · rw [List.length_append, hO.out.2.1]; rfl
        · rw [cellsP_app]; exact HO4.out
        · intro q hq
          rcases List.mem_append.1 hq with h | h
          · exact hR.out q h
          · simp at h; subst h; exact HOk.out
      case measure => simp [intOf] <;> omega
end Go.Proofs.Ytoplpnpimiboiaa.Qr
