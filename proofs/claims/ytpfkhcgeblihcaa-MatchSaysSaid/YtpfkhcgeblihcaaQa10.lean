/-
  Texts beneath the proof, one behind the other.
-/
import Derived.Deep.CutRange
import Derived.Test.YtpfkhcgeblihcaaQa8
import Derived.Test.YtpfkhcgeblihcaaQa5
import Derived.Test.YtpfkhcgeblihcaaQa6
import Derived.Test.YtpfkhcgeblihcaaQa9

/-
  Plain: the match of whole words: small, and with a row.
-/
namespace Go.Proofs.Ytpfkhcgeblihcaa.Qs
open Go.ChangeShapes Go.WideShapes Go.ChangeAt Go.RowKit
open Bytes8 Blk8 Own8 OwnE Fa Fb Fc Fo Pr8 Pv8 Qa Qb Qc Qn Qp
open Qk (grp_len grp_ok)
set_option linter.unusedVariables false
set_option maxRecDepth 100000
set_option linter.unusedSimpArgs false

theorem canon_small (row : List PR) : (canon row).length ≤ row.length ∧ ((∀ p ∈ row, AllB p.1) → ∀ a ∈ canon row, a.2.length ≤ row.length) := by
  have hd := Qh.dd_len (sortN row) row.length
  rw [List.take_of_length_le (by rw [sortN_len]; exact Nat.le_refl _)] at hd
  obtain ⟨d1, d2⟩ := dd_fold (sortN row) [] .nil (sortN_up row) (fun a ha => by cases ha)
  rw [← grp_canon]
  refine ⟨Nat.le_trans (grp_len _ []) (by simp; exact hd), fun h a ha => ?_⟩
  have := (grp_ok (dd (sortN row)) [] 0 (fun _ h => by cases h) (fun p hp => h p ((sortN_mem row p).1 (((d2 p).1 hp).elim (fun h => by cases h) id))) a ha).2
  omega
theorem canon_ok {row : List PR} (h : ∀ p ∈ row, okP p) (hl : row.length ≤ 100000) : OkR (canon row) := by
  obtain ⟨h1, h2⟩ := canon_small row
  have h3 := h2 fun p hp => (h p hp).1
  have hM : 100000 ≤ maxLen := by decide
  refine ⟨fun a ha => ?_, by omega⟩
  have hv : ∀ v ∈ a.2, (a.1, v) ∈ row := fun v hv => (canon_in row (a.1, v)).1 ⟨a, ha, rfl, hv⟩
  refine ⟨?_, fun v hv' => ⟨(h _ (hv v hv')).2.1, (h _ (hv v hv')).2.2.2⟩, by have := h3 a ha; omega⟩
  rcases hc : a.2 with _ | ⟨v, vs⟩
  · exact absurd hc ((canon_ris row).each a ha).1
  · have := h _ (hv v (by rw [hc]; simp))
    exact ⟨this.1, this.2.2.1⟩
theorem split_ok' {x : TX} (hx : AllB x) (hl : x.length ≤ 900000) : okP (splitN x, splitV x) := by
  have h1 : (splitN x).length ≤ x.length := by
    unfold splitN
    split
    · rw [List.length_take]; exact Nat.min_le_right _ _
    · exact Nat.zero_le _
  have h2 : (splitV x).length ≤ x.length := by
    unfold splitV
    split
    · rw [List.length_drop]; omega
    · exact Nat.zero_le _
  exact ⟨splitN_all hx, splitV_all hx, by unfold maxLen; show (splitN x).length ≤ _; omega, by unfold maxLen; show (splitV x).length ≤ _; omega⟩
theorem comp_ok : ∀ (ws : List TX) (rows : List RW) (row : List PR), (∀ v ∈ ws, AllB v ∧ v.length ≤ 900000) → (∀ r ∈ rows, OkR r) → (∀ p ∈ row, okP p) → row.length + ws.length ≤ 100000 → (∀ r ∈ (comp ws rows row).2, OkR r) ∧ (comp ws rows row).2.length ≤ rows.length + ws.length + 1
  | [], rows, row, _, hR, hr, hl => by
    rw [comp]
    dsimp only
    split
    · exact ⟨hR, by omega⟩
    · refine ⟨fun r h => ?_, by simp⟩
      rcases List.mem_append.1 h with h | h
      · exact hR r h
      · rw [List.mem_singleton.1 h]; exact canon_ok hr (by simpa using hl)
  | x :: ws, rows, row, hw, hR, hr, hl => by
    have hl' : row.length + ws.length + 1 ≤ 100000 := by simpa [Nat.add_assoc] using hl
    rw [comp]
    split
    · split
      · exact ⟨(fun _ h => by cases h), Nat.zero_le _⟩
      · obtain ⟨h1, h2⟩ := comp_ok ws (rows ++ [canon row]) [] (fun v hv => hw v (by simp [hv])) (fun r h => by
          rcases List.mem_append.1 h with h | h
          · exact hR r h
          · rw [List.mem_singleton.1 h]; exact canon_ok hr (by omega)) (fun _ h => by cases h) (by simp; omega)
        exact ⟨h1, by simp at h2 ⊢; omega⟩
    · split
      · obtain ⟨h1, h2⟩ := comp_ok ws rows (row ++ [(splitN x, splitV x)]) (fun v hv => hw v (by simp [hv])) hR (fun p h => by
          rcases List.mem_append.1 h with h | h
          · exact hr p h
          · rw [List.mem_singleton.1 h]; exact split_ok' (hw x (by simp)).1 (hw x (by simp)).2) (by simp; omega)
        exact ⟨h1, by simp at h2 ⊢; omega⟩
      · exact ⟨(fun _ h => by cases h), Nat.zero_le _⟩
theorem compM_ok {ws : List TX} (h : ∀ v ∈ ws, AllB v ∧ v.length ≤ 900000) : OkM (compM ws).2 := by
  have hM : 100000 ≤ maxLen := by decide
  unfold compM
  split
  · exact ⟨(fun _ h => by cases h), Nat.zero_le _⟩
  · obtain ⟨h1, h2⟩ := comp_ok ws [] [] h (fun _ h => by cases h) (fun _ h => by cases h) (by simp; omega)
    exact ⟨h1, by simp at h2; omega⟩
theorem comp_some : ∀ (ws : List TX) (rows : List RW) (row : List PR), (comp ws rows row).1 = 0 → (rows ≠ [] ∨ row ≠ [] ∨ ws ≠ []) → (∀ x ∈ ws, x ≠ [43] → True) → (comp ws rows row).2 ≠ []
  | [], rows, row, _, h, _ => by
    rw [comp]
    dsimp only
    split
    · rename_i e
      rcases h with h | h | h
      · exact h
      · exact absurd e h
      · exact absurd rfl h
    · simp
  | x :: ws, rows, row, h0, _, ht => by
    rw [comp] at h0 ⊢
    split at h0
    · rename_i e
      rw [if_pos e]
      split at h0
      · cases h0
      · rename_i e2
        rw [if_neg e2]
        exact comp_some ws _ _ h0 (.inl (by simp)) (fun _ _ _ => trivial)
    · rename_i e
      rw [if_neg e]
      split at h0
      · rename_i e2
        rw [if_pos e2]
        exact comp_some ws _ _ h0 (.inr (.inl (by simp))) (fun _ _ _ => trivial)
      · rename_i e2
        exact absurd h0 e2
theorem compM_some {ws : List TX} (h : (compM ws).1 = 0) (hne : ws ≠ []) : (compM ws).2 ≠ [] := by
  unfold compM at h ⊢
  split at h
  · cases h
  · rename_i e
    rw [if_neg e]
    exact comp_some ws [] [] h (.inr (.inr hne)) (fun _ _ _ => trivial)
end Go.Proofs.Ytpfkhcgeblihcaa.Qs

/-
  The document's way to put a pair into a row, walked.
-/
namespace Go.Proofs.Ytpfkhcgeblihcaa.Udc
open Go.ChangeShapes Go.WideShapes Go.ChangeAt Go.RowKit
open Bytes8 Blk8 Own8 OwnM OwnE OwnA Dc Fa Fb Fo Pr8 Pv8 Qa Qb Uda Udb
open Qj (TxF TxF.kept)
set_option linter.unusedVariables false
set_option maxRecDepth 100000
set_option linter.unusedSimpArgs false

def Alted (G0 : Nat → Prop) (l : RW) (p : PR) (w : World) (e : Ending) (w' : World) : Prop := ∃ A' c', e = .returned (.slice A' (insA l p).length c') ∧ RwD (fun b => G0 b ∨ w.heap.size ≤ b) w' w.heap.size A' (insA l p).length c' (insA l p) ∧ Below w.heap.size w w'
set_option maxHeartbeats 16000000 in
theorem ralts_any (G0 : Nat → Prop) (a : Option Addr) (l : RW) (c : Nat) (p : PR) (w : World) (hT : AlC G0 w a l) (hR : Ris l) (hA : ∀ x ∈ l, AllB x.1 ∧ (∀ v ∈ x.2, AllB v) ∧ x.2.length ≤ 900) (hp : AllB p.1 ∧ AllB p.2) (hl : l.length ≤ 400) :
    Calls Try.prog 20 #[.slice a l.length c, .agg #[.string (T p.1), .string (T p.2)]] w (Alted G0 l p w) := by
  have hmx : Try.prog.follows .mixedOrders = true := by kernel_rfl
  have HFin := Lib.hid (finA_ins p l [] hR)
  have HFm := Lib.hid fun i (hi : i < l.length) (z : RW × Bool) (h : (l.take i).foldl (stA p) ([], false) = z) => fold_more (p := p) hi h
  have HAl := Lib.hid fun i (hi : i < l.length) => hA _ (getD_in hi (d := nilA))
  have HNe := Lib.hid fun i (hi : i < l.length) => (hR.each _ (getD_in hi (d := nilA))).1
  have HP := Lib.hid hp
  have b1 := (Below.refl w.heap.size w).alloc (Nat.le_refl _) (.cells #[.string (T p.1), .string (T p.2)] 40)
  have R1 := Lib.hid (Blk.new w [.string (T p.1), .string (T p.2)] 40)
  have HT := Lib.hid (hT.below b1)
  have HB1 := Lib.hid b1
  obtain ⟨m, hL⟩ : ∃ m, l.length = m := ⟨_, rfl⟩
  have HL := Lib.hid hL
  rw [hL] at hl ⊢
  obtain ⟨P1, hP1⟩ : ∃ P1, T p.1 = P1 := ⟨_, rfl⟩
  obtain ⟨P2, hP2⟩ : ∃ P2, T p.2 = P2 := ⟨_, rfl⟩
  have HP1 := Lib.hid hP1
  have HP2 := Lib.hid hP2
  rw [hP1, hP2] at R1 HT HB1 ⊢
  unfold Alted
  clear hT hR hA hp b1 hL hP1 hP2
  go_enter Try.func20, Try.ntmps20
  go_upto_region 1 with fail
  change Hid (Blk (w.alloc (.cells #[.string P1, .string P2] 40)) w.heap.size _ _) at R1
  generalize w.alloc (.cells #[.string P1, .string P2] 40) = w1 at *
  have hlt1 := R1.out.lt
  go_wp2_with fail
  go_loopw [5, 6, 7] (fun o i k wr => ∃ (j n cc : Nat) (A : Option Addr) (inn : Bool) (r : RW), j ≤ m ∧ k = .int .i64 (j : Int) ∧ i = .bool inn ∧ o = .slice A n cc ∧ n ≤ 2 * j ∧ Hid ((l.take j).foldl (stA p) ([], false) = (r, inn)) ∧ Hid (RwD (fun b => G0 b ∨ w.heap.size ≤ b) wr w1.heap.size A n cc r) ∧ Hid (Below w1.heap.size w1 wr)) (fun _ _ k _ => m - (intOf k).toNat)
  case atStart => exact ⟨0, 0, 0, none, false, [], by omega, rfl, rfl, rfl, by omega, Lib.hid rfl, Lib.hid (RwD.nil _ w1 _ (Nat.le_refl _)), Lib.hid (Below.refl _ _)⟩
  case round =>
    obtain ⟨j, n, cc, A, inn, r, hj, rfl, rfl, rfl, hn, hF, hRw, hB⟩ := hrel
    have hbs := hB.out.size
    rcases Nat.lt_or_ge j m with hlt | hge
    · obtain ⟨b1, off1, b2, off2, c2, rfl, hbl1, hc0, hc1, hcap, hcap2, hT2⟩ := HT.out j (by have := HL.out; omega)
      have hin : (j : Int) < (m : Int) := by omega
      have hFj := HFm.out j (by have := HL.out; omega) (r, inn) hF.out
      obtain ⟨hx1, hx2, hx3⟩ := HAl.out j (by have := HL.out; omega)
      have hne := HNe.out j (by have := HL.out; omega)
      obtain ⟨x, hxx⟩ : ∃ x, l.getD j nilA = x := ⟨_, rfl⟩
      rw [hxx] at hc0 hc1 hcap hT2 hFj hx1 hx2 hx3 hne
      clear hxx
      obtain ⟨xn, xv⟩ := x
      dsimp only at hc0 hc1 hcap hT2 hx1 hx2 hx3 hne
      obtain ⟨hb2, hg2⟩ : b2 < w1.heap.size ∧ G0 b2 := by
        obtain ⟨b', off', e, hf, h1, _⟩ := hT2 0 (List.length_pos_iff.2 hne)
        injection e with e; injection e with e1 e2; subst e1
        exact ⟨h1, hf⟩
      have HTF : Hid (TxF (fun y => y < w1.heap.size ∧ (G0 y ∨ w.heap.size ≤ y)) w1 (some ⟨b2, off2, none⟩) xv) := Lib.hid (hT2.kept (Nat.le_refl _) (fun _ _ _ => rfl) (fun y hf hlt => ⟨hlt, .inl hf⟩))
      have HG2 := Lib.hid hg2
      have heq := T_beq hx1 HP.out.1
      have hgt : ∀ z, (!(ltL xn p.1 || decide (xn = p.1))) = z → ∀ W : World, (binOp .gtr 9 (.string (T xn)) (.string P1)).run Try.prog W = .ok (.bool z) W := fun z h W => by
        rw [← HP1.out, run_gtr_str, bytesLess_T hx1 HP.out.1, T_beq hx1 HP.out.1, h]
      have HG := Lib.hid hgt
      have HTx := Lib.hid fun (W : World) (hW : Below w1.heap.size w1 W) => rtexts_any b2 off2 c2 xv p.2 W (hT2.txts.below hW) hx2 HP.out.2 (by omega) hcap hcap2
      rw [HP1.out] at heq
      rw [HP2.out] at HTx
      obtain ⟨E1, hE1⟩ : ∃ E, T xn = E := ⟨_, rfl⟩
      obtain ⟨nv, hnv⟩ : ∃ k, xv.length = k := ⟨_, rfl⟩
      have HE1 := Lib.hid hE1
      have HNV := Lib.hid hnv
      rw [hE1] at heq hc0 HG
      rw [hnv] at hc1 hcap HTx
      have HFj := Lib.hid hFj
      have HCap := Lib.hid (And.intro hcap hcap2)
      have HC0 := Lib.hid hc0
      have HC1 := Lib.hid hc1
      clear hg2 hT2 hx1 hx2 hx3 hne hgt hE1 hnv hFj hcap hcap2 hc0 hc1
      by_cases hx : xn = p.1
      · rw [decide_eq_true hx] at heq
        have HN := Lib.hid (show stA p (r, inn) (xn, xv) = (r ++ [(p.1, insT xv p.2)], true) from if_pos hx)
        rw [HN.out] at HFj
        clear hx HN
        go_upto_region 6 with fail
        refine wp_region_noPanic ?_
        refine wp_region_held_drew (S := fun W => Below w1.heap.size w1 W) (by kernel_rfl) (by exact hB.out.drew) (fun hHeld => ?_)
        have hBX : Hid (Below w1.heap.size w1 (World.drew wr)) := Lib.hid hB.out.drew
        have hRX := Lib.hid (hRw.out.kept ((Below.refl _ _).drew : Below (World.heap wr).size wr (World.drew wr)))
        clear hB hRw hbs
        generalize World.drew wr = X at *
        have hB := hBX
        have hRw := hRX
        have hbs := hB.out.size
        clear hBX hRX
        refine wpAnyH_take (i := 0) (oi := ⟨some 14, _, _, _, _, _⟩) (v := ?_) rfl (by kernel_rfl) (by kernel_rfl) (by kernel_rfl) (fun _ _ _ h => h) (Or.inl ⟨by rfl, ?_⟩) (by assumption) ?_
        rotate_left
        · intro W hSw; go_simp; try (with_reducible rfl)
        try simp only [Act.put, List.setIfInBounds_toArray, List.set_cons_zero, List.set_cons_succ]
        refine wpAnyH_take (i := 1) (oi := ⟨some 15, _, _, _, _, _⟩) (v := ?_) rfl (by kernel_rfl) (by kernel_rfl) (by kernel_rfl) (fun _ _ _ h => h) (Or.inl ⟨by rfl, ?_⟩) (by assumption) ?_
        rotate_left
        · intro W hSw; go_simp; try (with_reducible rfl)
        try simp only [Act.put, List.setIfInBounds_toArray, List.set_cons_zero, List.set_cons_succ]
        refine wpAnyH_take (i := 2) (oi := ⟨some 16, _, _, _, _, _⟩) (v := ?_) rfl (by kernel_rfl) (by kernel_rfl) (by kernel_rfl) (fun _ _ _ h => h) (Or.inl ⟨by rfl, ?_⟩) (by assumption) ?_
        rotate_left
        · intro W hSw; go_simp; try (with_reducible rfl)
        try simp only [Act.put, List.setIfInBounds_toArray, List.set_cons_zero, List.set_cons_succ]
        refine wpAnyH_take (i := 3) (oi := ⟨some 17, _, _, _, _, _⟩) (v := ?_) rfl (by kernel_rfl) (by kernel_rfl) (by kernel_rfl) (fun _ _ _ h => h) (Or.inl ⟨by rfl, ?_⟩) (by assumption) ?_
        rotate_left
        · intro W hSw; go_simp; try (with_reducible rfl)
        try simp only [Act.put, List.setIfInBounds_toArray, List.set_cons_zero, List.set_cons_succ]
        refine wpAnyH_take (i := 4) (oi := ⟨some 18, _, _, _, _, _⟩) (v := ?_) rfl (by kernel_rfl) (by kernel_rfl) (by kernel_rfl) (fun _ _ _ h => h) (Or.inl ⟨by rfl, ?_⟩) (by assumption) ?_
        rotate_left
        · intro W hSw; have q0 := (Below.cell (p := ⟨b1, off1 + j * 2, none⟩) hSw hbl1).trans HC0.out; go_simp; try (with_reducible rfl)
        try simp only [Act.put, List.setIfInBounds_toArray, List.set_cons_zero, List.set_cons_succ]
        refine wpAnyH_take (i := 5) (oi := ⟨some 19, _, _, _, _, _⟩) (v := ?_) rfl (by kernel_rfl) (by kernel_rfl) (by kernel_rfl) (fun _ _ _ h => h) (Or.inl ⟨by rfl, ?_⟩) (by assumption) ?_
        rotate_left
        · intro W hSw; go_simp; try (with_reducible rfl)
        try simp only [Act.put, List.setIfInBounds_toArray, List.set_cons_zero, List.set_cons_succ]
        refine wpAnyH_take (i := 6) (oi := ⟨some 20, _, _, _, _, _⟩) (v := ?_) rfl (by kernel_rfl) (by kernel_rfl) (by kernel_rfl) (fun _ _ _ h => h) (Or.inl ⟨by rfl, ?_⟩) (by assumption) ?_
        rotate_left
        · intro W hSw; have p0 := (R1.out.below hSw R1.out.lt).cell (i := 0) rfl; go_simp; try (with_reducible rfl)
        try simp only [Act.put, List.setIfInBounds_toArray, List.set_cons_zero, List.set_cons_succ]
        refine wpAnyH_take (i := 7) (oi := ⟨some 21, _, _, _, _, _⟩) (v := ?_) rfl (by kernel_rfl) (by kernel_rfl) (by kernel_rfl) (fun _ _ _ h => h) (Or.inl ⟨by rfl, ?_⟩) (by assumption) ?_
        rotate_left
        · intro W hSw; go_simp; try (with_reducible rfl)
        try simp only [Act.put, List.setIfInBounds_toArray, List.set_cons_zero, List.set_cons_succ]
        refine wpAnyH_done (by kernel_rfl) ?_ _
        refine NoPanic.normal ?_
        clear hHeld
        go_upto_region 8 with fail
        refine wp_region_noPanic ?_
        refine wp_region_held_drew (S := fun W => Below w1.heap.size w1 W) (by kernel_rfl) (by exact hB.out.drew) (fun hHeld => ?_)
        have hBY : Hid (Below w1.heap.size w1 (World.drew X)) := Lib.hid hB.out.drew
        have hRY := Lib.hid (hRw.out.kept ((Below.refl _ _).drew : Below (World.heap X).size X (World.drew X)))
        clear hB hRw hbs
        generalize World.drew X = Y at *
        have hB := hBY
        have hRw := hRY
        have hbs := hB.out.size
        clear hBY hRY
        refine wpAnyH_take (i := 0) (oi := ⟨some 22, _, _, _, _, _⟩) (v := ?_) rfl (by kernel_rfl) (by kernel_rfl) (by kernel_rfl) (fun _ _ _ h => h) (Or.inl ⟨by rfl, ?_⟩) (by assumption) ?_
        rotate_left
        · intro W hSw; go_simp; try (with_reducible rfl)
        try simp only [Act.put, List.setIfInBounds_toArray, List.set_cons_zero, List.set_cons_succ]
        refine wpAnyH_take (i := 1) (oi := ⟨some 23, _, _, _, _, _⟩) (v := ?_) rfl (by kernel_rfl) (by kernel_rfl) (by kernel_rfl) (fun _ _ _ h => h) (Or.inl ⟨by rfl, ?_⟩) (by assumption) ?_
        rotate_left
        · intro W hSw; go_simp; try (with_reducible rfl)
        try simp only [Act.put, List.setIfInBounds_toArray, List.set_cons_zero, List.set_cons_succ]
        refine wpAnyH_take (i := 2) (oi := ⟨some 24, _, _, _, _, _⟩) (v := ?_) rfl (by kernel_rfl) (by kernel_rfl) (by kernel_rfl) (fun _ _ _ h => h) (Or.inl ⟨by rfl, ?_⟩) (by assumption) ?_
        rotate_left
        · intro W hSw; have p0 := (R1.out.below hSw R1.out.lt).cell (i := 0) rfl; go_simp; try (with_reducible rfl)
        try simp only [Act.put, List.setIfInBounds_toArray, List.set_cons_zero, List.set_cons_succ]
        refine wpAnyH_take (i := 3) (oi := ⟨some 25, _, _, _, _, _⟩) (v := ?_) rfl (by kernel_rfl) (by kernel_rfl) (by kernel_rfl) (fun _ _ _ h => h) (Or.inl ⟨by rfl, ?_⟩) (by assumption) ?_
        rotate_left
        · intro W hSw; go_simp; try (with_reducible rfl)
        try simp only [Act.put, List.setIfInBounds_toArray, List.set_cons_zero, List.set_cons_succ]
        refine wpAnyH_take (i := 4) (oi := ⟨some 26, _, _, _, _, _⟩) (v := ?_) rfl (by kernel_rfl) (by kernel_rfl) (by kernel_rfl) (fun _ _ _ h => h) (Or.inl ⟨by rfl, ?_⟩) (by assumption) ?_
        rotate_left
        · intro W hSw; go_simp; try (with_reducible rfl)
        try simp only [Act.put, List.setIfInBounds_toArray, List.set_cons_zero, List.set_cons_succ]
        refine wpAnyH_take (i := 5) (oi := ⟨some 27, _, _, _, _, _⟩) (v := ?_) rfl (by kernel_rfl) (by kernel_rfl) (by kernel_rfl) (fun _ _ _ h => h) (Or.inl ⟨by rfl, ?_⟩) (by assumption) ?_
        rotate_left
        · intro W hSw; go_simp; try (with_reducible rfl)
        try simp only [Act.put, List.setIfInBounds_toArray, List.set_cons_zero, List.set_cons_succ]
        refine wpAnyH_take (i := 6) (oi := ⟨some 28, _, _, _, _, _⟩) (v := ?_) rfl (by kernel_rfl) (by kernel_rfl) (by kernel_rfl) (fun _ _ _ h => h) (Or.inl ⟨by rfl, ?_⟩) (by assumption) ?_
        rotate_left
        · intro W hSw; go_simp; try (with_reducible rfl)
        try simp only [Act.put, List.setIfInBounds_toArray, List.set_cons_zero, List.set_cons_succ]
        refine wpAnyH_take (i := 7) (oi := ⟨some 29, _, _, _, _, _⟩) (v := ?_) rfl (by kernel_rfl) (by kernel_rfl) (by kernel_rfl) (fun _ _ _ h => h) (Or.inl ⟨by rfl, ?_⟩) (by assumption) ?_
        rotate_left
        · intro W hSw; have q1 := (Below.cell (p := ⟨b1, off1 + j * 2 + 1, none⟩) hSw hbl1).trans HC1.out; go_simp; try (with_reducible rfl)
        try simp only [Act.put, List.setIfInBounds_toArray, List.set_cons_zero, List.set_cons_succ]
        refine wpAnyH_take (i := 8) (oi := ⟨some 30, _, _, _, _, _⟩) (v := ?_) rfl (by kernel_rfl) (by kernel_rfl) (by kernel_rfl) (fun _ _ _ h => h) (Or.inl ⟨by rfl, ?_⟩) (by assumption) ?_
        rotate_left
        · intro W hSw; go_simp; try (with_reducible rfl)
        try simp only [Act.put, List.setIfInBounds_toArray, List.set_cons_zero, List.set_cons_succ]
        refine wpAnyH_take (i := 9) (oi := ⟨some 31, _, _, _, _, _⟩) (v := ?_) rfl (by kernel_rfl) (by kernel_rfl) (by kernel_rfl) (fun _ _ _ h => h) (Or.inl ⟨by rfl, ?_⟩) (by assumption) ?_
        rotate_left
        · intro W hSw; have p1 := (R1.out.below hSw R1.out.lt).cell (i := 1) rfl; go_simp; try (with_reducible rfl)
        try simp only [Act.put, List.setIfInBounds_toArray, List.set_cons_zero, List.set_cons_succ]
        have hTxY := HTx.out Y hB.out
        refine wpAnyH_ready (rs := [10]) (by kernel_rfl) (by simp) ?_
        refine AllReadyH.cons (o := ⟨some 32, _, _, _, _, _⟩) rfl (fun K hK => ?_) AllReadyH.nil
        go_simp
        (go_at_call 37; (with_reducible refine hTxY.mono ?_); rintro e Z ⟨A5, c5, rfl, hTx, hcp, hcp2, hbz⟩)
        try go_wp2_with fail
        have hBZ := Lib.hid (hB.out.trans (hbz.mono hbs))
        have hRZ := Lib.hid (hRw.out.kept hbz)
        have hTA : Hid (TxF (fun b => nA A b ∧ (G0 b ∨ w.heap.size ≤ b)) Z A5 (insT xv p.2)) := Lib.hid (hTx.kept (Nat.le_refl _) (fun _ _ _ => rfl) (fun y hf _ => ⟨fun e => by
          have h1 := hRw.out.lt _ e
          rcases hf with h2 | h2 <;> omega, by
          rcases hf with h2 | h2
          · rw [h2]; exact .inl HG2.out
          · exact .inr (by omega)⟩))
        have hpl : ∃ b off, A5 = some ⟨b, off, none⟩ := by
          obtain ⟨b', off', e, _⟩ := hTx 0 (List.length_pos_iff.2 (insT_ne xv p.2))
          exact ⟨b', off', e⟩
        have hV : Hid (VOk (insT xv p.2) (A5, c5)) := Lib.hid ⟨hpl, hcp, hcp2⟩
        refine hK.out _ _ hBZ.out (fun hHeld => ?_)
        clear hK K hTx hcp hcp2 hpl hTxY
        have hZs := hBZ.out.size
        generalize (insT xv p.2) = iv at *
        obtain ⟨k5, hk5⟩ : ∃ k, iv.length = k := ⟨_, rfl⟩
        simp only [hk5]
        have HK5 := Lib.hid hk5
        clear hk5
        try simp only [Act.put, List.setIfInBounds_toArray, List.set_cons_zero, List.set_cons_succ]
        refine wpAnyH_take (i := 11) (oi := ⟨some 33, _, _, _, _, _⟩) (v := ?_) rfl (by kernel_rfl) (by kernel_rfl) (by kernel_rfl) (fun _ _ _ h => h) (Or.inl ⟨by rfl, ?_⟩) (by assumption) ?_
        rotate_left
        · intro W hSw; go_simp; try (with_reducible rfl)
        try simp only [Act.put, List.setIfInBounds_toArray, List.set_cons_zero, List.set_cons_succ]
        refine wpAnyH_ready (rs := [12]) (by kernel_rfl) (by simp) ?_
        refine AllReadyH.cons (o := ⟨some 34, _, _, _, _, _⟩) rfl (fun K hK => ?_) AllReadyH.nil
        go_simp
        have hl6 : Blk (World.alloc Z (.cells #[.string P1, .slice A5 k5 c5] 38)) (World.heap Z).size [.string P1, .slice A5 k5 c5] 38 := Blk.new Z [.string P1, .slice A5 k5 c5] 38
        have hb6 := (Below.refl (World.heap Z).size Z).alloc (Nat.le_refl _) (.cells #[.string P1, .slice A5 k5 c5] 38)
        have hB6 := Lib.hid (hBZ.out.trans (hb6.mono hZs))
        have hR6 := Lib.hid (hRZ.out.kept hb6)
        have hT6 := Lib.hid (hTA.out.kept hb6.size (fun b _ hlt => hb6.block b hlt) (fun b hf _ => hf))
        refine hK.out _ _ hB6.out (fun hHeld => ?_)
        clear hK K hb6 hBZ hRZ hTA hZs
        generalize World.alloc Z (.cells #[.string P1, .slice A5 k5 c5] 38) = Z1 at *
        generalize (World.heap Z).size = g6 at *
        try simp only [Act.put, List.setIfInBounds_toArray, List.set_cons_zero, List.set_cons_succ]
        refine wpAnyH_ready (rs := [13]) (by kernel_rfl) (by simp) ?_
        refine AllReadyH.cons (o := ⟨some 35, _, _, _, _, _⟩) rfl (fun K hK => ?_) AllReadyH.nil
        have hl7 : Blk Z1 g6 [.string (T p.1), .slice ((A5, c5) : Option Addr × Nat).1 iv.length ((A5, c5) : Option Addr × Nat).2] 38 := by rw [HP1.out, HK5.out]; exact hl6
        obtain ⟨A6, c6, Z2, hr, hR7, hg⟩ := hR6.out.app 36 (v := (A5, c5)) hl7 hV.out hT6.out (by omega)
        have hB7 := Lib.hid (hB6.out.grown hg hB6.out.size (fun z hz => (hR6.out.lt z hz).1))
        have HR6 := Lib.hid hR7
        refine step_append_run (o := ⟨some 35, _, _, _, _, _⟩) rfl (.tmp 22) (.tmp 34) 36 rfl _ _ rfl rfl _ _ hr ?_
        refine hK.out _ _ hB7.out (fun hHeld => ?_)
        clear hK K hr hg hR7 hl6 hl7 hB6 hR6 hT6 hV
        try simp only [Act.put, List.setIfInBounds_toArray, List.set_cons_zero, List.set_cons_succ]
        refine wpAnyH_take (i := 14) (oi := ⟨some 5, _, _, _, _, _⟩) (v := ?_) rfl (by kernel_rfl) (by kernel_rfl) (by kernel_rfl) (fun _ _ _ h => h) (Or.inl ⟨by rfl, ?_⟩) (by assumption) ?_
        rotate_left
        · intro W hSw; go_simp; try (with_reducible rfl)
        try simp only [Act.put, List.setIfInBounds_toArray, List.set_cons_zero, List.set_cons_succ]
        refine wpAnyH_done (by kernel_rfl) ?_ _
        refine NoPanic.normal ?_
        clear hHeld
        have HB6 := hB7
        go_wp2_with fail
        go_round
        case rel => exact ⟨j + 1, n + 1, c6, A6, true, _, by omega, by go_num, rfl, rfl, by omega, HFj, HR6, HB6⟩
        case measure => simp [intOf]; omega
      · rw [decide_eq_false hx] at heq
        go_upto_region 6 with fail
        refine wp_region_noPanic ?_
        refine wp_region_held_drew (S := fun W => Below w1.heap.size w1 W) (by kernel_rfl) (by exact hB.out.drew) (fun hHeld => ?_)
        have hBX : Hid (Below w1.heap.size w1 (World.drew wr)) := Lib.hid hB.out.drew
        have hRX := Lib.hid (hRw.out.kept ((Below.refl _ _).drew : Below (World.heap wr).size wr (World.drew wr)))
        clear hB hRw hbs
        generalize World.drew wr = X at *
        have hB := hBX
        have hRw := hRX
        have hbs := hB.out.size
        clear hBX hRX
        refine wpAnyH_take (i := 0) (oi := ⟨some 14, _, _, _, _, _⟩) (v := ?_) rfl (by kernel_rfl) (by kernel_rfl) (by kernel_rfl) (fun _ _ _ h => h) (Or.inl ⟨by rfl, ?_⟩) (by assumption) ?_
        rotate_left
        · intro W hSw; go_simp; try (with_reducible rfl)
        try simp only [Act.put, List.setIfInBounds_toArray, List.set_cons_zero, List.set_cons_succ]
        refine wpAnyH_take (i := 1) (oi := ⟨some 15, _, _, _, _, _⟩) (v := ?_) rfl (by kernel_rfl) (by kernel_rfl) (by kernel_rfl) (fun _ _ _ h => h) (Or.inl ⟨by rfl, ?_⟩) (by assumption) ?_
        rotate_left
        · intro W hSw; go_simp; try (with_reducible rfl)
        try simp only [Act.put, List.setIfInBounds_toArray, List.set_cons_zero, List.set_cons_succ]
        refine wpAnyH_take (i := 2) (oi := ⟨some 16, _, _, _, _, _⟩) (v := ?_) rfl (by kernel_rfl) (by kernel_rfl) (by kernel_rfl) (fun _ _ _ h => h) (Or.inl ⟨by rfl, ?_⟩) (by assumption) ?_
        rotate_left
        · intro W hSw; go_simp; try (with_reducible rfl)
        try simp only [Act.put, List.setIfInBounds_toArray, List.set_cons_zero, List.set_cons_succ]
        refine wpAnyH_take (i := 3) (oi := ⟨some 17, _, _, _, _, _⟩) (v := ?_) rfl (by kernel_rfl) (by kernel_rfl) (by kernel_rfl) (fun _ _ _ h => h) (Or.inl ⟨by rfl, ?_⟩) (by assumption) ?_
        rotate_left
        · intro W hSw; go_simp; try (with_reducible rfl)
        try simp only [Act.put, List.setIfInBounds_toArray, List.set_cons_zero, List.set_cons_succ]
        refine wpAnyH_take (i := 4) (oi := ⟨some 18, _, _, _, _, _⟩) (v := ?_) rfl (by kernel_rfl) (by kernel_rfl) (by kernel_rfl) (fun _ _ _ h => h) (Or.inl ⟨by rfl, ?_⟩) (by assumption) ?_
        rotate_left
        · intro W hSw; have q0 := (Below.cell (p := ⟨b1, off1 + j * 2, none⟩) hSw hbl1).trans HC0.out; go_simp; try (with_reducible rfl)
        try simp only [Act.put, List.setIfInBounds_toArray, List.set_cons_zero, List.set_cons_succ]
        refine wpAnyH_take (i := 5) (oi := ⟨some 19, _, _, _, _, _⟩) (v := ?_) rfl (by kernel_rfl) (by kernel_rfl) (by kernel_rfl) (fun _ _ _ h => h) (Or.inl ⟨by rfl, ?_⟩) (by assumption) ?_
        rotate_left
        · intro W hSw; go_simp; try (with_reducible rfl)
        try simp only [Act.put, List.setIfInBounds_toArray, List.set_cons_zero, List.set_cons_succ]
        refine wpAnyH_take (i := 6) (oi := ⟨some 20, _, _, _, _, _⟩) (v := ?_) rfl (by kernel_rfl) (by kernel_rfl) (by kernel_rfl) (fun _ _ _ h => h) (Or.inl ⟨by rfl, ?_⟩) (by assumption) ?_
        rotate_left
        · intro W hSw; have p0 := (R1.out.below hSw R1.out.lt).cell (i := 0) rfl; go_simp; try (with_reducible rfl)
        try simp only [Act.put, List.setIfInBounds_toArray, List.set_cons_zero, List.set_cons_succ]
        refine wpAnyH_take (i := 7) (oi := ⟨some 21, _, _, _, _, _⟩) (v := ?_) rfl (by kernel_rfl) (by kernel_rfl) (by kernel_rfl) (fun _ _ _ h => h) (Or.inl ⟨by rfl, ?_⟩) (by assumption) ?_
        rotate_left
        · intro W hSw; go_simp; try (with_reducible rfl)
        try simp only [Act.put, List.setIfInBounds_toArray, List.set_cons_zero, List.set_cons_succ]
        refine wpAnyH_done (by kernel_rfl) ?_ _
        refine NoPanic.normal ?_
        clear hHeld
        go_upto_region 9 with fail
        cases inn with
        | true =>
          have HN := Lib.hid (show stA p (r, true) (xn, xv) = (r ++ [(xn, xv)], true) by unfold stA; rw [if_neg hx, if_neg (fun h => by cases h.1)])
          rw [HN.out] at HFj
          clear hx HN
          refine wp_region_noPanic ?_
          refine wp_region_held_drew (S := fun W => Below w1.heap.size w1 W) (by kernel_rfl) (by exact hB.out.drew) (fun hHeld => ?_)
          have hBY : Hid (Below w1.heap.size w1 (World.drew X)) := Lib.hid hB.out.drew
          have hRY := Lib.hid (hRw.out.kept ((Below.refl _ _).drew : Below (World.heap X).size X (World.drew X)))
          clear hB hRw hbs
          generalize World.drew X = Y at *
          have hB := hBY
          have hRw := hRY
          have hbs := hB.out.size
          clear hBY hRY
          refine wpAnyH_take (i := 0) (oi := ⟨some 36, _, _, _, _, _⟩) (v := ?_) rfl (by kernel_rfl) (by kernel_rfl) (by kernel_rfl) (fun _ _ _ h => h) (Or.inl ⟨by rfl, ?_⟩) (by assumption) ?_
          rotate_left
          · intro W hSw; go_simp; try (with_reducible rfl)
          try simp only [Act.put, List.setIfInBounds_toArray, List.set_cons_zero, List.set_cons_succ]
          refine wpAnyH_take (i := 1) (oi := ⟨some 37, _, _, _, _, _⟩) (v := ?_) rfl (by kernel_rfl) (by kernel_rfl) (by kernel_rfl) (fun _ _ _ h => h) (Or.inl ⟨by rfl, ?_⟩) (by assumption) ?_
          rotate_left
          · intro W hSw; go_simp; try (with_reducible rfl)
          try simp only [Act.put, List.setIfInBounds_toArray, List.set_cons_zero, List.set_cons_succ]
          refine wpAnyH_take (i := 2) (oi := ⟨some 38, _, _, _, _, _⟩) (v := ?_) rfl (by kernel_rfl) (by kernel_rfl) (by kernel_rfl) (fun _ _ _ h => h) (Or.inl ⟨by rfl, ?_⟩) (by assumption) ?_
          rotate_left
          · intro W hSw; go_simp; try (with_reducible rfl)
          try simp only [Act.put, List.setIfInBounds_toArray, List.set_cons_zero, List.set_cons_succ]
          refine wpAnyH_take (i := 3) (oi := ⟨some 39, _, _, _, _, _⟩) (v := undef) rfl (by kernel_rfl) (by kernel_rfl) (by kernel_rfl) (fun _ _ _ h => h) (Or.inr ⟨by rfl, rfl⟩) (by assumption) ?_
          try simp only [Act.put, List.setIfInBounds_toArray, List.set_cons_zero, List.set_cons_succ]
          refine wpAnyH_take (i := 4) (oi := ⟨some 40, _, _, _, _, _⟩) (v := undef) rfl (by kernel_rfl) (by kernel_rfl) (by kernel_rfl) (fun _ _ _ h => h) (Or.inr ⟨by rfl, rfl⟩) (by assumption) ?_
          try simp only [Act.put, List.setIfInBounds_toArray, List.set_cons_zero, List.set_cons_succ]
          refine wpAnyH_take (i := 5) (oi := ⟨some 41, _, _, _, _, _⟩) (v := undef) rfl (by kernel_rfl) (by kernel_rfl) (by kernel_rfl) (fun _ _ _ h => h) (Or.inr ⟨by rfl, rfl⟩) (by assumption) ?_
          try simp only [Act.put, List.setIfInBounds_toArray, List.set_cons_zero, List.set_cons_succ]
          refine wpAnyH_take (i := 6) (oi := ⟨some 42, _, _, _, _, _⟩) (v := undef) rfl (by kernel_rfl) (by kernel_rfl) (by kernel_rfl) (fun _ _ _ h => h) (Or.inr ⟨by rfl, rfl⟩) (by assumption) ?_
          try simp only [Act.put, List.setIfInBounds_toArray, List.set_cons_zero, List.set_cons_succ]
          refine wpAnyH_take (i := 7) (oi := ⟨some 43, _, _, _, _, _⟩) (v := undef) rfl (by kernel_rfl) (by kernel_rfl) (by kernel_rfl) (fun _ _ _ h => h) (Or.inr ⟨by rfl, rfl⟩) (by assumption) ?_
          try simp only [Act.put, List.setIfInBounds_toArray, List.set_cons_zero, List.set_cons_succ]
          refine wpAnyH_take (i := 8) (oi := ⟨some 44, _, _, _, _, _⟩) (v := undef) rfl (by kernel_rfl) (by kernel_rfl) (by kernel_rfl) (fun _ _ _ h => h) (Or.inr ⟨by rfl, rfl⟩) (by assumption) ?_
          try simp only [Act.put, List.setIfInBounds_toArray, List.set_cons_zero, List.set_cons_succ]
          refine wpAnyH_take (i := 9) (oi := ⟨some 45, _, _, _, _, _⟩) (v := undef) rfl (by kernel_rfl) (by kernel_rfl) (by kernel_rfl) (fun _ _ _ h => h) (Or.inr ⟨by rfl, rfl⟩) (by assumption) ?_
          try simp only [Act.put, List.setIfInBounds_toArray, List.set_cons_zero, List.set_cons_succ]
          refine wpAnyH_take (i := 10) (oi := ⟨some 46, _, _, _, _, _⟩) (v := undef) rfl (by kernel_rfl) (by kernel_rfl) (by kernel_rfl) (fun _ _ _ h => h) (Or.inr ⟨by rfl, rfl⟩) (by assumption) ?_
          try simp only [Act.put, List.setIfInBounds_toArray, List.set_cons_zero, List.set_cons_succ]
          refine wpAnyH_take (i := 11) (oi := ⟨some 47, _, _, _, _, _⟩) (v := ?_) rfl (by kernel_rfl) (by kernel_rfl) (by kernel_rfl) (fun _ _ _ h => h) (Or.inl ⟨by rfl, ?_⟩) (by assumption) ?_
          rotate_left
          · intro W hSw; go_simp; try (with_reducible rfl)
          try simp only [Act.put, List.setIfInBounds_toArray, List.set_cons_zero, List.set_cons_succ]
          refine wpAnyH_done (by kernel_rfl) ?_ _
          refine NoPanic.normal ?_
          clear hHeld
          obtain ⟨A6, c6, Z2, hr, hR7, hb7⟩ := hRw.out.app_old (a := (xn, xv)) (by omega) hbs (HTF.out.kept hbs (fun b _ hlt => hB.out.block b hlt) (fun b hf _ => hf)) (by rw [HNV.out]; exact HCap.out.1) HCap.out.2
          dsimp only at hr
          rw [HE1.out, HNV.out] at hr
          have HR2 := Lib.hid hr
          have HR6 := Lib.hid hR7
          have HB6 := Lib.hid (hB.out.trans hb7)
          have q0 := (Below.cell (p := ⟨b1, off1 + j * 2, none⟩) hB.out hbl1).trans HC0.out
          have q1 := (Below.cell (p := ⟨b1, off1 + j * 2 + 1, none⟩) hB.out hbl1).trans HC1.out
          clear hr hR7 hb7 hB hRw hbs
          go_wp2_with ((with_reducible apply at_slot 63); refine wpList_append_run rfl (.tmp 57) (.tmp 62) 36 rfl _ _ rfl rfl _ _ HR2.out ?_)
          go_round
          case rel => exact ⟨j + 1, n + 1, c6, A6, true, _, by omega, by go_num, rfl, rfl, by omega, HFj, HR6, HB6⟩
          case measure => simp [intOf]; omega
        | false =>
          cases hz : ltL p.1 xn with
          | true =>
            have HN := Lib.hid (show stA p (r, false) (xn, xv) = (r ++ [(p.1, [p.2])] ++ [(xn, xv)], true) by unfold stA; rw [if_neg hx, if_pos ⟨rfl, hz⟩])
            rw [HN.out] at HFj
            have hgt := HG.out true (by rw [ltL_asymm _ _ hz, decide_eq_false hx]; rfl)
            clear hx HN hz
            refine wp_region_noPanic ?_
            refine wp_region_held_drew (S := fun W => Below w1.heap.size w1 W) (by kernel_rfl) (by exact hB.out.drew) (fun hHeld => ?_)
            have hBY : Hid (Below w1.heap.size w1 (World.drew X)) := Lib.hid hB.out.drew
            have hRY := Lib.hid (hRw.out.kept ((Below.refl _ _).drew : Below (World.heap X).size X (World.drew X)))
            clear hB hRw hbs
            generalize World.drew X = Y at *
            have hB := hBY
            have hRw := hRY
            have hbs := hB.out.size
            clear hBY hRY
            refine wpAnyH_take (i := 0) (oi := ⟨some 36, _, _, _, _, _⟩) (v := ?_) rfl (by kernel_rfl) (by kernel_rfl) (by kernel_rfl) (fun _ _ _ h => h) (Or.inl ⟨by rfl, ?_⟩) (by assumption) ?_
            rotate_left
            · intro W hSw; go_simp; try (with_reducible rfl)
            try simp only [Act.put, List.setIfInBounds_toArray, List.set_cons_zero, List.set_cons_succ]
            refine wpAnyH_take (i := 1) (oi := ⟨some 37, _, _, _, _, _⟩) (v := ?_) rfl (by kernel_rfl) (by kernel_rfl) (by kernel_rfl) (fun _ _ _ h => h) (Or.inl ⟨by rfl, ?_⟩) (by assumption) ?_
            rotate_left
            · intro W hSw; go_simp; try (with_reducible rfl)
            try simp only [Act.put, List.setIfInBounds_toArray, List.set_cons_zero, List.set_cons_succ]
            refine wpAnyH_take (i := 2) (oi := ⟨some 38, _, _, _, _, _⟩) (v := ?_) rfl (by kernel_rfl) (by kernel_rfl) (by kernel_rfl) (fun _ _ _ h => h) (Or.inl ⟨by rfl, ?_⟩) (by assumption) ?_
            rotate_left
            · intro W hSw; go_simp; try (with_reducible rfl)
            try simp only [Act.put, List.setIfInBounds_toArray, List.set_cons_zero, List.set_cons_succ]
            refine wpAnyH_take (i := 3) (oi := ⟨some 39, _, _, _, _, _⟩) (v := ?_) rfl (by kernel_rfl) (by kernel_rfl) (by kernel_rfl) (fun _ _ _ h => h) (Or.inl ⟨by rfl, ?_⟩) (by assumption) ?_
            rotate_left
            · intro W hSw; go_simp; try (with_reducible rfl)
            try simp only [Act.put, List.setIfInBounds_toArray, List.set_cons_zero, List.set_cons_succ]
            refine wpAnyH_take (i := 4) (oi := ⟨some 40, _, _, _, _, _⟩) (v := ?_) rfl (by kernel_rfl) (by kernel_rfl) (by kernel_rfl) (fun _ _ _ h => h) (Or.inl ⟨by rfl, ?_⟩) (by assumption) ?_
            rotate_left
            · intro W hSw; go_simp; try (with_reducible rfl)
            try simp only [Act.put, List.setIfInBounds_toArray, List.set_cons_zero, List.set_cons_succ]
            refine wpAnyH_take (i := 5) (oi := ⟨some 41, _, _, _, _, _⟩) (v := ?_) rfl (by kernel_rfl) (by kernel_rfl) (by kernel_rfl) (fun _ _ _ h => h) (Or.inl ⟨by rfl, ?_⟩) (by assumption) ?_
            rotate_left
            · intro W hSw; go_simp; try (with_reducible rfl)
            try simp only [Act.put, List.setIfInBounds_toArray, List.set_cons_zero, List.set_cons_succ]
            refine wpAnyH_take (i := 6) (oi := ⟨some 42, _, _, _, _, _⟩) (v := ?_) rfl (by kernel_rfl) (by kernel_rfl) (by kernel_rfl) (fun _ _ _ h => h) (Or.inl ⟨by rfl, ?_⟩) (by assumption) ?_
            rotate_left
            · intro W hSw; go_simp; try (with_reducible rfl)
            try simp only [Act.put, List.setIfInBounds_toArray, List.set_cons_zero, List.set_cons_succ]
            refine wpAnyH_take (i := 7) (oi := ⟨some 43, _, _, _, _, _⟩) (v := ?_) rfl (by kernel_rfl) (by kernel_rfl) (by kernel_rfl) (fun _ _ _ h => h) (Or.inl ⟨by rfl, ?_⟩) (by assumption) ?_
            rotate_left
            · intro W hSw; have q0 := (Below.cell (p := ⟨b1, off1 + j * 2, none⟩) hSw hbl1).trans HC0.out; go_simp; try (with_reducible rfl)
            try simp only [Act.put, List.setIfInBounds_toArray, List.set_cons_zero, List.set_cons_succ]
            refine wpAnyH_take (i := 8) (oi := ⟨some 44, _, _, _, _, _⟩) (v := ?_) rfl (by kernel_rfl) (by kernel_rfl) (by kernel_rfl) (fun _ _ _ h => h) (Or.inl ⟨by rfl, ?_⟩) (by assumption) ?_
            rotate_left
            · intro W hSw; go_simp; try (with_reducible rfl)
            try simp only [Act.put, List.setIfInBounds_toArray, List.set_cons_zero, List.set_cons_succ]
            refine wpAnyH_take (i := 9) (oi := ⟨some 45, _, _, _, _, _⟩) (v := ?_) rfl (by kernel_rfl) (by kernel_rfl) (by kernel_rfl) (fun _ _ _ h => h) (Or.inl ⟨by rfl, ?_⟩) (by assumption) ?_
            rotate_left
            · intro W hSw; have p0 := (R1.out.below hSw R1.out.lt).cell (i := 0) rfl; go_simp; try (with_reducible rfl)
            try simp only [Act.put, List.setIfInBounds_toArray, List.set_cons_zero, List.set_cons_succ]
            refine wpAnyH_take (i := 10) (oi := ⟨some 46, _, _, _, _, _⟩) (v := ?_) rfl (by kernel_rfl) (by kernel_rfl) (by kernel_rfl) (fun _ _ _ h => h) (Or.inl ⟨by rfl, ?_⟩) (by assumption) ?_
            rotate_left
            · intro W hSw; go_simp; try (with_reducible rfl)
            try simp only [Act.put, List.setIfInBounds_toArray, List.set_cons_zero, List.set_cons_succ]
            refine wpAnyH_take (i := 11) (oi := ⟨some 47, _, _, _, _, _⟩) (v := ?_) rfl (by kernel_rfl) (by kernel_rfl) (by kernel_rfl) (fun _ _ _ h => h) (Or.inl ⟨by rfl, ?_⟩) (by assumption) ?_
            rotate_left
            · intro W hSw; go_simp; try (with_reducible rfl)
            try simp only [Act.put, List.setIfInBounds_toArray, List.set_cons_zero, List.set_cons_succ]
            refine wpAnyH_done (by kernel_rfl) ?_ _
            refine NoPanic.normal ?_
            clear hHeld
            obtain ⟨A4, c4, Z1, hr1, hR4, hb4⟩ := hRw.out.app_one (nm := p.1) (u := p.2) (fun b hb => .inr (by omega)) (by omega) hbs
            rw [HP1.out, HP2.out] at hr1
            have hB4 := hB.out.trans hb4
            have hbs4 := hB4.size
            obtain ⟨A6, c6, Z2, hr, hR7, hb7⟩ := hR4.app_old (a := (xn, xv)) (by omega) hbs4 (HTF.out.kept hbs4 (fun b _ hlt => hB4.block b hlt) (fun b hf _ => hf)) (by rw [HNV.out]; exact HCap.out.1) HCap.out.2
            dsimp only at hr
            rw [HE1.out, HNV.out] at hr
            have HR1 := Lib.hid hr1
            have HR2 := Lib.hid hr
            have HR6 := Lib.hid hR7
            have HB6 := Lib.hid (hB4.trans hb7)
            have p0 := (R1.out.below hB.out R1.out.lt).cell (i := 0) rfl
            have p1 := (R1.out.below hB.out R1.out.lt).cell (i := 1) rfl
            have q0 := (Below.cell (p := ⟨b1, off1 + j * 2, none⟩) hB4 hbl1).trans HC0.out
            have q1 := (Below.cell (p := ⟨b1, off1 + j * 2 + 1, none⟩) hB4 hbl1).trans HC1.out
            clear hr hr1 hR4 hR7 hb4 hb7 hB hB4 hRw hbs hbs4 hgt
            go_wp2_with (first
              | ((with_reducible apply at_slot 56); refine wpList_append_run rfl (.tmp 48) (.tmp 55) 36 rfl _ _ rfl rfl _ _ HR1.out ?_)
              | ((with_reducible apply at_slot 63); refine wpList_append_run rfl (.tmp 57) (.tmp 62) 36 rfl _ _ rfl rfl _ _ HR2.out ?_))
            go_round
            case rel => exact ⟨j + 1, n + 1 + 1, c6, A6, true, _, by omega, by go_num, rfl, by go_num, by omega, HFj, HR6, HB6⟩
            case measure => simp [intOf]; omega
          | false =>
            have HN := Lib.hid (show stA p (r, false) (xn, xv) = (r ++ [(xn, xv)], false) by unfold stA; rw [if_neg hx, if_neg (fun h => by rw [hz] at h; cases h.2)])
            rw [HN.out] at HFj
            have hgt := HG.out false (by
              cases hq : ltL xn p.1 with
              | true => rfl
              | false => exact absurd (ltL_total _ _ hq hz) hx)
            clear hx HN hz
            refine wp_region_noPanic ?_
            refine wp_region_held_drew (S := fun W => Below w1.heap.size w1 W) (by kernel_rfl) (by exact hB.out.drew) (fun hHeld => ?_)
            have hBY : Hid (Below w1.heap.size w1 (World.drew X)) := Lib.hid hB.out.drew
            have hRY := Lib.hid (hRw.out.kept ((Below.refl _ _).drew : Below (World.heap X).size X (World.drew X)))
            clear hB hRw hbs
            generalize World.drew X = Y at *
            have hB := hBY
            have hRw := hRY
            have hbs := hB.out.size
            clear hBY hRY
            refine wpAnyH_take (i := 0) (oi := ⟨some 36, _, _, _, _, _⟩) (v := ?_) rfl (by kernel_rfl) (by kernel_rfl) (by kernel_rfl) (fun _ _ _ h => h) (Or.inl ⟨by rfl, ?_⟩) (by assumption) ?_
            rotate_left
            · intro W hSw; go_simp; try (with_reducible rfl)
            try simp only [Act.put, List.setIfInBounds_toArray, List.set_cons_zero, List.set_cons_succ]
            refine wpAnyH_take (i := 1) (oi := ⟨some 37, _, _, _, _, _⟩) (v := ?_) rfl (by kernel_rfl) (by kernel_rfl) (by kernel_rfl) (fun _ _ _ h => h) (Or.inl ⟨by rfl, ?_⟩) (by assumption) ?_
            rotate_left
            · intro W hSw; go_simp; try (with_reducible rfl)
            try simp only [Act.put, List.setIfInBounds_toArray, List.set_cons_zero, List.set_cons_succ]
            refine wpAnyH_take (i := 2) (oi := ⟨some 38, _, _, _, _, _⟩) (v := ?_) rfl (by kernel_rfl) (by kernel_rfl) (by kernel_rfl) (fun _ _ _ h => h) (Or.inl ⟨by rfl, ?_⟩) (by assumption) ?_
            rotate_left
            · intro W hSw; go_simp; try (with_reducible rfl)
            try simp only [Act.put, List.setIfInBounds_toArray, List.set_cons_zero, List.set_cons_succ]
            refine wpAnyH_take (i := 3) (oi := ⟨some 39, _, _, _, _, _⟩) (v := ?_) rfl (by kernel_rfl) (by kernel_rfl) (by kernel_rfl) (fun _ _ _ h => h) (Or.inl ⟨by rfl, ?_⟩) (by assumption) ?_
            rotate_left
            · intro W hSw; go_simp; try (with_reducible rfl)
            try simp only [Act.put, List.setIfInBounds_toArray, List.set_cons_zero, List.set_cons_succ]
            refine wpAnyH_take (i := 4) (oi := ⟨some 40, _, _, _, _, _⟩) (v := ?_) rfl (by kernel_rfl) (by kernel_rfl) (by kernel_rfl) (fun _ _ _ h => h) (Or.inl ⟨by rfl, ?_⟩) (by assumption) ?_
            rotate_left
            · intro W hSw; go_simp; try (with_reducible rfl)
            try simp only [Act.put, List.setIfInBounds_toArray, List.set_cons_zero, List.set_cons_succ]
            refine wpAnyH_take (i := 5) (oi := ⟨some 41, _, _, _, _, _⟩) (v := ?_) rfl (by kernel_rfl) (by kernel_rfl) (by kernel_rfl) (fun _ _ _ h => h) (Or.inl ⟨by rfl, ?_⟩) (by assumption) ?_
            rotate_left
            · intro W hSw; go_simp; try (with_reducible rfl)
            try simp only [Act.put, List.setIfInBounds_toArray, List.set_cons_zero, List.set_cons_succ]
            refine wpAnyH_take (i := 6) (oi := ⟨some 42, _, _, _, _, _⟩) (v := ?_) rfl (by kernel_rfl) (by kernel_rfl) (by kernel_rfl) (fun _ _ _ h => h) (Or.inl ⟨by rfl, ?_⟩) (by assumption) ?_
            rotate_left
            · intro W hSw; go_simp; try (with_reducible rfl)
            try simp only [Act.put, List.setIfInBounds_toArray, List.set_cons_zero, List.set_cons_succ]
            refine wpAnyH_take (i := 7) (oi := ⟨some 43, _, _, _, _, _⟩) (v := ?_) rfl (by kernel_rfl) (by kernel_rfl) (by kernel_rfl) (fun _ _ _ h => h) (Or.inl ⟨by rfl, ?_⟩) (by assumption) ?_
            rotate_left
            · intro W hSw; have q0 := (Below.cell (p := ⟨b1, off1 + j * 2, none⟩) hSw hbl1).trans HC0.out; go_simp; try (with_reducible rfl)
            try simp only [Act.put, List.setIfInBounds_toArray, List.set_cons_zero, List.set_cons_succ]
            refine wpAnyH_take (i := 8) (oi := ⟨some 44, _, _, _, _, _⟩) (v := ?_) rfl (by kernel_rfl) (by kernel_rfl) (by kernel_rfl) (fun _ _ _ h => h) (Or.inl ⟨by rfl, ?_⟩) (by assumption) ?_
            rotate_left
            · intro W hSw; go_simp; try (with_reducible rfl)
            try simp only [Act.put, List.setIfInBounds_toArray, List.set_cons_zero, List.set_cons_succ]
            refine wpAnyH_take (i := 9) (oi := ⟨some 45, _, _, _, _, _⟩) (v := ?_) rfl (by kernel_rfl) (by kernel_rfl) (by kernel_rfl) (fun _ _ _ h => h) (Or.inl ⟨by rfl, ?_⟩) (by assumption) ?_
            rotate_left
            · intro W hSw; have p0 := (R1.out.below hSw R1.out.lt).cell (i := 0) rfl; go_simp; try (with_reducible rfl)
            try simp only [Act.put, List.setIfInBounds_toArray, List.set_cons_zero, List.set_cons_succ]
            refine wpAnyH_take (i := 10) (oi := ⟨some 46, _, _, _, _, _⟩) (v := ?_) rfl (by kernel_rfl) (by kernel_rfl) (by kernel_rfl) (fun _ _ _ h => h) (Or.inl ⟨by rfl, ?_⟩) (by assumption) ?_
            rotate_left
            · intro W hSw; go_simp; try (with_reducible rfl)
            try simp only [Act.put, List.setIfInBounds_toArray, List.set_cons_zero, List.set_cons_succ]
            refine wpAnyH_take (i := 11) (oi := ⟨some 47, _, _, _, _, _⟩) (v := ?_) rfl (by kernel_rfl) (by kernel_rfl) (by kernel_rfl) (fun _ _ _ h => h) (Or.inl ⟨by rfl, ?_⟩) (by assumption) ?_
            rotate_left
            · intro W hSw; go_simp; try (with_reducible rfl)
            try simp only [Act.put, List.setIfInBounds_toArray, List.set_cons_zero, List.set_cons_succ]
            refine wpAnyH_done (by kernel_rfl) ?_ _
            refine NoPanic.normal ?_
            clear hHeld
            obtain ⟨A6, c6, Z2, hr, hR7, hb7⟩ := hRw.out.app_old (a := (xn, xv)) (by omega) hbs (HTF.out.kept hbs (fun b _ hlt => hB.out.block b hlt) (fun b hf _ => hf)) (by rw [HNV.out]; exact HCap.out.1) HCap.out.2
            dsimp only at hr
            rw [HE1.out, HNV.out] at hr
            have HR2 := Lib.hid hr
            have HR6 := Lib.hid hR7
            have HB6 := Lib.hid (hB.out.trans hb7)
            have q0 := (Below.cell (p := ⟨b1, off1 + j * 2, none⟩) hB.out hbl1).trans HC0.out
            have q1 := (Below.cell (p := ⟨b1, off1 + j * 2 + 1, none⟩) hB.out hbl1).trans HC1.out
            clear hr hR7 hb7 hB hRw hbs hgt
            go_wp2_with ((with_reducible apply at_slot 63); refine wpList_append_run rfl (.tmp 57) (.tmp 62) 36 rfl _ _ rfl rfl _ _ HR2.out ?_)
            go_round
            case rel => exact ⟨j + 1, n + 1, c6, A6, false, _, by omega, by go_num, rfl, rfl, by omega, HFj, HR6, HB6⟩
            case measure => simp [intOf]; omega
    · have hjm : ¬ ((j : Int) < (m : Int)) := by omega
      have hfo := hF.out
      rw [List.take_of_length_le (by have := HL.out; omega)] at hfo
      have hfin := HFin.out
      rw [hfo, List.nil_append] at hfin
      have hnr := hRw.out.len
      cases inn with
      | true =>
        have HI := Lib.hid (show insA l p = r from hfin.symm)
        have HNR := Lib.hid hnr
        clear hfo hfin hnr hge
        go_wp2_with fail
        go_ret
        exact ⟨A, cc, by rw [HI.out, ← HNR.out]; rfl, by rw [HI.out, ← HNR.out]; exact hRw.out.base (Nat.le_of_lt hlt1), HB1.out.trans (hB.out.mono (Nat.le_of_lt hlt1))⟩
      | false =>
        have HI := Lib.hid (show insA l p = r ++ [(p.1, [p.2])] from hfin.symm)
        obtain ⟨A4, c4, Z1, hr1, hR4, hb4⟩ := hRw.out.app_one (nm := p.1) (u := p.2) (fun b hb => .inr (by omega)) (by omega) hbs
        rw [HP1.out, HP2.out] at hr1
        have HR1 := Lib.hid hr1
        have HR4 := Lib.hid hR4
        have HB4 := Lib.hid (hB.out.trans hb4)
        have HNR := Lib.hid (show (r ++ [(p.1, [p.2])]).length = n + 1 by simp [hnr])
        have p0 := (R1.out.below hB.out R1.out.lt).cell (i := 0) rfl
        have p1 := (R1.out.below hB.out R1.out.lt).cell (i := 1) rfl
        clear hfo hfin hnr hge hr1 hR4 hb4 hB hRw hbs
        go_wp2_with ((with_reducible apply at_slot 74); refine wpList_append_run rfl (.tmp 66) (.tmp 73) 36 rfl _ _ rfl rfl _ _ HR1.out ?_)
        go_ret
        exact ⟨A4, c4, by rw [HI.out, HNR.out]; rfl, by rw [HI.out, HNR.out]; exact HR4.out.base (Nat.le_of_lt hlt1), HB1.out.trans (HB4.out.mono (Nat.le_of_lt hlt1))⟩
end Go.Proofs.Ytpfkhcgeblihcaa.Udc
