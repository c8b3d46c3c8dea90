/-
  The walk of HashPieces: at any pieces and key the law returns true, and nothing that was there is written.
-/
import Derived.Test.YtmkpeidgimgdlaaSi
import Derived.Test.YtmkpeidgimgdlaaRows2
import Derived.Test.YtmkpeidgimgdlaaOwnM
namespace Go.Proofs.Ytmkpeidgimgdlaa.HashPiecesW
open Go.ChangeShapes Go.WideShapes Go.ChangeAt Go.RowKit
open Bytes8 Blk8 Own8 OwnM Rows2 LeNum LeA LeB Hm Ha Hb Hc Hd He Hf Sa Sb Sm Sc Sd Se Sf Sg Si
set_option linter.unusedVariables false

theorem sum_drew {w : World} {g : Nat} {key l : List Int} (h : SumAt w g key l) : SumAt w.drew g key l := ⟨h.1, h.2.drew⟩

set_option maxRecDepth 100000 in
theorem walk_long (a0 : Option Addr) (len0 cap0 : Nat) (K1 : Nat → Int) (w : World) (hlen : 30 < len0) :
    Calls Try.prog 4 #[.slice a0 len0 cap0, idV K1] w fun e w' => e = .returned (.bool true) ∧ Below w.heap.size w w' := by
  have hd : decide ((30 : Int) < (len0 : Int)) = true := by simp; omega
  go_enter Try.func4, Try.ntmps4
  go_wp2_with (go_at_call 11; (with_reducible refine (first_any _).mono ?_); rintro e w1 ⟨rfl, hbel⟩)
  go_ret
  exact ⟨rfl, ((Below.refl w.heap.size w).alloc (Nat.le_refl _) _).trans (hbel.mono (by simp))⟩

set_option maxRecDepth 100000 in
set_option maxHeartbeats 16000000 in
theorem walk_main (a0 : Option Addr) (len0 cap0 : Nat) (A L C P) (K1 : Nat → Int) (w : World) (hr : InRows w a0 len0 A L C P) (hk : IdOk K1) (h0 : len0 ≤ 30) :
    Calls Try.prog 4 #[.slice a0 len0 cap0, idV K1] w fun e w' => e = .returned (.bool true) ∧ Below w.heap.size w w' := by
  have hd : decide ((30 : Int) < (len0 : Int)) = false := by simp; omega
  have HR := Lib.hid hr
  have HK := Lib.hid (key_boxed w K1)
  have HN := Lib.hid ((Below.refl w.heap.size w).alloc (Nat.le_refl _) (idC 24 K1))
  have HNew := Lib.hid fun W n (hn : W.heap.size + 1 = n) => new_at K1 W n hn hk
  clear hr
  go_enter Try.func4, Try.ntmps4
  go_wp2_with (first
    | (go_at_call 11; (with_reducible refine (first_any _).mono ?_); rintro e w1 ⟨rfl, hbel⟩; have KR := HK.out.below hbel (by simp); have HK1 := Lib.hid KR; have g0 := KR.cell (i := 0) (v := .int .u8 (K1 0)) rfl; have g1 := KR.cell (i := 1) (v := .int .u8 (K1 1)) rfl; have g2 := KR.cell (i := 2) (v := .int .u8 (K1 2)) rfl; have g3 := KR.cell (i := 3) (v := .int .u8 (K1 3)) rfl; have g4 := KR.cell (i := 4) (v := .int .u8 (K1 4)) rfl; have g5 := KR.cell (i := 5) (v := .int .u8 (K1 5)) rfl; have g6 := KR.cell (i := 6) (v := .int .u8 (K1 6)) rfl; have g7 := KR.cell (i := 7) (v := .int .u8 (K1 7)) rfl; have g8 := KR.cell (i := 8) (v := .int .u8 (K1 8)) rfl; have g9 := KR.cell (i := 9) (v := .int .u8 (K1 9)) rfl; have g10 := KR.cell (i := 10) (v := .int .u8 (K1 10)) rfl; have g11 := KR.cell (i := 11) (v := .int .u8 (K1 11)) rfl; have g12 := KR.cell (i := 12) (v := .int .u8 (K1 12)) rfl; have g13 := KR.cell (i := 13) (v := .int .u8 (K1 13)) rfl; have g14 := KR.cell (i := 14) (v := .int .u8 (K1 14)) rfl; have g15 := KR.cell (i := 15) (v := .int .u8 (K1 15)) rfl; have N1 := Lib.hid (HN.out.trans (hbel.mono (by simp))); clear hbel KR)
    | (go_at_call 18; (with_reducible refine (HNew.out _ _ rfl).mono ?_); rintro e w2 ⟨rfl, hs2, hb2⟩; have HS2 := Lib.hid hs2; have HK2 := Lib.hid (HK1.out.below hb2 HK1.out.lt); have N2 := Lib.hid (N1.out.trans (hb2.mono N1.out.size)); clear hs2 hb2))
  obtain ⟨g, hg⟩ : ∃ g, w1.heap.size + 1 = g := ⟨_, rfl⟩
  have hg1 : w.heap.size < g := by have := HK1.out.lt; omega
  have hg2 : g < w2.heap.size := by rw [← hg]; exact HS2.out.2.lt
  rw [hg] at HS2 ⊢
  clear hg g0 g1 g2 g3 g4 g5 g6 g7 g8 g9 g10 g11 g12 g13 g14 g15
  go_loopw [7, 8] (fun v i wr => ∃ (k n : Nat) (A1 : Option Addr) (c : Nat), k ≤ len0 ∧ i = .int .i64 k ∧ v = .slice A1 n c ∧ n ≤ 30 * k ∧ Hid (SumAt wr g (idL K1) (flat P k)) ∧ Hid (Own wr w2.heap.size A1 n c (flat P k)) ∧ Hid (KeyAt wr w.heap.size K1) ∧ Hid (Below w.heap.size w wr) ∧ w2.heap.size ≤ wr.heap.size) (fun _ i _ => len0 - (intOf i).toNat)
  case atStart => exact ⟨0, 0, none, 0, Nat.zero_le _, rfl, rfl, by omega, HS2, Lib.hid (Own.nil _ _ (Nat.le_refl _)), HK2, N2, Nat.le_refl _⟩
  case round =>
    obtain ⟨k, n, A1, c, hkl, rfl, rfl, hn, hs, ho, hkey, hbel, hsz⟩ := hrel
    by_cases hlt : k < len0
    · have hd : decide (k < len0) = true := by simpa using hlt
      obtain ⟨b, off, rfl, hbl0, hc0, hbk0, hlk, hlc, hcm⟩ := HR.out k hlt
      have hc : wr.cell? ⟨b, off + k, none⟩ = some (.slice (A k) (L k) (C k)) := (hbel.out.cell (p := ⟨b, off + k, none⟩) hbl0).trans hc0
      have hbk := hbk0.below hbel.out (Nat.le_refl _)
      have hbl : b < wr.heap.size := Nat.lt_of_lt_of_le hbl0 hbel.out.size
      clear hc0
      have hF := flat_succ P k
      by_cases h30 : L k ≤ 30
      · have hd30 : decide ((30 : Int) < (L k : Int)) = false := by simp; omega
        have HBK := Lib.hid hbk
        have HBK0 := Lib.hid hbk0
        have HLK := Lib.hid hlk
        have HAdd := Lib.hid (add_any K1 g (A k) (flat P k) (P k) (L k) (C k) wr hs.out hbk hlk (by omega) (by
          intro hpos b' off' e
          obtain ⟨b2, off2, e2, hlt2, _⟩ := hbk0.spot (by omega)
          rw [e] at e2; injection e2 with e2; injection e2 with e2; omega))
        rw [← hF] at HAdd
        have HFE := Lib.hid hF
        have HFL := Lib.hid (show (flat P (k + 1)).length = n + L k by rw [hF, List.length_append, ho.out.2.1, hlk])
        have HV := Lib.hid fun W (h : SumAt W g (idL K1) (flat P (k + 1))) => value_any K1 g (flat P (k + 1)) W h
        have HS := Lib.hid fun A n' c W (h : Bytes W A (flat P (k + 1))) (hn' : (flat P (k + 1)).length = n') => sip_any K1 A (flat P (k + 1)) n' c W hk h hn' (by rw [← hn', HFL.out]; omega)
        have HOf := Lib.hid (show ∀ A n' c W, Bytes W A (flat P (k + 1)) → (flat P (k + 1)).length = n' → n' ≤ c → c ≤ maxLen → Calls Try.prog 16 #[.bool true, idV K1, .slice A n' c] W fun e w' => e = .returned (.int .u64 (sipS (idL K1) (flat P (k + 1)))) ∧ Below W.heap.size W w' from fun A n' c W h hn' h1 h2 => of_any true K1 A (flat P (k + 1)) n' c W hk h hn' (by rw [← hn', HFL.out]; omega) h1 h2)
        clear hbk hbk0 hlk hF
        generalize hFF : flat P (k + 1) = F at *
        have HFF := Lib.hid hFF
        clear hFF
        generalize sipS (idL K1) F = X at *
        generalize L k = lk at *
        generalize A k = ak at *
        generalize C k = ck at *
        have hrow := (HR.out.below hbel.out)
        go_wp2_with (first
          | (go_at_call 19; (with_reducible refine HAdd.out.mono ?_); rintro e w3 ⟨rfl, hs3, hg3⟩; go_loud (have S3 := Lib.hid hs3; have N3 := Lib.hid (below_own hbel.out hg3 hbel.out.size (by omega)); have hc3 : w3.cell? ⟨b, off + k, none⟩ = some (.slice ak lk ck) := (World.cell?_of_block (hg3.block b hbl (by intro e; injection e with e; omega))).trans hc; have Q3 := Lib.hid (own_grown ho.out hg3 hg2); have K3 := Lib.hid (blk_grown hkey.out hg3 (by omega)); have z3 := hg3.size; clear hs3 hg3))
          | (at_builtin; refine wpList_append_bytes rfl (.tmp 38) (.tmp 42) rfl w2.heap.size A1 n c (flat P k) rfl Q3.out ak lk ck (P k) rfl (HBK0.out.below N3.out (Nat.le_refl _)) HLK.out (by omega) ?_; intro A2 c2 w4 ho2 hbel2; rw [← HFE.out] at ho2; have hc4 := own_cap ho2; have HC4 := Lib.hid hc4; have Q5 := Lib.hid ho2.drew; have O5 := Lib.hid ho2.bytes.drew; have S5 := Lib.hid (sum_drew (sum_below S3.out hbel2 hg2)); have N5 := Lib.hid ((N3.out.trans (hbel2.mono (by omega))).drew); have R5 := Lib.hid ((K3.out.below hbel2 (by omega)).drew); have s5 := Lib.hid (key_range R5.out); have z4 := hbel2.size; clear ho2 hbel2 hc4))
        refine wp_region_noPanic ?_
        refine wp_region_held_drew (S := (fun w' => w'.rangeAt w.heap.size 0 [.int .u8 (K1 0), .int .u8 (K1 1), .int .u8 (K1 2), .int .u8 (K1 3), .int .u8 (K1 4), .int .u8 (K1 5), .int .u8 (K1 6), .int .u8 (K1 7), .int .u8 (K1 8), .int .u8 (K1 9), .int .u8 (K1 10), .int .u8 (K1 11), .int .u8 (K1 12), .int .u8 (K1 13), .int .u8 (K1 14), .int .u8 (K1 15)])) (by kernel_rfl) (by exact s5.out) (fun hHeld => ?_)
        refine wpAnyH_take (i := 0) (oi := ⟨some 44, _, _, _, _, _⟩) (v := ?_) rfl (by kernel_rfl) (by kernel_rfl) (by kernel_rfl) (fun _ _ _ h => h) (Or.inl ⟨by rfl, ?_⟩) (by assumption) ?_
        rotate_left
        · intro W hSw; go_simp; try (with_reducible rfl)
        try simp only [Act.put, List.setIfInBounds_toArray, List.set_cons_zero, List.set_cons_succ]
        refine wpAnyH_take (i := 2) (oi := ⟨some 46, _, _, _, _, _⟩) rfl (by kernel_rfl) (by kernel_rfl) (by kernel_rfl) (fun _ _ _ h => h) (yieldsIf_load_mid (by rfl) _ _ rfl _ _ rfl _ _ (fun _ h => h) under_id rfl size_id) (by assumption) ?_
        try simp only [Act.put, List.setIfInBounds_toArray, List.set_cons_zero, List.set_cons_succ]
        refine wpAnyH_take (i := 3) (oi := ⟨some 47, _, _, _, _, _⟩) (v := ?_) rfl (by kernel_rfl) (by kernel_rfl) (by kernel_rfl) (fun _ _ _ h => h) (Or.inl ⟨by rfl, ?_⟩) (by assumption) ?_
        rotate_left
        · intro W hSw; go_simp; try (with_reducible rfl)
        try simp only [Act.put, List.setIfInBounds_toArray, List.set_cons_zero, List.set_cons_succ]
        refine wpAnyH_ready (rs := [1]) (by kernel_rfl) (by simp) ?_
        refine AllReadyH.cons (o := ⟨some 45, _, _, _, _, _⟩) rfl (fun K hK => ?_) AllReadyH.nil
        go_simp
        ((with_reducible refine (HV.out _ S5.out).mono ?_); rintro e w6 ⟨rfl, hb6⟩; have S6 := Lib.hid (sum_below S5.out hb6 S5.out.2.lt); have O6 := Lib.hid (O5.out.below hb6 (Nat.le_refl _)); have R6 := Lib.hid (R5.out.below hb6 R5.out.lt); have s6 := Lib.hid (key_range R6.out); have Q6 := Lib.hid (Q5.out.kept hb6 (Nat.le_refl _)); have N6 := Lib.hid (N5.out.trans (hb6.mono N5.out.size)); clear hb6)
        try go_wp2_with fail
        refine hK.out _ _ (by exact s6.out) (fun hHeld => ?_)
        clear hK K
        try simp only [Act.put, List.setIfInBounds_toArray, List.set_cons_zero, List.set_cons_succ]
        refine wpAnyH_ready (rs := [4]) (by kernel_rfl) (by simp) ?_
        refine AllReadyH.cons (o := ⟨some 48, _, _, _, _, _⟩) rfl (fun K hK => ?_) AllReadyH.nil
        go_simp
        ((with_reducible refine (HS.out _ _ _ _ O6.out HFL.out).mono ?_); rintro e w7 ⟨rfl, hb7⟩; have S7 := Lib.hid (sum_below S6.out hb7 S6.out.2.lt); have O7 := Lib.hid (O6.out.below hb7 (Nat.le_refl _)); have R7 := Lib.hid (R6.out.below hb7 R6.out.lt); have s7 := Lib.hid (key_range R7.out); have Q7 := Lib.hid (Q6.out.kept hb7 (Nat.le_refl _)); have N7 := Lib.hid (N6.out.trans (hb7.mono N6.out.size)); clear hb7)
        try go_wp2_with fail
        refine hK.out _ _ (by exact s7.out) (fun hHeld => ?_)
        clear hK K
        try simp only [Act.put, List.setIfInBounds_toArray, List.set_cons_zero, List.set_cons_succ]
        refine wpAnyH_take (i := 5) (oi := ⟨some 49, _, _, _, _, _⟩) (v := ?_) rfl (by kernel_rfl) (by kernel_rfl) (by kernel_rfl) (fun _ _ _ h => h) (Or.inl ⟨by rfl, ?_⟩) (by assumption) ?_
        rotate_left
        · intro W hSw; go_simp; try (with_reducible rfl)
        try simp only [Act.put, List.setIfInBounds_toArray, List.set_cons_zero, List.set_cons_succ]
        refine wpAnyH_take (i := 6) (oi := ⟨some 50, _, _, _, _, _⟩) (v := ?_) rfl (by kernel_rfl) (by kernel_rfl) (by kernel_rfl) (fun _ _ _ h => h) (Or.inl ⟨by rfl, ?_⟩) (by assumption) ?_
        rotate_left
        · intro W hSw; go_simp; try (with_reducible rfl)
        try simp only [Act.put, List.setIfInBounds_toArray, List.set_cons_zero, List.set_cons_succ]
        refine wpAnyH_take (i := 7) (oi := ⟨some 51, _, _, _, _, _⟩) (v := ?_) rfl (by kernel_rfl) (by kernel_rfl) (by kernel_rfl) (fun _ _ _ h => h) (Or.inl ⟨by rfl, ?_⟩) (by assumption) ?_
        rotate_left
        · intro W hSw; go_simp; try (with_reducible rfl)
        try simp only [Act.put, List.setIfInBounds_toArray, List.set_cons_zero, List.set_cons_succ]
        refine wpAnyH_take (i := 9) (oi := ⟨some 53, _, _, _, _, _⟩) rfl (by kernel_rfl) (by kernel_rfl) (by kernel_rfl) (fun _ _ _ h => h) (yieldsIf_load_mid (by rfl) _ _ rfl _ _ rfl _ _ (fun _ h => h) under_id rfl size_id) (by assumption) ?_
        try simp only [Act.put, List.setIfInBounds_toArray, List.set_cons_zero, List.set_cons_succ]
        refine wpAnyH_take (i := 10) (oi := ⟨some 54, _, _, _, _, _⟩) (v := ?_) rfl (by kernel_rfl) (by kernel_rfl) (by kernel_rfl) (fun _ _ _ h => h) (Or.inl ⟨by rfl, ?_⟩) (by assumption) ?_
        rotate_left
        · intro W hSw; go_simp; try (with_reducible rfl)
        try simp only [Act.put, List.setIfInBounds_toArray, List.set_cons_zero, List.set_cons_succ]
        refine wpAnyH_ready (rs := [8]) (by kernel_rfl) (by simp) ?_
        refine AllReadyH.cons (o := ⟨some 52, _, _, _, _, _⟩) rfl (fun K hK => ?_) AllReadyH.nil
        go_simp
        ((with_reducible refine (HV.out _ S7.out).mono ?_); rintro e w8 ⟨rfl, hb8⟩; have S8 := Lib.hid (sum_below S7.out hb8 S7.out.2.lt); have O8 := Lib.hid (O7.out.below hb8 (Nat.le_refl _)); have R8 := Lib.hid (R7.out.below hb8 R7.out.lt); have s8 := Lib.hid (key_range R8.out); have Q8 := Lib.hid (Q7.out.kept hb8 (Nat.le_refl _)); have N8 := Lib.hid (N7.out.trans (hb8.mono N7.out.size)); clear hb8)
        try go_wp2_with fail
        refine hK.out _ _ (by exact s8.out) (fun hHeld => ?_)
        clear hK K
        try simp only [Act.put, List.setIfInBounds_toArray, List.set_cons_zero, List.set_cons_succ]
        refine wpAnyH_ready (rs := [11]) (by kernel_rfl) (by simp) ?_
        refine AllReadyH.cons (o := ⟨some 55, _, _, _, _, _⟩) rfl (fun K hK => ?_) AllReadyH.nil
        go_simp
        ((with_reducible refine (HOf.out _ _ _ _ O8.out HFL.out HC4.out.1 HC4.out.2).mono ?_); rintro e w9 ⟨rfl, hb9⟩; have S9 := Lib.hid (sum_below S8.out hb9 S8.out.2.lt); have O9 := Lib.hid (O8.out.below hb9 (Nat.le_refl _)); have R9 := Lib.hid (R8.out.below hb9 R8.out.lt); have s9 := Lib.hid (key_range R9.out); have Q9 := Lib.hid (Q8.out.kept hb9 (Nat.le_refl _)); have N9 := Lib.hid (N8.out.trans (hb9.mono N8.out.size)); clear hb9)
        try go_wp2_with fail
        refine hK.out _ _ (by exact s9.out) (fun hHeld => ?_)
        clear hK K
        try simp only [Act.put, List.setIfInBounds_toArray, List.set_cons_zero, List.set_cons_succ]
        refine wpAnyH_take (i := 12) (oi := ⟨some 56, _, _, _, _, _⟩) (v := ?_) rfl (by kernel_rfl) (by kernel_rfl) (by kernel_rfl) (fun _ _ _ h => h) (Or.inl ⟨by rfl, ?_⟩) (by assumption) ?_
        rotate_left
        · intro W hSw; go_simp; try (with_reducible rfl)
        try simp only [Act.put, List.setIfInBounds_toArray, List.set_cons_zero, List.set_cons_succ]
        refine wpAnyH_take (i := 13) (oi := ⟨some 57, _, _, _, _, _⟩) (v := ?_) rfl (by kernel_rfl) (by kernel_rfl) (by kernel_rfl) (fun _ _ _ h => h) (Or.inl ⟨by rfl, ?_⟩) (by assumption) ?_
        rotate_left
        · intro W hSw; go_simp; try (with_reducible rfl)
        try simp only [Act.put, List.setIfInBounds_toArray, List.set_cons_zero, List.set_cons_succ]
        refine wpAnyH_done (by kernel_rfl) ?_ _
        refine NoPanic.normal ?_
        go_wp2
        go_roundw
        case rel => exact ⟨k + 1, n + lk, A2, c2, by omega, by go_num, rfl, by omega, by rw [HFF.out]; exact S9, by rw [HFF.out]; exact Q9, R9, N9, by have := Q9.out.2.2.1; omega⟩
        case measure => simp [intOf]; omega
      · have hd30 : decide ((30 : Int) < (L k : Int)) = true := by simp; omega
        clear hbk hbk0 hlk hF
        generalize L k = lk at *
        generalize A k = ak at *
        generalize C k = ck at *
        go_wp2
        go_ret
        exact ⟨rfl, hbel.out⟩
    · obtain rfl : k = len0 := by omega
      have hd : decide (k < k) = false := by simp
      have HFL := Lib.hid ho.out.2.1
      have HV := Lib.hid fun W (h : SumAt W g (idL K1) (flat P k)) => value_any K1 g (flat P k) W h
      have HS := Lib.hid fun A n' c W (h : Bytes W A (flat P k)) (hn' : (flat P k).length = n') => sip_any K1 A (flat P k) n' c W hk h hn' (by rw [← hn', HFL.out]; omega)
      have S5 := Lib.hid (sum_drew hs.out)
      have Q5 := Lib.hid ho.out.drew
      have O5 := Lib.hid ho.out.bytes.drew
      have R5 := Lib.hid hkey.out.drew
      have s5 := Lib.hid (key_range R5.out)
      have N5 := Lib.hid hbel.out.drew
      generalize flat P k = F at *
      generalize sipS (idL K1) F = X at *
      clear hs ho hkey hbel
      go_wp2
      refine wp_region_noPanic ?_
      refine wp_region_held_drew (S := (fun w' => w'.rangeAt w.heap.size 0 [.int .u8 (K1 0), .int .u8 (K1 1), .int .u8 (K1 2), .int .u8 (K1 3), .int .u8 (K1 4), .int .u8 (K1 5), .int .u8 (K1 6), .int .u8 (K1 7), .int .u8 (K1 8), .int .u8 (K1 9), .int .u8 (K1 10), .int .u8 (K1 11), .int .u8 (K1 12), .int .u8 (K1 13), .int .u8 (K1 14), .int .u8 (K1 15)])) (by kernel_rfl) (by exact s5.out) (fun hHeld => ?_)
      refine wpAnyH_take (i := 0) (oi := ⟨some 58, _, _, _, _, _⟩) (v := ?_) rfl (by kernel_rfl) (by kernel_rfl) (by kernel_rfl) (fun _ _ _ h => h) (Or.inl ⟨by rfl, ?_⟩) (by assumption) ?_
      rotate_left
      · intro W hSw; go_simp; try (with_reducible rfl)
      try simp only [Act.put, List.setIfInBounds_toArray, List.set_cons_zero, List.set_cons_succ]
      refine wpAnyH_take (i := 1) (oi := ⟨some 59, _, _, _, _, _⟩) (v := ?_) rfl (by kernel_rfl) (by kernel_rfl) (by kernel_rfl) (fun _ _ _ h => h) (Or.inl ⟨by rfl, ?_⟩) (by assumption) ?_
      rotate_left
      · intro W hSw; go_simp; try (with_reducible rfl)
      try simp only [Act.put, List.setIfInBounds_toArray, List.set_cons_zero, List.set_cons_succ]
      refine wpAnyH_take (i := 2) (oi := ⟨some 60, _, _, _, _, _⟩) (v := ?_) rfl (by kernel_rfl) (by kernel_rfl) (by kernel_rfl) (fun _ _ _ h => h) (Or.inl ⟨by rfl, ?_⟩) (by assumption) ?_
      rotate_left
      · intro W hSw; go_simp; try (with_reducible rfl)
      try simp only [Act.put, List.setIfInBounds_toArray, List.set_cons_zero, List.set_cons_succ]
      refine wpAnyH_take (i := 4) (oi := ⟨some 62, _, _, _, _, _⟩) rfl (by kernel_rfl) (by kernel_rfl) (by kernel_rfl) (fun _ _ _ h => h) (yieldsIf_load_mid (by rfl) _ _ rfl _ _ rfl _ _ (fun _ h => h) under_id rfl size_id) (by assumption) ?_
      try simp only [Act.put, List.setIfInBounds_toArray, List.set_cons_zero, List.set_cons_succ]
      refine wpAnyH_take (i := 5) (oi := ⟨some 63, _, _, _, _, _⟩) (v := ?_) rfl (by kernel_rfl) (by kernel_rfl) (by kernel_rfl) (fun _ _ _ h => h) (Or.inl ⟨by rfl, ?_⟩) (by assumption) ?_
      rotate_left
      · intro W hSw; go_simp; try (with_reducible rfl)
      try simp only [Act.put, List.setIfInBounds_toArray, List.set_cons_zero, List.set_cons_succ]
      refine wpAnyH_ready (rs := [3]) (by kernel_rfl) (by simp) ?_
      refine AllReadyH.cons (o := ⟨some 61, _, _, _, _, _⟩) rfl (fun K hK => ?_) AllReadyH.nil
      go_simp
      ((with_reducible refine (HV.out _ S5.out).mono ?_); rintro e w6 ⟨rfl, hb6⟩; have S6 := Lib.hid (sum_below S5.out hb6 S5.out.2.lt); have O6 := Lib.hid (O5.out.below hb6 (Nat.le_refl _)); have R6 := Lib.hid (R5.out.below hb6 R5.out.lt); have s6 := Lib.hid (key_range R6.out); have Q6 := Lib.hid (Q5.out.kept hb6 (Nat.le_refl _)); have N6 := Lib.hid (N5.out.trans (hb6.mono N5.out.size)); clear hb6)
      try go_wp2_with fail
      refine hK.out _ _ (by exact s6.out) (fun hHeld => ?_)
      clear hK K
      try simp only [Act.put, List.setIfInBounds_toArray, List.set_cons_zero, List.set_cons_succ]
      refine wpAnyH_ready (rs := [6]) (by kernel_rfl) (by simp) ?_
      refine AllReadyH.cons (o := ⟨some 64, _, _, _, _, _⟩) rfl (fun K hK => ?_) AllReadyH.nil
      go_simp
      ((with_reducible refine (HS.out _ _ _ _ O6.out HFL.out).mono ?_); rintro e w7 ⟨rfl, hb7⟩; have S7 := Lib.hid (sum_below S6.out hb7 S6.out.2.lt); have O7 := Lib.hid (O6.out.below hb7 (Nat.le_refl _)); have R7 := Lib.hid (R6.out.below hb7 R6.out.lt); have s7 := Lib.hid (key_range R7.out); have Q7 := Lib.hid (Q6.out.kept hb7 (Nat.le_refl _)); have N7 := Lib.hid (N6.out.trans (hb7.mono N6.out.size)); clear hb7)
      try go_wp2_with fail
      refine hK.out _ _ (by exact s7.out) (fun hHeld => ?_)
      clear hK K
      try simp only [Act.put, List.setIfInBounds_toArray, List.set_cons_zero, List.set_cons_succ]
      refine wpAnyH_take (i := 7) (oi := ⟨some 65, _, _, _, _, _⟩) (v := ?_) rfl (by kernel_rfl) (by kernel_rfl) (by kernel_rfl) (fun _ _ _ h => h) (Or.inl ⟨by rfl, ?_⟩) (by assumption) ?_
      rotate_left
      · intro W hSw; go_simp; try (with_reducible rfl)
      try simp only [Act.put, List.setIfInBounds_toArray, List.set_cons_zero, List.set_cons_succ]
      refine wpAnyH_take (i := 8) (oi := ⟨some 66, _, _, _, _, _⟩) (v := ?_) rfl (by kernel_rfl) (by kernel_rfl) (by kernel_rfl) (fun _ _ _ h => h) (Or.inl ⟨by rfl, ?_⟩) (by assumption) ?_
      rotate_left
      · intro W hSw; go_simp; try (with_reducible rfl)
      try simp only [Act.put, List.setIfInBounds_toArray, List.set_cons_zero, List.set_cons_succ]
      refine wpAnyH_take (i := 9) (oi := ⟨some 4, _, _, _, _, _⟩) (v := ?_) rfl (by kernel_rfl) (by kernel_rfl) (by kernel_rfl) (fun _ _ _ h => h) (Or.inl ⟨by rfl, ?_⟩) (by assumption) ?_
      rotate_left
      · intro W hSw; go_simp; try (with_reducible rfl)
      try simp only [Act.put, List.setIfInBounds_toArray, List.set_cons_zero, List.set_cons_succ]
      refine wpAnyH_done (by kernel_rfl) ?_ _
      refine NoPanic.normal ?_
      go_wp2
      go_ret
      exact ⟨rfl, N7.out⟩

theorem walk (a0 : Option Addr) (len0 cap0 : Nat) (A0 : Nat → Option Addr) (L0 C0 : Nat → Nat) (Z0 : Nat → List Int) (K1 : Nat → Int) (w : World) (w0 : IsRows .u8 w a0 len0 cap0 A0 L0 C0 Z0) (w1 : IdOk K1) :
    Calls Try.prog 4 #[.slice a0 len0 cap0, idV K1] w fun e w' => e = .returned (.bool true) ∧ Below w.heap.size w w' := by
  obtain ⟨hr, _, _⟩ := rows_in w0
  by_cases h1 : 30 < len0
  · exact walk_long a0 len0 cap0 K1 w h1
  · exact walk_main a0 len0 cap0 A0 L0 C0 _ K1 w hr w1 (by omega)
end Go.Proofs.Ytmkpeidgimgdlaa.HashPiecesW
