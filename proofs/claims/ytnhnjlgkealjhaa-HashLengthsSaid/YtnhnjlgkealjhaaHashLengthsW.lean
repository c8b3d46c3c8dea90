/-
  The walk of HashLengths: at any number, key and byte the law returns true, and nothing that was there is written.
-/
import Derived.Test.YtnhnjlgkealjhaaSi
namespace Go.Proofs.Ytnhnjlgkealjhaa.HashLengthsW
open Go.ChangeShapes Go.WideShapes Go.ChangeAt Go.RowKit
open Bytes8 Blk8 Own8 Numb LeNum LeA LeB Hm Ha Hb Hc Hd He Hf Sa Sb Sm Sc Sd Se Sf Sg Si
set_option linter.unusedVariables false

theorem own_row {w : World} {g base n : Nat} {l : List Int} (h : Row w g l) (hA : AllB l) (hn : l.length = n) (hb : base ≤ g) (hm : n ≤ maxLen) : Own w base (some ⟨g, 0, none⟩) n n l := by
  subst hn
  exact ⟨hA, rfl, Nat.le_trans hb (Nat.le_of_lt h.lt), by simp, .inr ⟨g, l.length, _, rfl, hb, h, Nat.le_refl _, hm, by simp, by simp [List.take_of_length_le]⟩⟩
theorem own_cap {w : World} {base n c : Nat} {A : Option Addr} {l : List Int} (h : Own w base A n c l) : n ≤ c ∧ c ≤ maxLen := by
  rcases h.2.2.2.2 with ⟨he, h0⟩ | ⟨g, cap, cur, he, _, _, h1, h2, _⟩
  · injection he with e1 e2 e3; subst e3; omega
  · injection he with e1 e2 e3; subst e3; exact ⟨h1, h2⟩
theorem one_all (x : Int) (h0 : 0 ≤ x) (h1 : x < 256) : AllB [x] := fun n hn => by simp at hn; omega

set_option maxRecDepth 100000 in
set_option maxHeartbeats 8000000 in
theorem walk (a0 : Int) (K1 : Nat → Int) (a2 : Int) (w : World) (w0 : (Lit.int .i64 a0).wf = true) (hk : IdOk K1) (w2' : (Lit.int .u8 a2).wf = true) :
    Calls Try.prog 6 #[.int .i64 a0, idV K1, .int .u8 a2] w fun e w' => e = .returned (.bool true) ∧ Below w.heap.size w w' := by
  obtain ⟨v0, v1⟩ := bounds_u8 w2'
  obtain ⟨j, HJ, hj⟩ := below_nat a0 400 (by decide)
  have hj4 : j ≤ 400 := by omega
  have HZl := Lib.hid (show (List.replicate j (0 : Int)).length = j by simp)
  have HZa := Lib.hid (AllB.zeros j)
  have HCl := Lib.hid (show (List.replicate j (0 : Int) ++ [a2]).length = j + 1 by simp)
  have HOne := Lib.hid (one_all a2 v0 (by omega))
  have HR := Lib.hid (key_boxed w K1)
  have HN := Lib.hid ((Below.refl w.heap.size w).alloc (Nat.le_refl _) (idC 24 K1))
  have hmx : j ≤ maxLen := by unfold maxLen; omega
  have HMx := Lib.hid hmx
  clear hmx w2' w0 hj
  go_enter Try.func6, Try.ntmps6
  go_wp2_with (first
    | (go_at_call 7; (with_reducible refine (first_any _).mono ?_); rintro e w1 ⟨rfl, hbel⟩; have R1 := Lib.hid (HR.out.below hbel (by simp)); have N1 := Lib.hid (HN.out.trans (hbel.mono (by simp))); clear hbel)
    | (go_at_call 17; (with_reducible refine (number_nat a0 400 j _ (by decide) (by decide) HJ.out).mono ?_); rintro e w' ⟨rfl, rfl⟩)
    | (refine wpList_make_bytes _ rfl (.tmp 14) (.tmp 14) rfl .i64 .i64 j _ _ rfl rfl rfl rfl (by omega) ?_; intro w2 hrow2 hbel2; have HR2 := Lib.hid hrow2; have HB2 := Lib.hid hbel2; clear hrow2 hbel2)
    | (refine wpList_make_bytes _ rfl (.tmp 17) (.tmp 17) rfl .i64 .i64 j _ _ rfl rfl rfl rfl (by omega) ?_; intro w3 hrow3 hbel3; have HR3 := Lib.hid hrow3; have HB3 := Lib.hid hbel3; clear hrow3 hbel3)
    | (at_builtin; refine wpList_append_bytes rfl (.tmp 18) (.tmp 20) rfl w2.heap.size (some ⟨w2.heap.size, 0, none⟩) j j _ rfl ((own_row HR3.out (AllB.zeros j) (by simp) (Nat.le_refl _) HMx.out).alloc _) (some ⟨w3.heap.size, 0, none⟩) 1 1 [a2] rfl (Blk.bytes (l := [a2]) (T := 5) (Blk.new _ [.int .u8 a2] _) HOne.out) rfl (by omega) ?_; intro A5 c5 w5 ho5 hbel5; have HO5 := Lib.hid ho5; have HB5 := Lib.hid hbel5; clear ho5 hbel5))
  have hc5 := own_cap HO5.out
  have HL1 := Lib.hid fun W (h : Bytes W (some ⟨w1.heap.size, 0, none⟩) (List.replicate j 0)) => look_all _ _ j j W h HZl.out (by omega) (Nat.le_refl _) HMx.out
  have HL2 := Lib.hid fun W (h : Bytes W (some ⟨w1.heap.size, 0, none⟩) (List.replicate j 0)) => rlook_all _ _ j j W h HZl.out (by omega)
  have HS1 := Lib.hid fun W (h : Bytes W (some ⟨w1.heap.size, 0, none⟩) (List.replicate j 0)) => sip_any K1 _ _ j j W hk h HZl.out (by omega)
  have HS2 := Lib.hid fun W (h : Bytes W (some ⟨w1.heap.size, 0, none⟩) (List.replicate j 0)) => rsip_any K1 _ _ j j W hk h HZl.out (by omega)
  have HM1 := Lib.hid fun W (h : Bytes W A5 (List.replicate j 0 ++ [a2])) => look_all _ _ (j + 1) c5 W h HCl.out (by omega) hc5.1 hc5.2
  have HM2 := Lib.hid fun W (h : Bytes W A5 (List.replicate j 0 ++ [a2])) => rlook_all _ _ (j + 1) c5 W h HCl.out (by omega)
  have HT1 := Lib.hid fun W (h : Bytes W A5 (List.replicate j 0 ++ [a2])) => sip_any K1 _ _ (j + 1) c5 W hk h HCl.out (by omega)
  have HT2 := Lib.hid fun W (h : Bytes W A5 (List.replicate j 0 ++ [a2])) => rsip_any K1 _ _ (j + 1) c5 W hk h HCl.out (by omega)
  have q3 : Below w2.heap.size w2 w5 := (HB3.out.alloc HB3.out.size _).trans HB5.out
  have Z5 := Lib.hid (((HR2.out.bytes (AllB.zeros j)).below q3 (Nat.le_refl _)).drew)
  have C5 := Lib.hid (HO5.out.bytes.drew)
  have q2 : Below w1.heap.size w1 w5 := HB2.out.trans (q3.mono HB2.out.size)
  have R5 := Lib.hid ((R1.out.below q2 R1.out.lt).drew)
  have N5 := Lib.hid ((N1.out.trans (q2.mono N1.out.size)).drew)
  have s5 := Lib.hid (key_range R5.out)
  clear hc5 q3 q2 HR2 HR3 HB2 HB3 HB5 HO5 R1 N1
  refine wp_region_noPanic ?_
  refine wp_region_held_drew (S := (fun w' => w'.rangeAt w.heap.size 0 [.int .u8 (K1 0), .int .u8 (K1 1), .int .u8 (K1 2), .int .u8 (K1 3), .int .u8 (K1 4), .int .u8 (K1 5), .int .u8 (K1 6), .int .u8 (K1 7), .int .u8 (K1 8), .int .u8 (K1 9), .int .u8 (K1 10), .int .u8 (K1 11), .int .u8 (K1 12), .int .u8 (K1 13), .int .u8 (K1 14), .int .u8 (K1 15)])) (by kernel_rfl) (by exact s5.out) (fun hHeld => ?_)
  refine wpAnyH_take (i := 0) (oi := ⟨some 22, _, _, _, _, _⟩) (v := ?_) rfl (by kernel_rfl) (by kernel_rfl) (by kernel_rfl) (fun _ _ _ h => h) (Or.inl ⟨by rfl, ?_⟩) (by assumption) ?_
  rotate_left
  · intro W hSw; go_simp; try (with_reducible rfl)
  try simp only [Act.put, List.setIfInBounds_toArray, List.set_cons_zero, List.set_cons_succ]
  refine wpAnyH_take (i := 1) (oi := ⟨some 23, _, _, _, _, _⟩) (v := ?_) rfl (by kernel_rfl) (by kernel_rfl) (by kernel_rfl) (fun _ _ _ h => h) (Or.inl ⟨by rfl, ?_⟩) (by assumption) ?_
  rotate_left
  · intro W hSw; go_simp; try (with_reducible rfl)
  try simp only [Act.put, List.setIfInBounds_toArray, List.set_cons_zero, List.set_cons_succ]
  refine wpAnyH_take (i := 2) (oi := ⟨some 24, _, _, _, _, _⟩) (v := ?_) rfl (by kernel_rfl) (by kernel_rfl) (by kernel_rfl) (fun _ _ _ h => h) (Or.inl ⟨by rfl, ?_⟩) (by assumption) ?_
  rotate_left
  · intro W hSw; go_simp; try (with_reducible rfl)
  try simp only [Act.put, List.setIfInBounds_toArray, List.set_cons_zero, List.set_cons_succ]
  refine wpAnyH_take (i := 4) (oi := ⟨some 26, _, _, _, _, _⟩) (v := ?_) rfl (by kernel_rfl) (by kernel_rfl) (by kernel_rfl) (fun _ _ _ h => h) (Or.inl ⟨by rfl, ?_⟩) (by assumption) ?_
  rotate_left
  · intro W hSw; go_simp; try (with_reducible rfl)
  try simp only [Act.put, List.setIfInBounds_toArray, List.set_cons_zero, List.set_cons_succ]
  refine wpAnyH_ready (rs := [3]) (by kernel_rfl) (by simp) ?_
  refine AllReadyH.cons (o := ⟨some 25, _, _, _, _, _⟩) rfl (fun K hK => ?_) AllReadyH.nil
  go_simp
  ((with_reducible refine (HL1.out _ Z5.out).mono ?_); rintro e w6 ⟨rfl, hb6⟩; have Z6 := Lib.hid (Z5.out.below hb6 (Nat.le_refl _)); have C6 := Lib.hid (C5.out.below hb6 (Nat.le_refl _)); have R6 := Lib.hid (R5.out.below hb6 R5.out.lt); have s6 := Lib.hid (key_range R6.out); have N6 := Lib.hid (N5.out.trans (hb6.mono N5.out.size)); clear hb6)
  try go_wp2_with fail
  refine hK.out _ _ (by exact s6.out) (fun hHeld => ?_)
  clear hK K
  try simp only [Act.put, List.setIfInBounds_toArray, List.set_cons_zero, List.set_cons_succ]
  refine wpAnyH_ready (rs := [5]) (by kernel_rfl) (by simp) ?_
  refine AllReadyH.cons (o := ⟨some 27, _, _, _, _, _⟩) rfl (fun K hK => ?_) AllReadyH.nil
  go_simp
  ((with_reducible refine (HL2.out _ Z6.out).mono ?_); rintro e w' ⟨rfl, rfl⟩)
  try go_wp2_with fail
  refine hK.out _ _ (by exact s6.out) (fun hHeld => ?_)
  clear hK K
  try simp only [Act.put, List.setIfInBounds_toArray, List.set_cons_zero, List.set_cons_succ]
  refine wpAnyH_take (i := 6) (oi := ⟨some 28, _, _, _, _, _⟩) (v := ?_) rfl (by kernel_rfl) (by kernel_rfl) (by kernel_rfl) (fun _ _ _ h => h) (Or.inl ⟨by rfl, ?_⟩) (by assumption) ?_
  rotate_left
  · intro W hSw; go_simp; try (with_reducible rfl)
  try simp only [Act.put, List.setIfInBounds_toArray, List.set_cons_zero, List.set_cons_succ]
  refine wpAnyH_take (i := 7) (oi := ⟨some 29, _, _, _, _, _⟩) (v := ?_) rfl (by kernel_rfl) (by kernel_rfl) (by kernel_rfl) (fun _ _ _ h => h) (Or.inl ⟨by rfl, ?_⟩) (by assumption) ?_
  rotate_left
  · intro W hSw; go_simp; try (with_reducible rfl)
  try simp only [Act.put, List.setIfInBounds_toArray, List.set_cons_zero, List.set_cons_succ]
  refine wpAnyH_take (i := 8) (oi := ⟨some 30, _, _, _, _, _⟩) (v := ?_) rfl (by kernel_rfl) (by kernel_rfl) (by kernel_rfl) (fun _ _ _ h => h) (Or.inl ⟨by rfl, ?_⟩) (by assumption) ?_
  rotate_left
  · intro W hSw; go_simp; try (with_reducible rfl)
  try simp only [Act.put, List.setIfInBounds_toArray, List.set_cons_zero, List.set_cons_succ]
  refine wpAnyH_take (i := 9) (oi := ⟨some 31, _, _, _, _, _⟩) rfl (by kernel_rfl) (by kernel_rfl) (by kernel_rfl) (fun _ _ _ h => h) (yieldsIf_load_mid (by rfl) _ _ rfl _ _ rfl _ _ (fun _ h => h) under_id rfl size_id) (by assumption) ?_
  try simp only [Act.put, List.setIfInBounds_toArray, List.set_cons_zero, List.set_cons_succ]
  refine wpAnyH_take (i := 10) (oi := ⟨some 32, _, _, _, _, _⟩) (v := ?_) rfl (by kernel_rfl) (by kernel_rfl) (by kernel_rfl) (fun _ _ _ h => h) (Or.inl ⟨by rfl, ?_⟩) (by assumption) ?_
  rotate_left
  · intro W hSw; go_simp; try (with_reducible rfl)
  try simp only [Act.put, List.setIfInBounds_toArray, List.set_cons_zero, List.set_cons_succ]
  refine wpAnyH_take (i := 12) (oi := ⟨some 34, _, _, _, _, _⟩) rfl (by kernel_rfl) (by kernel_rfl) (by kernel_rfl) (fun _ _ _ h => h) (yieldsIf_load_mid (by rfl) _ _ rfl _ _ rfl _ _ (fun _ h => h) under_id rfl size_id) (by assumption) ?_
  try simp only [Act.put, List.setIfInBounds_toArray, List.set_cons_zero, List.set_cons_succ]
  refine wpAnyH_take (i := 13) (oi := ⟨some 35, _, _, _, _, _⟩) (v := ?_) rfl (by kernel_rfl) (by kernel_rfl) (by kernel_rfl) (fun _ _ _ h => h) (Or.inl ⟨by rfl, ?_⟩) (by assumption) ?_
  rotate_left
  · intro W hSw; go_simp; try (with_reducible rfl)
  try simp only [Act.put, List.setIfInBounds_toArray, List.set_cons_zero, List.set_cons_succ]
  refine wpAnyH_ready (rs := [11]) (by kernel_rfl) (by simp) ?_
  refine AllReadyH.cons (o := ⟨some 33, _, _, _, _, _⟩) rfl (fun K hK => ?_) AllReadyH.nil
  go_simp
  ((with_reducible refine (HS1.out _ Z6.out).mono ?_); rintro e w7 ⟨rfl, hb7⟩; have Z7 := Lib.hid (Z6.out.below hb7 (Nat.le_refl _)); have C7 := Lib.hid (C6.out.below hb7 (Nat.le_refl _)); have R7 := Lib.hid (R6.out.below hb7 R6.out.lt); have s7 := Lib.hid (key_range R7.out); have N7 := Lib.hid (N6.out.trans (hb7.mono N6.out.size)); clear hb7)
  try go_wp2_with fail
  refine hK.out _ _ (by exact s7.out) (fun hHeld => ?_)
  clear hK K
  try simp only [Act.put, List.setIfInBounds_toArray, List.set_cons_zero, List.set_cons_succ]
  refine wpAnyH_ready (rs := [14]) (by kernel_rfl) (by simp) ?_
  refine AllReadyH.cons (o := ⟨some 36, _, _, _, _, _⟩) rfl (fun K hK => ?_) AllReadyH.nil
  go_simp
  ((with_reducible refine (HS2.out _ Z7.out).mono ?_); rintro e w8 ⟨rfl, hb8⟩; have Z8 := Lib.hid (Z7.out.below hb8 (Nat.le_refl _)); have C8 := Lib.hid (C7.out.below hb8 (Nat.le_refl _)); have R8 := Lib.hid (R7.out.below hb8 R7.out.lt); have s8 := Lib.hid (key_range R8.out); have N8 := Lib.hid (N7.out.trans (hb8.mono N7.out.size)); clear hb8)
  try go_wp2_with fail
  refine hK.out _ _ (by exact s8.out) (fun hHeld => ?_)
  clear hK K
  try simp only [Act.put, List.setIfInBounds_toArray, List.set_cons_zero, List.set_cons_succ]
  refine wpAnyH_take (i := 15) (oi := ⟨some 37, _, _, _, _, _⟩) (v := ?_) rfl (by kernel_rfl) (by kernel_rfl) (by kernel_rfl) (fun _ _ _ h => h) (Or.inl ⟨by rfl, ?_⟩) (by assumption) ?_
  rotate_left
  · intro W hSw; go_simp; try (with_reducible rfl)
  try simp only [Act.put, List.setIfInBounds_toArray, List.set_cons_zero, List.set_cons_succ]
  refine wpAnyH_take (i := 16) (oi := ⟨some 38, _, _, _, _, _⟩) (v := ?_) rfl (by kernel_rfl) (by kernel_rfl) (by kernel_rfl) (fun _ _ _ h => h) (Or.inl ⟨by rfl, ?_⟩) (by assumption) ?_
  rotate_left
  · intro W hSw; go_simp; try (with_reducible rfl)
  try simp only [Act.put, List.setIfInBounds_toArray, List.set_cons_zero, List.set_cons_succ]
  refine wpAnyH_take (i := 17) (oi := ⟨some 39, _, _, _, _, _⟩) (v := ?_) rfl (by kernel_rfl) (by kernel_rfl) (by kernel_rfl) (fun _ _ _ h => h) (Or.inl ⟨by rfl, ?_⟩) (by assumption) ?_
  rotate_left
  · intro W hSw; go_simp; try (with_reducible rfl)
  try simp only [Act.put, List.setIfInBounds_toArray, List.set_cons_zero, List.set_cons_succ]
  refine wpAnyH_take (i := 18) (oi := ⟨some 40, _, _, _, _, _⟩) (v := ?_) rfl (by kernel_rfl) (by kernel_rfl) (by kernel_rfl) (fun _ _ _ h => h) (Or.inl ⟨by rfl, ?_⟩) (by assumption) ?_
  rotate_left
  · intro W hSw; go_simp; try (with_reducible rfl)
  try simp only [Act.put, List.setIfInBounds_toArray, List.set_cons_zero, List.set_cons_succ]
  refine wpAnyH_take (i := 20) (oi := ⟨some 42, _, _, _, _, _⟩) (v := ?_) rfl (by kernel_rfl) (by kernel_rfl) (by kernel_rfl) (fun _ _ _ h => h) (Or.inl ⟨by rfl, ?_⟩) (by assumption) ?_
  rotate_left
  · intro W hSw; go_simp; try (with_reducible rfl)
  try simp only [Act.put, List.setIfInBounds_toArray, List.set_cons_zero, List.set_cons_succ]
  refine wpAnyH_ready (rs := [19]) (by kernel_rfl) (by simp) ?_
  refine AllReadyH.cons (o := ⟨some 41, _, _, _, _, _⟩) rfl (fun K hK => ?_) AllReadyH.nil
  go_simp
  ((with_reducible refine (HM1.out _ C8.out).mono ?_); rintro e w9 ⟨rfl, hb9⟩; have Z9 := Lib.hid (Z8.out.below hb9 (Nat.le_refl _)); have C9 := Lib.hid (C8.out.below hb9 (Nat.le_refl _)); have R9 := Lib.hid (R8.out.below hb9 R8.out.lt); have s9 := Lib.hid (key_range R9.out); have N9 := Lib.hid (N8.out.trans (hb9.mono N8.out.size)); clear hb9)
  try go_wp2_with fail
  refine hK.out _ _ (by exact s9.out) (fun hHeld => ?_)
  clear hK K
  try simp only [Act.put, List.setIfInBounds_toArray, List.set_cons_zero, List.set_cons_succ]
  refine wpAnyH_ready (rs := [21]) (by kernel_rfl) (by simp) ?_
  refine AllReadyH.cons (o := ⟨some 43, _, _, _, _, _⟩) rfl (fun K hK => ?_) AllReadyH.nil
  go_simp
  ((with_reducible refine (HM2.out _ C9.out).mono ?_); rintro e w' ⟨rfl, rfl⟩)
  try go_wp2_with fail
  refine hK.out _ _ (by exact s9.out) (fun hHeld => ?_)
  clear hK K
  try simp only [Act.put, List.setIfInBounds_toArray, List.set_cons_zero, List.set_cons_succ]
  refine wpAnyH_take (i := 22) (oi := ⟨some 44, _, _, _, _, _⟩) (v := ?_) rfl (by kernel_rfl) (by kernel_rfl) (by kernel_rfl) (fun _ _ _ h => h) (Or.inl ⟨by rfl, ?_⟩) (by assumption) ?_
  rotate_left
  · intro W hSw; go_simp; try (with_reducible rfl)
  try simp only [Act.put, List.setIfInBounds_toArray, List.set_cons_zero, List.set_cons_succ]
  refine wpAnyH_take (i := 23) (oi := ⟨some 45, _, _, _, _, _⟩) (v := ?_) rfl (by kernel_rfl) (by kernel_rfl) (by kernel_rfl) (fun _ _ _ h => h) (Or.inl ⟨by rfl, ?_⟩) (by assumption) ?_
  rotate_left
  · intro W hSw; go_simp; try (with_reducible rfl)
  try simp only [Act.put, List.setIfInBounds_toArray, List.set_cons_zero, List.set_cons_succ]
  refine wpAnyH_take (i := 24) (oi := ⟨some 46, _, _, _, _, _⟩) (v := ?_) rfl (by kernel_rfl) (by kernel_rfl) (by kernel_rfl) (fun _ _ _ h => h) (Or.inl ⟨by rfl, ?_⟩) (by assumption) ?_
  rotate_left
  · intro W hSw; go_simp; try (with_reducible rfl)
  try simp only [Act.put, List.setIfInBounds_toArray, List.set_cons_zero, List.set_cons_succ]
  refine wpAnyH_take (i := 25) (oi := ⟨some 47, _, _, _, _, _⟩) rfl (by kernel_rfl) (by kernel_rfl) (by kernel_rfl) (fun _ _ _ h => h) (yieldsIf_load_mid (by rfl) _ _ rfl _ _ rfl _ _ (fun _ h => h) under_id rfl size_id) (by assumption) ?_
  try simp only [Act.put, List.setIfInBounds_toArray, List.set_cons_zero, List.set_cons_succ]
  refine wpAnyH_take (i := 26) (oi := ⟨some 48, _, _, _, _, _⟩) (v := ?_) rfl (by kernel_rfl) (by kernel_rfl) (by kernel_rfl) (fun _ _ _ h => h) (Or.inl ⟨by rfl, ?_⟩) (by assumption) ?_
  rotate_left
  · intro W hSw; go_simp; try (with_reducible rfl)
  try simp only [Act.put, List.setIfInBounds_toArray, List.set_cons_zero, List.set_cons_succ]
  refine wpAnyH_take (i := 28) (oi := ⟨some 50, _, _, _, _, _⟩) rfl (by kernel_rfl) (by kernel_rfl) (by kernel_rfl) (fun _ _ _ h => h) (yieldsIf_load_mid (by rfl) _ _ rfl _ _ rfl _ _ (fun _ h => h) under_id rfl size_id) (by assumption) ?_
  try simp only [Act.put, List.setIfInBounds_toArray, List.set_cons_zero, List.set_cons_succ]
  refine wpAnyH_take (i := 29) (oi := ⟨some 51, _, _, _, _, _⟩) (v := ?_) rfl (by kernel_rfl) (by kernel_rfl) (by kernel_rfl) (fun _ _ _ h => h) (Or.inl ⟨by rfl, ?_⟩) (by assumption) ?_
  rotate_left
  · intro W hSw; go_simp; try (with_reducible rfl)
  try simp only [Act.put, List.setIfInBounds_toArray, List.set_cons_zero, List.set_cons_succ]
  refine wpAnyH_ready (rs := [27]) (by kernel_rfl) (by simp) ?_
  refine AllReadyH.cons (o := ⟨some 49, _, _, _, _, _⟩) rfl (fun K hK => ?_) AllReadyH.nil
  go_simp
  ((with_reducible refine (HT1.out _ C9.out).mono ?_); rintro e w10 ⟨rfl, hb10⟩; have Z10 := Lib.hid (Z9.out.below hb10 (Nat.le_refl _)); have C10 := Lib.hid (C9.out.below hb10 (Nat.le_refl _)); have R10 := Lib.hid (R9.out.below hb10 R9.out.lt); have s10 := Lib.hid (key_range R10.out); have N10 := Lib.hid (N9.out.trans (hb10.mono N9.out.size)); clear hb10)
  try go_wp2_with fail
  refine hK.out _ _ (by exact s10.out) (fun hHeld => ?_)
  clear hK K
  try simp only [Act.put, List.setIfInBounds_toArray, List.set_cons_zero, List.set_cons_succ]
  refine wpAnyH_ready (rs := [30]) (by kernel_rfl) (by simp) ?_
  refine AllReadyH.cons (o := ⟨some 52, _, _, _, _, _⟩) rfl (fun K hK => ?_) AllReadyH.nil
  go_simp
  ((with_reducible refine (HT2.out _ C10.out).mono ?_); rintro e w11 ⟨rfl, hb11⟩; have Z11 := Lib.hid (Z10.out.below hb11 (Nat.le_refl _)); have C11 := Lib.hid (C10.out.below hb11 (Nat.le_refl _)); have R11 := Lib.hid (R10.out.below hb11 R10.out.lt); have s11 := Lib.hid (key_range R11.out); have N11 := Lib.hid (N10.out.trans (hb11.mono N10.out.size)); clear hb11)
  try go_wp2_with fail
  refine hK.out _ _ (by exact s11.out) (fun hHeld => ?_)
  clear hK K
  try simp only [Act.put, List.setIfInBounds_toArray, List.set_cons_zero, List.set_cons_succ]
  refine wpAnyH_take (i := 31) (oi := ⟨some 53, _, _, _, _, _⟩) (v := ?_) rfl (by kernel_rfl) (by kernel_rfl) (by kernel_rfl) (fun _ _ _ h => h) (Or.inl ⟨by rfl, ?_⟩) (by assumption) ?_
  rotate_left
  · intro W hSw; go_simp; try (with_reducible rfl)
  try simp only [Act.put, List.setIfInBounds_toArray, List.set_cons_zero, List.set_cons_succ]
  refine wpAnyH_take (i := 32) (oi := ⟨some 54, _, _, _, _, _⟩) (v := ?_) rfl (by kernel_rfl) (by kernel_rfl) (by kernel_rfl) (fun _ _ _ h => h) (Or.inl ⟨by rfl, ?_⟩) (by assumption) ?_
  rotate_left
  · intro W hSw; go_simp; try (with_reducible rfl)
  try simp only [Act.put, List.setIfInBounds_toArray, List.set_cons_zero, List.set_cons_succ]
  refine wpAnyH_take (i := 33) (oi := ⟨some 6, _, _, _, _, _⟩) (v := ?_) rfl (by kernel_rfl) (by kernel_rfl) (by kernel_rfl) (fun _ _ _ h => h) (Or.inl ⟨by rfl, ?_⟩) (by assumption) ?_
  rotate_left
  · intro W hSw; go_simp; try (with_reducible rfl)
  try simp only [Act.put, List.setIfInBounds_toArray, List.set_cons_zero, List.set_cons_succ]
  refine wpAnyH_done (by kernel_rfl) ?_ _
  refine NoPanic.normal ?_
  go_wp2
  go_ret
  exact ⟨rfl, N11.out⟩
end Go.Proofs.Ytnhnjlgkealjhaa.HashLengthsW
