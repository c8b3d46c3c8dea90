/-
  The walk of HashApart: at any pieces and two keys the law returns true, and nothing that was there is written.
-/
import Derived.Test.YtmkpeidgimgdlaaSi
import Derived.Test.YtmkpeidgimgdlaaRows2
import Derived.Test.YtmkpeidgimgdlaaOwnA
namespace Go.Proofs.Ytmkpeidgimgdlaa.HashApartW
open Go.ChangeShapes Go.WideShapes Go.ChangeAt Go.RowKit
open Bytes8 Blk8 Own8 OwnM OwnA Rows2 LeNum LeA LeB Hm Ha Hb Hc Hd He Hf Sa Sb Sm Sc Sd Se Sf Sg Si
set_option linter.unusedVariables false

theorem sum_drew {w : World} {g : Nat} {key l : List Int} (h : SumAt w g key l) : SumAt w.drew g key l := ⟨h.1, h.2.drew⟩
theorem sum_grown {w w' : World} {b g : Nat} {key l : List Int} (h : SumAt w b key l) (hg : w.grownBy w' (some g)) (hne : b ≠ g) : SumAt w' b key l := ⟨h.1, blk_grown h.2 hg hne⟩

/-- The rows of even places, and those of odd ones, up to the k-th, one behind the other. -/
def ev (P : Nat → List Int) : Nat → List Int
  | 0 => []
  | k + 1 => if k % 2 = 0 then ev P k ++ P k else ev P k
def od (P : Nat → List Int) : Nat → List Int
  | 0 => []
  | k + 1 => if k % 2 = 0 then od P k else od P k ++ P k
theorem ev_yes (P : Nat → List Int) {k : Nat} (h : k % 2 = 0) : ev P (k + 1) = ev P k ++ P k := by rw [ev, if_pos h]
theorem ev_no (P : Nat → List Int) {k : Nat} (h : ¬ k % 2 = 0) : ev P (k + 1) = ev P k := by rw [ev, if_neg h]
theorem od_yes (P : Nat → List Int) {k : Nat} (h : ¬ k % 2 = 0) : od P (k + 1) = od P k ++ P k := by rw [od, if_neg h]
theorem od_no (P : Nat → List Int) {k : Nat} (h : k % 2 = 0) : od P (k + 1) = od P k := by rw [od, if_pos h]

set_option maxRecDepth 100000 in
theorem walk_long (a0 : Option Addr) (len0 cap0 : Nat) (K1 K2 : Nat → Int) (w : World) (hlen : 30 < len0) :
    Calls Try.prog 5 #[.slice a0 len0 cap0, idV K1, idV K2] w fun e w' => e = .returned (.bool true) ∧ Below w.heap.size w w' := by
  have hd : decide ((30 : Int) < (len0 : Int)) = true := by simp; omega
  go_enter Try.func5, Try.ntmps5
  go_wp2_with (go_at_call 11; (with_reducible refine (first_any _).mono ?_); rintro e w1 ⟨rfl, hbel⟩)
  go_ret
  exact ⟨rfl, (((Below.refl w.heap.size w).alloc (Nat.le_refl _) _).alloc (by simp) _).trans (hbel.mono (by simp <;> omega))⟩

set_option maxRecDepth 100000 in
set_option maxHeartbeats 40000000 in
theorem walk_main (a0 : Option Addr) (len0 cap0 : Nat) (A L C P) (K1 K2 : Nat → Int) (w : World) (hr : InRows w a0 len0 A L C P) (hkk : IdOk K1) (hkl2 : IdOk K2) (h0 : len0 ≤ 30) :
    Calls Try.prog 5 #[.slice a0 len0 cap0, idV K1, idV K2] w fun e w' => e = .returned (.bool true) ∧ Below w.heap.size w w' := by
  have hd : decide ((30 : Int) < (len0 : Int)) = false := by simp; omega
  have HR := Lib.hid hr
  have HK := Lib.hid ((key_boxed w K1).alloc (idC 24 K2))
  have HX := Lib.hid (show KeyAt ((w.alloc (idC 24 K1)).alloc (idC 24 K2)) (w.heap.size + 1) K2 from Blk.new_at _ _ _ _ (by simp))
  have HN := Lib.hid (((Below.refl w.heap.size w).alloc (Nat.le_refl _) (idC 24 K1)).alloc (by simp) (idC 24 K2))
  have HNew1 := Lib.hid fun W n (hn : W.heap.size + 1 = n) => new_at K1 W n hn hkk
  have HNew2 := Lib.hid fun W n (hn : W.heap.size + 1 = n) => new_at K2 W n hn hkl2
  clear hr
  go_enter Try.func5, Try.ntmps5
  go_wp2_with (go_at_call 11; (with_reducible refine (first_any _).mono ?_); rintro e w1 ⟨rfl, hbel⟩; have R1 := Lib.hid ((HK.out.below hbel (by simp <;> omega)).drew); have X1 := Lib.hid ((HX.out.below hbel (by simp <;> omega)).drew); have s1 := Lib.hid (And.intro (key_range R1.out) (key_range X1.out)); have N1 := Lib.hid ((HN.out.trans (hbel.mono (by simp <;> omega))).drew); clear hbel)
  refine wp_region_noPanic ?_
  refine wp_region_held_drew (S := (fun w' => w'.rangeAt w.heap.size 0 [.int .u8 (K1 0), .int .u8 (K1 1), .int .u8 (K1 2), .int .u8 (K1 3), .int .u8 (K1 4), .int .u8 (K1 5), .int .u8 (K1 6), .int .u8 (K1 7), .int .u8 (K1 8), .int .u8 (K1 9), .int .u8 (K1 10), .int .u8 (K1 11), .int .u8 (K1 12), .int .u8 (K1 13), .int .u8 (K1 14), .int .u8 (K1 15)] ∧ w'.rangeAt (w.heap.size + 1) 0 [.int .u8 (K2 0), .int .u8 (K2 1), .int .u8 (K2 2), .int .u8 (K2 3), .int .u8 (K2 4), .int .u8 (K2 5), .int .u8 (K2 6), .int .u8 (K2 7), .int .u8 (K2 8), .int .u8 (K2 9), .int .u8 (K2 10), .int .u8 (K2 11), .int .u8 (K2 12), .int .u8 (K2 13), .int .u8 (K2 14), .int .u8 (K2 15)])) (by kernel_rfl) (by exact s1.out) (fun hHeld => ?_)
  refine wpAnyH_take (i := 0) (oi := ⟨some 20, _, _, _, _, _⟩) rfl (by kernel_rfl) (by kernel_rfl) (by kernel_rfl) (fun _ _ _ h => h) (yieldsIf_load_mid (by rfl) _ _ rfl _ _ rfl _ _ (fun _ h => h.1) under_id rfl size_id) (by assumption) ?_
  try simp only [Act.put, List.setIfInBounds_toArray, List.set_cons_zero, List.set_cons_succ]
  refine wpAnyH_take (i := 2) (oi := ⟨some 22, _, _, _, _, _⟩) rfl (by kernel_rfl) (by kernel_rfl) (by kernel_rfl) (fun _ _ _ h => h) (yieldsIf_load_mid (by rfl) _ _ rfl _ _ rfl _ _ (fun _ h => h.2) under_id rfl size_id) (by assumption) ?_
  try simp only [Act.put, List.setIfInBounds_toArray, List.set_cons_zero, List.set_cons_succ]
  refine wpAnyH_ready (rs := [1]) (by kernel_rfl) (by simp) ?_
  refine AllReadyH.cons (o := ⟨some 21, _, _, _, _, _⟩) rfl (fun K hK => ?_) AllReadyH.nil
  go_simp
  ((with_reducible refine (HNew1.out _ _ rfl).mono ?_); rintro e wa ⟨rfl, hs2, hb2⟩; have A2 := Lib.hid hs2; have R2 := Lib.hid (R1.out.below hb2 R1.out.lt); have X2 := Lib.hid (X1.out.below hb2 X1.out.lt); have s2 := Lib.hid (And.intro (key_range R2.out) (key_range X2.out)); have N2 := Lib.hid (N1.out.trans (hb2.mono N1.out.size)); clear hs2 hb2)
  try go_wp2_with fail
  refine hK.out _ _ (by exact s2.out) (fun hHeld => ?_)
  clear hK K
  try simp only [Act.put, List.setIfInBounds_toArray, List.set_cons_zero, List.set_cons_succ]
  refine wpAnyH_ready (rs := [3]) (by kernel_rfl) (by simp) ?_
  refine AllReadyH.cons (o := ⟨some 23, _, _, _, _, _⟩) rfl (fun K hK => ?_) AllReadyH.nil
  go_simp
  ((with_reducible refine (HNew2.out _ _ rfl).mono ?_); rintro e wb ⟨rfl, hs3, hb3⟩; have B3 := Lib.hid hs3; have A3 := Lib.hid (sum_below A2.out hb3 A2.out.2.lt); have R3 := Lib.hid (R2.out.below hb3 R2.out.lt); have X3 := Lib.hid (X2.out.below hb3 X2.out.lt); have s3 := Lib.hid (And.intro (key_range R3.out) (key_range X3.out)); have N3 := Lib.hid (N2.out.trans (hb3.mono N2.out.size)); have hab := A2.out.2.lt; clear hs3 hb3)
  try go_wp2_with fail
  refine hK.out _ _ (by exact s3.out) (fun hHeld => ?_)
  clear hK K
  try simp only [Act.put, List.setIfInBounds_toArray, List.set_cons_zero, List.set_cons_succ]
  refine wpAnyH_take (i := 4) (oi := ⟨some 8, _, _, _, _, _⟩) (v := ?_) rfl (by kernel_rfl) (by kernel_rfl) (by kernel_rfl) (fun _ _ _ h => h) (Or.inl ⟨by rfl, ?_⟩) (by assumption) ?_
  rotate_left
  · intro W hSw; go_simp; try (with_reducible rfl)
  try simp only [Act.put, List.setIfInBounds_toArray, List.set_cons_zero, List.set_cons_succ]
  refine wpAnyH_take (i := 5) (oi := ⟨some 9, _, _, _, _, _⟩) (v := ?_) rfl (by kernel_rfl) (by kernel_rfl) (by kernel_rfl) (fun _ _ _ h => h) (Or.inl ⟨by rfl, ?_⟩) (by assumption) ?_
  rotate_left
  · intro W hSw; go_simp; try (with_reducible rfl)
  try simp only [Act.put, List.setIfInBounds_toArray, List.set_cons_zero, List.set_cons_succ]
  refine wpAnyH_done (by kernel_rfl) ?_ _
  refine NoPanic.normal ?_
  go_wp2
  obtain ⟨ga, hga⟩ : ∃ g, w1.drew.heap.size + 1 = g := ⟨_, rfl⟩
  obtain ⟨gb, hgb⟩ : ∃ g, wa.heap.size + 1 = g := ⟨_, rfl⟩
  have e1 : w.heap.size + 1 < ga := by have := X1.out.lt; omega
  have e2 : ga < gb := by omega
  rw [hga] at A3
  rw [hgb] at B3
  have e3 : gb < wb.heap.size := B3.out.2.lt
  rw [show w1.heap.size + 1 = ga from hga, hgb]
  clear hga hgb hab A2
  go_loopw [10, 11, 12] (fun x y i wr => ∃ (k nx ny : Nat) (Ax Ay : Option Addr) (cx cy : Nat), k ≤ len0 ∧ i = .int .i64 k ∧ x = .slice Ax nx cx ∧ y = .slice Ay ny cy ∧ nx ≤ 30 * k ∧ ny ≤ 30 * k ∧ Hid (SumAt wr ga (idL K1) (ev P k)) ∧ Hid (SumAt wr gb (idL K2) (od P k)) ∧ Hid (Own wr wb.heap.size Ax nx cx (ev P k)) ∧ Hid (Own wr wb.heap.size Ay ny cy (od P k)) ∧ Hid (Apart Ax Ay) ∧ Hid (KeyAt wr w.heap.size K1) ∧ Hid (KeyAt wr (w.heap.size + 1) K2) ∧ Hid (Below w.heap.size w wr) ∧ wb.heap.size ≤ wr.heap.size) (fun _ _ i _ => len0 - (intOf i).toNat)
  case atStart => exact ⟨0, 0, 0, none, none, 0, 0, Nat.zero_le _, rfl, rfl, rfl, by omega, by omega, A3, B3, Lib.hid (Own.nil _ _ (Nat.le_refl _)), Lib.hid (Own.nil _ _ (Nat.le_refl _)), Lib.hid (Apart.none _), R3, X3, N3, Nat.le_refl _⟩
  case round =>
    obtain ⟨k, nx, ny, Ax, Ay, cx, cy, hkl, rfl, rfl, rfl, hnx, hny, ha, hb, hx, hy, hap, hk1, hk2, hbel, hsz⟩ := hrel
    by_cases hlt : k < len0
    · have hd : decide (k < len0) = true := by simpa using hlt
      obtain ⟨b, off, rfl, hbl0, hc0, hbk0, hlk, hlc, hcm⟩ := HR.out k hlt
      have hc : wr.cell? ⟨b, off + k, none⟩ = some (.slice (A k) (L k) (C k)) := (hbel.out.cell (p := ⟨b, off + k, none⟩) hbl0).trans hc0
      have hbk := hbk0.below hbel.out (Nat.le_refl _)
      have hbl : b < wr.heap.size := Nat.lt_of_lt_of_le hbl0 hbel.out.size
      clear hc0
      by_cases h30 : L k ≤ 30
      · have hd30 : decide ((30 : Int) < (L k : Int)) = false := by simp; omega
        by_cases hpar : k % 2 = 0
        · skip
          have hp : ((k : Int) % 2 == 0) = true := by simp; omega
          have hF := ev_yes P hpar
          have hF2 := od_no P hpar
          have HAdd := Lib.hid (add_any K1 ga (A k) (ev P k) (P k) (L k) (C k) wr ha.out hbk hlk (by omega) (by
            intro hpos b' off' e
            obtain ⟨b2, off2, e2, hlt2, _⟩ := hbk0.spot (by omega)
            rw [e] at e2; injection e2 with e2; injection e2 with e2; omega))
          rw [← hF] at HAdd
          have HFE := Lib.hid hF
          have HFN := Lib.hid hF2
          have HBK0 := Lib.hid hbk0
          have HLK := Lib.hid hlk
          clear hbk hbk0 hlk hF hF2 hpar
          generalize hFF : ev P (k + 1) = F at *
          have HFF := Lib.hid hFF
          clear hFF
          generalize L k = lk at *
          generalize A k = ak at *
          generalize C k = ck at *
          go_wp2_with (first
            | (go_at_call 19; (with_reducible refine HAdd.out.mono ?_); rintro e w3 ⟨rfl, hs3, hg3⟩; have S3 := Lib.hid hs3; have U3 := Lib.hid (sum_grown hb.out hg3 (by omega)); have N3 := Lib.hid (below_own hbel.out hg3 hbel.out.size (by omega)); have hc3 : w3.cell? ⟨b, off + k, none⟩ = some (.slice ak lk ck) := (World.cell?_of_block (hg3.block b hbl (by intro e; injection e with e; omega))).trans hc; have Qx3 := Lib.hid (own_grown hx.out hg3 (by omega)); have Qy3 := Lib.hid (own_grown hy.out hg3 (by omega)); have R3 := Lib.hid (blk_grown hk1.out hg3 (by omega)); have X3 := Lib.hid (blk_grown hk2.out hg3 (by omega)); have z3 := hg3.size; clear hs3 hg3)
            | (at_builtin; refine wpList_append_at rfl (.tmp 51) (.tmp 55) rfl wb.heap.size Ax nx cx (ev P k) rfl Qx3.out ak lk ck (P k) rfl (HBK0.out.below N3.out (Nat.le_refl _)) HLK.out (by omega) Ay ny cy (od P k) Qy3.out hap.out ?_; intro A5 c5 w5 ho5 hq5 hap5 hb5; rw [← HFE.out] at ho5; have Q5 := Lib.hid ho5; have V5 := Lib.hid hq5; have ap5 := Lib.hid hap5; have S5 := Lib.hid (sum_below S3.out hb5 (by omega)); have U5 := Lib.hid (sum_below U3.out hb5 (by omega)); have N5 := Lib.hid (N3.out.trans (hb5.mono (by omega))); have R5 := Lib.hid (R3.out.below hb5 (by omega)); have X5 := Lib.hid (X3.out.below hb5 (by omega)); have z5 := hb5.size; clear ho5 hq5 hap5 hb5))
          go_roundw
          case rel => exact ⟨k + 1, nx + lk, ny, A5, Ay, c5, cy, by omega, by go_num, rfl, rfl, by omega, by omega, by rw [HFF.out]; exact S5, by rw [HFN.out]; exact U5, by rw [HFF.out]; exact Q5, by rw [HFN.out]; exact V5, ap5, R5, X5, N5, by omega⟩
          case measure => simp [intOf]; omega
        · skip
          have hp : ((k : Int) % 2 == 0) = false := by simp; omega
          have hF := od_yes P hpar
          have hF2 := ev_no P hpar
          have HAdd := Lib.hid (add_any K2 gb (A k) (od P k) (P k) (L k) (C k) wr hb.out hbk hlk (by omega) (by
            intro hpos b' off' e
            obtain ⟨b2, off2, e2, hlt2, _⟩ := hbk0.spot (by omega)
            rw [e] at e2; injection e2 with e2; injection e2 with e2; omega))
          rw [← hF] at HAdd
          have HFE := Lib.hid hF
          have HFN := Lib.hid hF2
          have HBK0 := Lib.hid hbk0
          have HLK := Lib.hid hlk
          clear hbk hbk0 hlk hF hF2 hpar
          generalize hFF : od P (k + 1) = F at *
          have HFF := Lib.hid hFF
          clear hFF
          generalize L k = lk at *
          generalize A k = ak at *
          generalize C k = ck at *
          go_wp2_with (first
            | (go_at_call 19; (with_reducible refine HAdd.out.mono ?_); rintro e w3 ⟨rfl, hs3, hg3⟩; have S3 := Lib.hid hs3; have U3 := Lib.hid (sum_grown ha.out hg3 (by omega)); have N3 := Lib.hid (below_own hbel.out hg3 hbel.out.size (by omega)); have hc3 : w3.cell? ⟨b, off + k, none⟩ = some (.slice ak lk ck) := (World.cell?_of_block (hg3.block b hbl (by intro e; injection e with e; omega))).trans hc; have Qx3 := Lib.hid (own_grown hx.out hg3 (by omega)); have Qy3 := Lib.hid (own_grown hy.out hg3 (by omega)); have R3 := Lib.hid (blk_grown hk1.out hg3 (by omega)); have X3 := Lib.hid (blk_grown hk2.out hg3 (by omega)); have z3 := hg3.size; clear hs3 hg3)
            | (at_builtin; refine wpList_append_at rfl (.tmp 63) (.tmp 67) rfl wb.heap.size Ay ny cy (od P k) rfl Qy3.out ak lk ck (P k) rfl (HBK0.out.below N3.out (Nat.le_refl _)) HLK.out (by omega) Ax nx cx (ev P k) Qx3.out hap.out.symm ?_; intro A5 c5 w5 ho5 hq5 hap5 hb5; rw [← HFE.out] at ho5; have Q5 := Lib.hid ho5; have V5 := Lib.hid hq5; have ap5 := Lib.hid hap5; have S5 := Lib.hid (sum_below S3.out hb5 (by omega)); have U5 := Lib.hid (sum_below U3.out hb5 (by omega)); have N5 := Lib.hid (N3.out.trans (hb5.mono (by omega))); have R5 := Lib.hid (R3.out.below hb5 (by omega)); have X5 := Lib.hid (X3.out.below hb5 (by omega)); have z5 := hb5.size; clear ho5 hq5 hap5 hb5))
          go_roundw
          case rel => exact ⟨k + 1, nx, ny + lk, Ax, A5, cx, c5, by omega, by go_num, rfl, rfl, by omega, by omega, by rw [HFN.out]; exact U5, by rw [HFF.out]; exact S5, by rw [HFN.out]; exact V5, by rw [HFF.out]; exact Q5, Lib.hid ap5.out.symm, R5, X5, N5, by omega⟩
          case measure => simp [intOf]; omega
      · have hd30 : decide ((30 : Int) < (L k : Int)) = true := by simp; omega
        clear hbk hbk0 hlk
        generalize L k = lk at *
        generalize A k = ak at *
        generalize C k = ck at *
        go_wp2
        go_ret
        exact ⟨rfl, hbel.out⟩
    · obtain rfl : k = len0 := by omega
      have hd : decide (k < k) = false := by simp
      have HLx := Lib.hid hx.out.2.1
      have HLy := Lib.hid hy.out.2.1
      have HCx := Lib.hid (own_cap hx.out)
      have HVa := Lib.hid fun W (h : SumAt W ga (idL K1) (ev P k)) => value_any K1 ga (ev P k) W h
      have HVb := Lib.hid fun W (h : SumAt W gb (idL K2) (od P k)) => value_any K2 gb (od P k) W h
      have HSa := Lib.hid fun A n' c W (h : Bytes W A (ev P k)) (hn' : (ev P k).length = n') => sip_any K1 A (ev P k) n' c W hkk h hn' (by rw [← hn', HLx.out]; omega)
      have HSb := Lib.hid fun A n' c W (h : Bytes W A (od P k)) (hn' : (od P k).length = n') => sip_any K2 A (od P k) n' c W hkl2 h hn' (by rw [← hn', HLy.out]; omega)
      have HOa := Lib.hid (show ∀ A n' c W, Bytes W A (ev P k) → (ev P k).length = n' → n' ≤ c → c ≤ maxLen → Calls Try.prog 16 #[.bool false, idV K1, .slice A n' c] W fun e w' => e = .returned (.int .u64 (lookS (ev P k))) ∧ Below W.heap.size W w' from fun A n' c W h hn' h1 h2 => of_any false K1 A (ev P k) n' c W hkk h hn' (by rw [← hn', HLx.out]; omega) h1 h2)
      have HOb := Lib.hid (show ∀ A n' c W, Bytes W A (ev P k) → (ev P k).length = n' → n' ≤ c → c ≤ maxLen → Calls Try.prog 16 #[.bool false, idV K2, .slice A n' c] W fun e w' => e = .returned (.int .u64 (lookS (ev P k))) ∧ Below W.heap.size W w' from fun A n' c W h hn' h1 h2 => of_any false K2 A (ev P k) n' c W hkl2 h hn' (by rw [← hn', HLx.out]; omega) h1 h2)
      have A5 := Lib.hid (sum_drew ha.out)
      have B5 := Lib.hid (sum_drew hb.out)
      have O5 := Lib.hid hx.out.bytes.drew
      have P5 := Lib.hid hy.out.bytes.drew
      have R5 := Lib.hid hk1.out.drew
      have X5 := Lib.hid hk2.out.drew
      have s5 := Lib.hid (And.intro (key_range R5.out) (key_range X5.out))
      have N5 := Lib.hid hbel.out.drew
      clear ha hb hx hy hap hk1 hk2 hbel A3 B3 R3 X3 N3 R1 X1 N1 s1
      generalize ev P k = E at *
      generalize od P k = D at *
      generalize sipS (idL K1) E = SE at *
      generalize sipS (idL K2) D = SD at *
      generalize lookS E = LE at *
      go_wp2
      refine wp_region_noPanic ?_
      refine wp_region_held_drew (S := (fun w' => w'.rangeAt w.heap.size 0 [.int .u8 (K1 0), .int .u8 (K1 1), .int .u8 (K1 2), .int .u8 (K1 3), .int .u8 (K1 4), .int .u8 (K1 5), .int .u8 (K1 6), .int .u8 (K1 7), .int .u8 (K1 8), .int .u8 (K1 9), .int .u8 (K1 10), .int .u8 (K1 11), .int .u8 (K1 12), .int .u8 (K1 13), .int .u8 (K1 14), .int .u8 (K1 15)] ∧ w'.rangeAt (w.heap.size + 1) 0 [.int .u8 (K2 0), .int .u8 (K2 1), .int .u8 (K2 2), .int .u8 (K2 3), .int .u8 (K2 4), .int .u8 (K2 5), .int .u8 (K2 6), .int .u8 (K2 7), .int .u8 (K2 8), .int .u8 (K2 9), .int .u8 (K2 10), .int .u8 (K2 11), .int .u8 (K2 12), .int .u8 (K2 13), .int .u8 (K2 14), .int .u8 (K2 15)])) (by kernel_rfl) (by exact s5.out) (fun hHeld => ?_)
      refine wpAnyH_take (i := 0) (oi := ⟨some 69, _, _, _, _, _⟩) (v := ?_) rfl (by kernel_rfl) (by kernel_rfl) (by kernel_rfl) (fun _ _ _ h => h) (Or.inl ⟨by rfl, ?_⟩) (by assumption) ?_
      rotate_left
      · intro W hSw; go_simp; try (with_reducible rfl)
      try simp only [Act.put, List.setIfInBounds_toArray, List.set_cons_zero, List.set_cons_succ]
      refine wpAnyH_take (i := 1) (oi := ⟨some 70, _, _, _, _, _⟩) (v := ?_) rfl (by kernel_rfl) (by kernel_rfl) (by kernel_rfl) (fun _ _ _ h => h) (Or.inl ⟨by rfl, ?_⟩) (by assumption) ?_
      rotate_left
      · intro W hSw; go_simp; try (with_reducible rfl)
      try simp only [Act.put, List.setIfInBounds_toArray, List.set_cons_zero, List.set_cons_succ]
      refine wpAnyH_take (i := 2) (oi := ⟨some 71, _, _, _, _, _⟩) (v := ?_) rfl (by kernel_rfl) (by kernel_rfl) (by kernel_rfl) (fun _ _ _ h => h) (Or.inl ⟨by rfl, ?_⟩) (by assumption) ?_
      rotate_left
      · intro W hSw; go_simp; try (with_reducible rfl)
      try simp only [Act.put, List.setIfInBounds_toArray, List.set_cons_zero, List.set_cons_succ]
      refine wpAnyH_take (i := 4) (oi := ⟨some 73, _, _, _, _, _⟩) rfl (by kernel_rfl) (by kernel_rfl) (by kernel_rfl) (fun _ _ _ h => h) (yieldsIf_load_mid (by rfl) _ _ rfl _ _ rfl _ _ (fun _ h => h.1) under_id rfl size_id) (by assumption) ?_
      try simp only [Act.put, List.setIfInBounds_toArray, List.set_cons_zero, List.set_cons_succ]
      refine wpAnyH_take (i := 5) (oi := ⟨some 74, _, _, _, _, _⟩) (v := ?_) rfl (by kernel_rfl) (by kernel_rfl) (by kernel_rfl) (fun _ _ _ h => h) (Or.inl ⟨by rfl, ?_⟩) (by assumption) ?_
      rotate_left
      · intro W hSw; go_simp; try (with_reducible rfl)
      try simp only [Act.put, List.setIfInBounds_toArray, List.set_cons_zero, List.set_cons_succ]
      refine wpAnyH_ready (rs := [3]) (by kernel_rfl) (by simp) ?_
      refine AllReadyH.cons (o := ⟨some 72, _, _, _, _, _⟩) rfl (fun K hK => ?_) AllReadyH.nil
      go_simp
      ((with_reducible refine (HVa.out _ A5.out).mono ?_); rintro e w6 ⟨rfl, hb6⟩; have A6 := Lib.hid (sum_below A5.out hb6 A5.out.2.lt); have B6 := Lib.hid (sum_below B5.out hb6 B5.out.2.lt); have O6 := Lib.hid (O5.out.below hb6 (Nat.le_refl _)); have P6 := Lib.hid (P5.out.below hb6 (Nat.le_refl _)); have R6 := Lib.hid (R5.out.below hb6 R5.out.lt); have X6 := Lib.hid (X5.out.below hb6 X5.out.lt); have s6 := Lib.hid (And.intro (key_range R6.out) (key_range X6.out)); have N6 := Lib.hid (N5.out.trans (hb6.mono N5.out.size)); clear hb6)
      try go_wp2_with fail
      refine hK.out _ _ (by exact s6.out) (fun hHeld => ?_)
      clear hK K
      try simp only [Act.put, List.setIfInBounds_toArray, List.set_cons_zero, List.set_cons_succ]
      refine wpAnyH_ready (rs := [6]) (by kernel_rfl) (by simp) ?_
      refine AllReadyH.cons (o := ⟨some 75, _, _, _, _, _⟩) rfl (fun K hK => ?_) AllReadyH.nil
      go_simp
      ((with_reducible refine (HSa.out _ _ _ _ O6.out HLx.out).mono ?_); rintro e w7 ⟨rfl, hb7⟩; have A7 := Lib.hid (sum_below A6.out hb7 A6.out.2.lt); have B7 := Lib.hid (sum_below B6.out hb7 B6.out.2.lt); have O7 := Lib.hid (O6.out.below hb7 (Nat.le_refl _)); have P7 := Lib.hid (P6.out.below hb7 (Nat.le_refl _)); have R7 := Lib.hid (R6.out.below hb7 R6.out.lt); have X7 := Lib.hid (X6.out.below hb7 X6.out.lt); have s7 := Lib.hid (And.intro (key_range R7.out) (key_range X7.out)); have N7 := Lib.hid (N6.out.trans (hb7.mono N6.out.size)); clear hb7)
      try go_wp2_with fail
      refine hK.out _ _ (by exact s7.out) (fun hHeld => ?_)
      clear hK K
      try simp only [Act.put, List.setIfInBounds_toArray, List.set_cons_zero, List.set_cons_succ]
      refine wpAnyH_take (i := 7) (oi := ⟨some 76, _, _, _, _, _⟩) (v := ?_) rfl (by kernel_rfl) (by kernel_rfl) (by kernel_rfl) (fun _ _ _ h => h) (Or.inl ⟨by rfl, ?_⟩) (by assumption) ?_
      rotate_left
      · intro W hSw; go_simp; try (with_reducible rfl)
      try simp only [Act.put, List.setIfInBounds_toArray, List.set_cons_zero, List.set_cons_succ]
      refine wpAnyH_take (i := 8) (oi := ⟨some 77, _, _, _, _, _⟩) (v := ?_) rfl (by kernel_rfl) (by kernel_rfl) (by kernel_rfl) (fun _ _ _ h => h) (Or.inl ⟨by rfl, ?_⟩) (by assumption) ?_
      rotate_left
      · intro W hSw; go_simp; try (with_reducible rfl)
      try simp only [Act.put, List.setIfInBounds_toArray, List.set_cons_zero, List.set_cons_succ]
      refine wpAnyH_take (i := 9) (oi := ⟨some 78, _, _, _, _, _⟩) (v := ?_) rfl (by kernel_rfl) (by kernel_rfl) (by kernel_rfl) (fun _ _ _ h => h) (Or.inl ⟨by rfl, ?_⟩) (by assumption) ?_
      rotate_left
      · intro W hSw; go_simp; try (with_reducible rfl)
      try simp only [Act.put, List.setIfInBounds_toArray, List.set_cons_zero, List.set_cons_succ]
      refine wpAnyH_take (i := 10) (oi := ⟨some 79, _, _, _, _, _⟩) (v := ?_) rfl (by kernel_rfl) (by kernel_rfl) (by kernel_rfl) (fun _ _ _ h => h) (Or.inl ⟨by rfl, ?_⟩) (by assumption) ?_
      rotate_left
      · intro W hSw; go_simp; try (with_reducible rfl)
      try simp only [Act.put, List.setIfInBounds_toArray, List.set_cons_zero, List.set_cons_succ]
      refine wpAnyH_take (i := 12) (oi := ⟨some 81, _, _, _, _, _⟩) rfl (by kernel_rfl) (by kernel_rfl) (by kernel_rfl) (fun _ _ _ h => h) (yieldsIf_load_mid (by rfl) _ _ rfl _ _ rfl _ _ (fun _ h => h.2) under_id rfl size_id) (by assumption) ?_
      try simp only [Act.put, List.setIfInBounds_toArray, List.set_cons_zero, List.set_cons_succ]
      refine wpAnyH_take (i := 13) (oi := ⟨some 82, _, _, _, _, _⟩) (v := ?_) rfl (by kernel_rfl) (by kernel_rfl) (by kernel_rfl) (fun _ _ _ h => h) (Or.inl ⟨by rfl, ?_⟩) (by assumption) ?_
      rotate_left
      · intro W hSw; go_simp; try (with_reducible rfl)
      try simp only [Act.put, List.setIfInBounds_toArray, List.set_cons_zero, List.set_cons_succ]
      refine wpAnyH_ready (rs := [11]) (by kernel_rfl) (by simp) ?_
      refine AllReadyH.cons (o := ⟨some 80, _, _, _, _, _⟩) rfl (fun K hK => ?_) AllReadyH.nil
      go_simp
      ((with_reducible refine (HVb.out _ B7.out).mono ?_); rintro e w8 ⟨rfl, hb8⟩; have A8 := Lib.hid (sum_below A7.out hb8 A7.out.2.lt); have B8 := Lib.hid (sum_below B7.out hb8 B7.out.2.lt); have O8 := Lib.hid (O7.out.below hb8 (Nat.le_refl _)); have P8 := Lib.hid (P7.out.below hb8 (Nat.le_refl _)); have R8 := Lib.hid (R7.out.below hb8 R7.out.lt); have X8 := Lib.hid (X7.out.below hb8 X7.out.lt); have s8 := Lib.hid (And.intro (key_range R8.out) (key_range X8.out)); have N8 := Lib.hid (N7.out.trans (hb8.mono N7.out.size)); clear hb8)
      try go_wp2_with fail
      refine hK.out _ _ (by exact s8.out) (fun hHeld => ?_)
      clear hK K
      try simp only [Act.put, List.setIfInBounds_toArray, List.set_cons_zero, List.set_cons_succ]
      refine wpAnyH_ready (rs := [14]) (by kernel_rfl) (by simp) ?_
      refine AllReadyH.cons (o := ⟨some 83, _, _, _, _, _⟩) rfl (fun K hK => ?_) AllReadyH.nil
      go_simp
      ((with_reducible refine (HSb.out _ _ _ _ P8.out HLy.out).mono ?_); rintro e w9 ⟨rfl, hb9⟩; have A9 := Lib.hid (sum_below A8.out hb9 A8.out.2.lt); have B9 := Lib.hid (sum_below B8.out hb9 B8.out.2.lt); have O9 := Lib.hid (O8.out.below hb9 (Nat.le_refl _)); have P9 := Lib.hid (P8.out.below hb9 (Nat.le_refl _)); have R9 := Lib.hid (R8.out.below hb9 R8.out.lt); have X9 := Lib.hid (X8.out.below hb9 X8.out.lt); have s9 := Lib.hid (And.intro (key_range R9.out) (key_range X9.out)); have N9 := Lib.hid (N8.out.trans (hb9.mono N8.out.size)); clear hb9)
      try go_wp2_with fail
      refine hK.out _ _ (by exact s9.out) (fun hHeld => ?_)
      clear hK K
      try simp only [Act.put, List.setIfInBounds_toArray, List.set_cons_zero, List.set_cons_succ]
      refine wpAnyH_take (i := 15) (oi := ⟨some 84, _, _, _, _, _⟩) (v := ?_) rfl (by kernel_rfl) (by kernel_rfl) (by kernel_rfl) (fun _ _ _ h => h) (Or.inl ⟨by rfl, ?_⟩) (by assumption) ?_
      rotate_left
      · intro W hSw; go_simp; try (with_reducible rfl)
      try simp only [Act.put, List.setIfInBounds_toArray, List.set_cons_zero, List.set_cons_succ]
      refine wpAnyH_take (i := 16) (oi := ⟨some 85, _, _, _, _, _⟩) (v := ?_) rfl (by kernel_rfl) (by kernel_rfl) (by kernel_rfl) (fun _ _ _ h => h) (Or.inl ⟨by rfl, ?_⟩) (by assumption) ?_
      rotate_left
      · intro W hSw; go_simp; try (with_reducible rfl)
      try simp only [Act.put, List.setIfInBounds_toArray, List.set_cons_zero, List.set_cons_succ]
      refine wpAnyH_take (i := 17) (oi := ⟨some 86, _, _, _, _, _⟩) (v := ?_) rfl (by kernel_rfl) (by kernel_rfl) (by kernel_rfl) (fun _ _ _ h => h) (Or.inl ⟨by rfl, ?_⟩) (by assumption) ?_
      rotate_left
      · intro W hSw; go_simp; try (with_reducible rfl)
      try simp only [Act.put, List.setIfInBounds_toArray, List.set_cons_zero, List.set_cons_succ]
      refine wpAnyH_take (i := 18) (oi := ⟨some 87, _, _, _, _, _⟩) rfl (by kernel_rfl) (by kernel_rfl) (by kernel_rfl) (fun _ _ _ h => h) (yieldsIf_load_mid (by rfl) _ _ rfl _ _ rfl _ _ (fun _ h => h.1) under_id rfl size_id) (by assumption) ?_
      try simp only [Act.put, List.setIfInBounds_toArray, List.set_cons_zero, List.set_cons_succ]
      refine wpAnyH_take (i := 19) (oi := ⟨some 88, _, _, _, _, _⟩) (v := ?_) rfl (by kernel_rfl) (by kernel_rfl) (by kernel_rfl) (fun _ _ _ h => h) (Or.inl ⟨by rfl, ?_⟩) (by assumption) ?_
      rotate_left
      · intro W hSw; go_simp; try (with_reducible rfl)
      try simp only [Act.put, List.setIfInBounds_toArray, List.set_cons_zero, List.set_cons_succ]
      refine wpAnyH_take (i := 21) (oi := ⟨some 90, _, _, _, _, _⟩) rfl (by kernel_rfl) (by kernel_rfl) (by kernel_rfl) (fun _ _ _ h => h) (yieldsIf_load_mid (by rfl) _ _ rfl _ _ rfl _ _ (fun _ h => h.2) under_id rfl size_id) (by assumption) ?_
      try simp only [Act.put, List.setIfInBounds_toArray, List.set_cons_zero, List.set_cons_succ]
      refine wpAnyH_take (i := 22) (oi := ⟨some 91, _, _, _, _, _⟩) (v := ?_) rfl (by kernel_rfl) (by kernel_rfl) (by kernel_rfl) (fun _ _ _ h => h) (Or.inl ⟨by rfl, ?_⟩) (by assumption) ?_
      rotate_left
      · intro W hSw; go_simp; try (with_reducible rfl)
      try simp only [Act.put, List.setIfInBounds_toArray, List.set_cons_zero, List.set_cons_succ]
      refine wpAnyH_ready (rs := [20]) (by kernel_rfl) (by simp) ?_
      refine AllReadyH.cons (o := ⟨some 89, _, _, _, _, _⟩) rfl (fun K hK => ?_) AllReadyH.nil
      go_simp
      ((with_reducible refine (HOa.out _ _ _ _ O9.out HLx.out HCx.out.1 HCx.out.2).mono ?_); rintro e w10 ⟨rfl, hb10⟩; have A10 := Lib.hid (sum_below A9.out hb10 A9.out.2.lt); have B10 := Lib.hid (sum_below B9.out hb10 B9.out.2.lt); have O10 := Lib.hid (O9.out.below hb10 (Nat.le_refl _)); have P10 := Lib.hid (P9.out.below hb10 (Nat.le_refl _)); have R10 := Lib.hid (R9.out.below hb10 R9.out.lt); have X10 := Lib.hid (X9.out.below hb10 X9.out.lt); have s10 := Lib.hid (And.intro (key_range R10.out) (key_range X10.out)); have N10 := Lib.hid (N9.out.trans (hb10.mono N9.out.size)); clear hb10)
      try go_wp2_with fail
      refine hK.out _ _ (by exact s10.out) (fun hHeld => ?_)
      clear hK K
      try simp only [Act.put, List.setIfInBounds_toArray, List.set_cons_zero, List.set_cons_succ]
      refine wpAnyH_ready (rs := [23]) (by kernel_rfl) (by simp) ?_
      refine AllReadyH.cons (o := ⟨some 92, _, _, _, _, _⟩) rfl (fun K hK => ?_) AllReadyH.nil
      go_simp
      ((with_reducible refine (HOb.out _ _ _ _ O10.out HLx.out HCx.out.1 HCx.out.2).mono ?_); rintro e w11 ⟨rfl, hb11⟩; have A11 := Lib.hid (sum_below A10.out hb11 A10.out.2.lt); have B11 := Lib.hid (sum_below B10.out hb11 B10.out.2.lt); have O11 := Lib.hid (O10.out.below hb11 (Nat.le_refl _)); have P11 := Lib.hid (P10.out.below hb11 (Nat.le_refl _)); have R11 := Lib.hid (R10.out.below hb11 R10.out.lt); have X11 := Lib.hid (X10.out.below hb11 X10.out.lt); have s11 := Lib.hid (And.intro (key_range R11.out) (key_range X11.out)); have N11 := Lib.hid (N10.out.trans (hb11.mono N10.out.size)); clear hb11)
      try go_wp2_with fail
      refine hK.out _ _ (by exact s11.out) (fun hHeld => ?_)
      clear hK K
      try simp only [Act.put, List.setIfInBounds_toArray, List.set_cons_zero, List.set_cons_succ]
      refine wpAnyH_take (i := 24) (oi := ⟨some 93, _, _, _, _, _⟩) (v := ?_) rfl (by kernel_rfl) (by kernel_rfl) (by kernel_rfl) (fun _ _ _ h => h) (Or.inl ⟨by rfl, ?_⟩) (by assumption) ?_
      rotate_left
      · intro W hSw; go_simp; try (with_reducible rfl)
      try simp only [Act.put, List.setIfInBounds_toArray, List.set_cons_zero, List.set_cons_succ]
      refine wpAnyH_take (i := 25) (oi := ⟨some 94, _, _, _, _, _⟩) (v := ?_) rfl (by kernel_rfl) (by kernel_rfl) (by kernel_rfl) (fun _ _ _ h => h) (Or.inl ⟨by rfl, ?_⟩) (by assumption) ?_
      rotate_left
      · intro W hSw; go_simp; try (with_reducible rfl)
      try simp only [Act.put, List.setIfInBounds_toArray, List.set_cons_zero, List.set_cons_succ]
      refine wpAnyH_take (i := 26) (oi := ⟨some 6, _, _, _, _, _⟩) (v := ?_) rfl (by kernel_rfl) (by kernel_rfl) (by kernel_rfl) (fun _ _ _ h => h) (Or.inl ⟨by rfl, ?_⟩) (by assumption) ?_
      rotate_left
      · intro W hSw; go_simp; try (with_reducible rfl)
      try simp only [Act.put, List.setIfInBounds_toArray, List.set_cons_zero, List.set_cons_succ]
      refine wpAnyH_done (by kernel_rfl) ?_ _
      refine NoPanic.normal ?_
      go_wp2
      go_ret
      exact ⟨rfl, N11.out⟩

theorem walk (a0 : Option Addr) (len0 cap0 : Nat) (A0 : Nat → Option Addr) (L0 C0 : Nat → Nat) (Z0 : Nat → List Int) (K1 K2 : Nat → Int) (w : World) (w0 : IsRows .u8 w a0 len0 cap0 A0 L0 C0 Z0) (w1 : IdOk K1) (w2 : IdOk K2) :
    Calls Try.prog 5 #[.slice a0 len0 cap0, idV K1, idV K2] w fun e w' => e = .returned (.bool true) ∧ Below w.heap.size w w' := by
  obtain ⟨hr, _, _⟩ := rows_in w0
  by_cases h1 : 30 < len0
  · exact walk_long a0 len0 cap0 K1 K2 w h1
  · exact walk_main a0 len0 cap0 A0 L0 C0 _ K1 K2 w hr w1 w2 (by omega)
end Go.Proofs.Ytmkpeidgimgdlaa.HashApartW
