/-
  Texts beneath the proof, one behind the other.
-/
import Derived.Deep.RegionHeld3
import Derived.Test.YtpfkhcgeblihcaaQa11
import Derived.Test.YtpfkhcgeblihcaaQa5

/-
  Whether a match is right: the program's way.
-/
namespace Go.Proofs.Ytpfkhcgeblihcaa.Qw
open Go.ChangeShapes Go.WideShapes Go.ChangeAt Go.RowKit
open Bytes8 Blk8 Own8 OwnE Fa Fb Fc Fo Pr8 Pv8 Qa Qb Qc Qd Qv
set_option linter.unusedVariables false
set_option maxRecDepth 100000
set_option linter.unusedSimpArgs false

theorem run_geq_str (a b : ByteArray) (w : World) : (binOp .geq 9 (.string a) (.string b)).run Try.prog w = .ok (.bool !(Op.bytesLess a.toList b.toList)) w := by
  simp [binOp, run_underlying Try.underlying9, go_sem, Op.stringOp]
theorem geq_T {l m : List Int} (hl : AllB l) (hm : AllB m) {z : Bool} (h : (!ltL l m) = z) (w : World) : (binOp .geq 9 (.string (T l)) (.string (T m))).run Try.prog w = .ok (.bool z) w := by
  rw [run_geq_str, bytesLess_T hl hm, h]
theorem rA_long {a : AL} {i : Nat} (hi : i < a.2.length) (h : 256 < (a.2.getD i []).length) : rA a = false := by
  cases e : rA a with
  | false => rfl
  | true =>
    unfold rA at e
    rw [Bool.and_eq_true, decide_eq_true_eq] at e
    have := (e.1 i hi).1
    omega
theorem rA_fall {a : AL} {i : Nat} (hi : i < a.2.length) (h0 : 0 < i) (h : ltL (a.2.getD (i - 1) []) (a.2.getD i []) = false) : rA a = false := by
  cases e : rA a with
  | false => rfl
  | true =>
    unfold rA at e
    rw [Bool.and_eq_true, decide_eq_true_eq] at e
    have := (e.1 i hi).2 h0
    rw [h] at this; cases this
theorem rA_all {a : AL} (h : ∀ i, i < a.2.length → (a.2.getD i []).length ≤ 256 ∧ (0 < i → ltL (a.2.getD (i - 1) []) (a.2.getD i []) = true)) : rA a = (decide (0 < a.2.length) && nmB a.1) := by
  unfold rA
  rw [decide_eq_true h, Bool.true_and]

set_option maxHeartbeats 4000000 in
theorem rightalt_any (a : AL) (A : Option Addr) (c : Nat) (w : World) (hT : Txts w A a.2) (ha : OkA a) :
    Calls Try.prog 38 #[alV a A c] w fun e w' => e = .returned (.bool (rA a)) ∧ Grew w w' := by
  have hn := ha.2.2
  unfold maxLen at hn
  have HLong := Lib.hid fun i => rA_long (a := a) (i := i)
  have HFall := Lib.hid fun i => rA_fall (a := a) (i := i)
  have HAll := Lib.hid (rA_all (a := a))
  have HNm := Lib.hid fun W => name_any a.1 ha.1.1 W
  have HV := Lib.hid fun i (hi : i < a.2.length) => (ha.2.1 _ (getD_in hi (d := []))).1
  have b1 := (Below.refl w.heap.size w).alloc (Nat.le_refl _) (.cells #[.string (T a.1), .slice A a.2.length c] 38)
  have R1 := Lib.hid (Blk.new w (alC a A c) 38)
  have HT := Lib.hid (hT.below b1)
  have HB1 := Lib.hid (Grew.boxed w (.cells #[.string (T a.1), .slice A a.2.length c] 38))
  dsimp only [alV, alC] at *
  obtain ⟨an, av⟩ := a
  dsimp only at *
  obtain ⟨n, hL⟩ : ∃ n, av.length = n := ⟨_, rfl⟩
  have HL := Lib.hid hL
  rw [hL] at hn R1 HB1 HT ⊢
  clear hT ha b1 hL
  generalize T an = SN at *
  go_enter Try.func38, Try.ntmps38
  go_upto_region 1 with fail
  change Hid (Blk (w.alloc (.cells #[.string SN, .slice A n c] 38)) w.heap.size _ _) at R1
  generalize w.alloc (.cells #[.string SN, .slice A n c] 38) = w1 at *
  have r0 := R1.out.cell (i := 0) rfl
  have r1 := R1.out.cell (i := 1) rfl
  go_wp2_with fail
  go_loopw [8] (fun i wr => ∃ j : Nat, j ≤ n ∧ i = .int .i64 (j : Int) ∧ Hid (∀ x, x < j → (av.getD x []).length ≤ 256 ∧ (0 < x → ltL (av.getD (x - 1) []) (av.getD x []) = true)) ∧ Hid (w1 = wr)) (fun i _ => n - (intOf i).toNat)
  case atStart => exact ⟨0, by omega, rfl, Lib.hid (fun k hk => absurd hk (by omega)), Lib.hid rfl⟩
  case round =>
    obtain ⟨j, hj, rfl, hall, hB⟩ := hrel
    obtain rfl := hB.out
    clear hB
    rcases Nat.lt_or_ge j n with hlt | hge
    · obtain ⟨b1, off1, rfl, hbl1, hc0⟩ := HT.out j (by have := HL.out; omega)
      have hin : (j : Int) < (n : Int) := by omega
      have hsz := T_size (av.getD j [])
      have HLj := Lib.hid (HLong.out j (by have := HL.out; omega))
      have HFj := Lib.hid (HFall.out j (by have := HL.out; omega))
      have HVj := Lib.hid (HV.out j (by have := HL.out; omega))
      by_cases h256 : (av.getD j []).length ≤ 256
      · have hle : ¬ (256 : Int) < ((av.getD j []).length : Int) := by omega
        have hld : decide ((256 : Int) < ((av.getD j []).length : Int)) = false := decide_eq_false hle
        by_cases hj0 : j = 0
        · have hz : ¬ (0 : Int) < (j : Int) := by omega
          have hzd : decide ((0 : Int) < (j : Int)) = false := decide_eq_false hz
          have hall2 := Lib.hid (fun x (hx : x < j + 1) => (by
            obtain rfl : x = j := by omega
            exact ⟨h256, fun h => absurd h (by omega)⟩ : (av.getD x []).length ≤ 256 ∧ (0 < x → ltL (av.getD (x - 1) []) (av.getD x []) = true)))
          clear hall hj0 h256 HLj HFj
          generalize (av.getD j []).length = le at *
          generalize T (av.getD j []) = E1 at *
          go_wp2_with fail
          go_round
          case rel => exact ⟨j + 1, by omega, by go_num, hall2, Lib.hid trivial⟩
          case measure => simp [intOf]; omega
        · obtain ⟨q, hq⟩ : ∃ q, j = q + 1 := ⟨j - 1, by omega⟩
          have hz : (0 : Int) < (j : Int) := by omega
          have hzd : decide ((0 : Int) < (j : Int)) = true := decide_eq_true hz
          have hcq : w1.cell? ⟨b1, off1 + q, none⟩ = some (.string (T (av.getD q []))) := by
            obtain ⟨b2, off2, e, _, hc⟩ := HT.out q (by have := HL.out; omega)
            injection e with e; injection e with e1 e2; subst e1; subst e2
            exact hc
          have hm1 : (j : Int) - 1 = (q : Int) := by omega
          have hq1 : (q : Int) < (n : Int) := by omega
          have hjq : j - 1 = q := by omega
          rw [hjq] at HFj
          have hVq := HV.out q (by have := HL.out; omega)
          cases hl : ltL (av.getD q []) (av.getD j []) with
          | true =>
            have hge : ∀ W : World, (binOp .geq 9 (.string (T (av.getD q []))) (.string (T (av.getD j [])))).run Try.prog W = .ok (.bool false) W := geq_T hVq HVj.out (by rw [hl]; rfl)
            have hall2 := Lib.hid (fun x (hx : x < j + 1) => (by
              rcases Nat.lt_or_ge x j with h | h
              · exact hall.out x h
              · obtain rfl : x = j := by omega
                exact ⟨h256, fun _ => by rw [hjq]; exact hl⟩ : (av.getD x []).length ≤ 256 ∧ (0 < x → ltL (av.getD (x - 1) []) (av.getD x []) = true)))
            clear hall hj0 h256 HLj HFj HVj hVq hl hq hjq
            generalize (av.getD j []).length = le at *
            generalize T (av.getD j []) = E1 at *
            generalize T (av.getD q []) = E2 at *
            go_wp2_with fail
            go_round
            case rel => exact ⟨j + 1, by omega, by go_num, hall2, Lib.hid trivial⟩
            case measure => simp [intOf]; omega
          | false =>
            have hge : ∀ W : World, (binOp .geq 9 (.string (T (av.getD q []))) (.string (T (av.getD j [])))).run Try.prog W = .ok (.bool true) W := geq_T hVq HVj.out (by rw [hl]; rfl)
            have HR := Lib.hid (HFj.out (by omega) hl)
            clear hall hj0 h256 HLj HFj HVj hVq hl hq hjq
            generalize (av.getD j []).length = le at *
            generalize T (av.getD j []) = E1 at *
            generalize T (av.getD q []) = E2 at *
            go_wp2_with fail
            go_ret
            exact ⟨by rw [HR.out]; rfl, HB1.out⟩
      · have hle : (256 : Int) < ((av.getD j []).length : Int) := by omega
        have hld : decide ((256 : Int) < ((av.getD j []).length : Int)) = true := decide_eq_true hle
        have HR := Lib.hid (HLj.out (by omega))
        clear hall h256 HLj HFj HVj
        generalize (av.getD j []).length = le at *
        generalize T (av.getD j []) = E1 at *
        go_wp2_with fail
        go_ret
        exact ⟨by rw [HR.out]; rfl, HB1.out⟩
    · obtain rfl : j = n := by omega
      have HR := Lib.hid (HAll.out fun i hi => hall.out i (by have := HL.out; omega))
      rw [HL.out] at HR
      clear hall HAll
      by_cases hj0 : j = 0
      · have hz : ¬ (0 : Int) < (j : Int) := by omega
        have hzd : decide ((0 : Int) < (j : Int)) = false := decide_eq_false hz
        rw [decide_eq_false (by omega : ¬ 0 < j)] at HR
        clear hj0
        go_wp2_with fail
        go_ret
        exact ⟨by rw [HR.out]; rfl, HB1.out⟩
      · have hz : (0 : Int) < (j : Int) := by omega
        have hzd : decide ((0 : Int) < (j : Int)) = true := decide_eq_true hz
        rw [decide_eq_true (by omega : 0 < j), Bool.true_and] at HR
        clear hj0
        generalize nmB an = nb at *
        go_wp2_with (go_at_call 36; (with_reducible refine (HNm.out _).mono ?_); rintro e w3 ⟨rfl, rfl⟩)
        go_ret
        exact ⟨by rw [HR.out]; rfl, HB1.out⟩
theorem rR_alt {r : RW} {i : Nat} (hi : i < r.length) (h : rA (r.getD i nilA) = false) : rR r = false := by
  cases e : rR r with
  | false => rfl
  | true =>
    unfold rR at e
    rw [Bool.and_eq_true, decide_eq_true_eq] at e
    have := (e.1 i hi).1
    rw [h] at this; cases this
theorem rR_fall {r : RW} {i : Nat} (hi : i < r.length) (h0 : 0 < i) (h : ltL (r.getD (i - 1) nilA).1 (r.getD i nilA).1 = false) : rR r = false := by
  cases e : rR r with
  | false => rfl
  | true =>
    unfold rR at e
    rw [Bool.and_eq_true, decide_eq_true_eq] at e
    have := (e.1 i hi).2 h0
    rw [h] at this; cases this
theorem rR_all {r : RW} (h : ∀ i, i < r.length → rA (r.getD i nilA) = true ∧ (0 < i → ltL (r.getD (i - 1) nilA).1 (r.getD i nilA).1 = true)) : rR r = decide (0 < r.length) := by
  unfold rR
  rw [decide_eq_true h, Bool.true_and]
set_option maxHeartbeats 8000000 in
theorem rightrow_any (r : RW) (A : Option Addr) (c : Nat) (w : World) (hT : Als w A r) (hr : OkR r) :
    Calls Try.prog 21 #[.slice A r.length c] w fun e w' => e = .returned (.bool (rR r)) ∧ Below w.heap.size w w' := by
  have hn := hr.2
  unfold maxLen at hn
  have HT := Lib.hid hT
  have HO := Lib.hid fun i hi => alt_ok hr (i := i) hi
  have HBad := Lib.hid fun i => rR_alt (r := r) (i := i)
  have HFall := Lib.hid fun i => rR_fall (r := r) (i := i)
  have HAll := Lib.hid (rR_all (r := r))
  obtain ⟨n, hL⟩ : ∃ n, r.length = n := ⟨_, rfl⟩
  have HL := Lib.hid hL
  rw [hL] at hn ⊢
  clear hT hr hL
  have hmx : Try.prog.follows .mixedOrders = true := by kernel_rfl
  go_enter Try.func21, Try.ntmps21
  go_wp2_with fail
  go_loopw [7] (fun i wr => ∃ j : Nat, j ≤ n ∧ i = .int .i64 (j : Int) ∧ Hid (∀ x, x < j → rA (r.getD x nilA) = true ∧ (0 < x → ltL (r.getD (x - 1) nilA).1 (r.getD x nilA).1 = true)) ∧ Hid (Below w.heap.size w wr)) (fun i _ => n - (intOf i).toNat)
  case atStart => exact ⟨0, by omega, rfl, Lib.hid (fun k hk => absurd hk (by omega)), Lib.hid (Below.refl _ _)⟩
  case round =>
    obtain ⟨j, hj, rfl, hall, hB⟩ := hrel
    rcases Nat.lt_or_ge j n with hlt | hge
    · obtain ⟨b1, off1, A1, c1, rfl, hbl1, hc0, hc1, hT1⟩ := (HT.out.below hB.out) j (by have := HL.out; omega)
      have hin : (j : Int) < (n : Int) := by omega
      have hoj := HO.out j (by have := HL.out; omega)
      have HLj := Lib.hid (HBad.out j (by have := HL.out; omega))
      have HFj := Lib.hid (HFall.out j (by have := HL.out; omega))
      have b2 := (Below.refl wr.heap.size wr).alloc (Nat.le_refl _) (.cells #[.string (T (r.getD j nilA).1), .slice A1 (r.getD j nilA).2.length c1] 38)
      have R2 := Lib.hid (Blk.new wr [.string (T (r.getD j nilA).1), .slice A1 (r.getD j nilA).2.length c1] 38)
      have HC := Lib.hid fun (W : World) (hW : Below (wr.alloc (.cells #[.string (T (r.getD j nilA).1), .slice A1 (r.getD j nilA).2.length c1] 38)).heap.size (wr.alloc (.cells #[.string (T (r.getD j nilA).1), .slice A1 (r.getD j nilA).2.length c1] 38)) W) => rightalt_any (r.getD j nilA) A1 c1 W ((hT1.below b2).below hW) hoj
      have BB := Lib.hid (hB.out.trans (b2.mono hB.out.size))
      dsimp only [alV] at HC
      have HTw := Lib.hid (HT.out.below hB.out)
      have HB2 := Lib.hid b2
      clear hT1 hB b2
      obtain ⟨E1, hE1⟩ : ∃ E, T (r.getD j nilA).1 = E := ⟨_, rfl⟩
      obtain ⟨n1, hn1⟩ : ∃ n1, (r.getD j nilA).2.length = n1 := ⟨_, rfl⟩
      obtain ⟨z1, hz1⟩ : ∃ z, rA (r.getD j nilA) = z := ⟨_, rfl⟩
      have HE1 := Lib.hid hE1
      rw [hE1, hn1] at BB R2 HC HB2
      rw [hE1] at hc0
      rw [hn1] at hc1
      rw [hz1] at HC HLj
      have HZ1 := Lib.hid hz1
      clear hE1 hn1 hz1
      by_cases hj0 : j = 0
      · have hz : ¬ (0 : Int) < (j : Int) := by omega
        have hzn : decide (0 < j) = false := decide_eq_false (by omega)
        have HJ0 := Lib.hid hj0
        clear hj0
        go_upto_region 4 with fail
        generalize wr.alloc (.cells #[.string E1, .slice A1 n1 c1] 38) = w2 at *
        generalize wr.heap.size = g2 at *
        have x0 := R2.out.cell (i := 0) rfl
        have x1 := R2.out.cell (i := 1) rfl
        cases z1 with
        | false =>
          have HR := Lib.hid (HLj.out rfl)
          clear hall HJ0 HLj HFj HZ1
          refine wp_region_noPanic ?_
          refine wp_region_held_drew (S := (fun W => W.cell? ⟨g2, 0, none⟩ = some (.string E1) ∧ W.cell? ⟨g2, 1, none⟩ = some (.slice A1 n1 c1))) (by kernel_rfl) (by exact ⟨x0, x1⟩) (fun hHeld => ?_)
          refine wpAnyH_take (i := 0) (oi := ⟨some 12, _, _, _, _, _⟩) (v := ?_) rfl (by kernel_rfl) (by kernel_rfl) (by kernel_rfl) (fun _ _ _ h => h) (Or.inl ⟨by rfl, ?_⟩) (by assumption) ?_
          rotate_left
          · intro W hSw; go_simp; try (with_reducible rfl)
          try simp only [Act.put, List.setIfInBounds_toArray, List.set_cons_zero, List.set_cons_succ]
          try rw [hzn]
          refine wpAnyH_ready (rs := [1]) (by kernel_rfl) (by simp) ?_
          refine AllReadyH.cons (o := ⟨some 13, _, _, _, _, _⟩) rfl (fun K hK => ?_) AllReadyH.nil
          go_simp
          (go_at_call 38; (with_reducible refine (HC.out _ (by first | (with_reducible exact Below.refl _ _) | (with_reducible exact (Below.refl _ _).drew))).mono ?_); rintro e w3 ⟨rfl, hg3⟩; have hb3 : Below w2.heap.size w2 w3 := ((Below.refl w2.heap.size w2).drew).trans (hg3.below.mono (Nat.le_refl _)); have y0 := (R2.out.below hb3 R2.out.lt).cell (i := 0) rfl; have y1 := (R2.out.below hb3 R2.out.lt).cell (i := 1) rfl)
          try go_wp2_with fail
          refine hK.out _ _ (by exact ⟨y0, y1⟩) (fun hHeld => ?_)
          clear hK K
          try simp only [Act.put, List.setIfInBounds_toArray, List.set_cons_zero, List.set_cons_succ]
          try rw [hzn]
          refine wpAnyH_take (i := 2) (oi := ⟨some 14, _, _, _, _, _⟩) (v := ?_) rfl (by kernel_rfl) (by kernel_rfl) (by kernel_rfl) (fun _ _ _ h => h) (Or.inl ⟨by rfl, ?_⟩) (by assumption) ?_
          rotate_left
          · intro W hSw; go_simp; try (with_reducible rfl)
          try simp only [Act.put, List.setIfInBounds_toArray, List.set_cons_zero, List.set_cons_succ]
          try rw [hzn]
          refine wpAnyH_take (i := 3) (oi := ⟨some 15, _, _, _, _, _⟩) (v := ?_) rfl (by kernel_rfl) (by kernel_rfl) (by kernel_rfl) (fun _ _ _ h => h) (Or.inl ⟨by rfl, ?_⟩) (by assumption) ?_
          rotate_left
          · intro W hSw; go_simp; try (with_reducible rfl)
          try simp only [Act.put, List.setIfInBounds_toArray, List.set_cons_zero, List.set_cons_succ]
          try rw [hzn]
          refine wpAnyH_take (i := 4) (oi := ⟨some 16, _, _, _, _, _⟩) (v := undef) rfl (by kernel_rfl) (by kernel_rfl) (by kernel_rfl) (fun _ _ _ h => h) (Or.inr ⟨by rfl, rfl⟩) (by assumption) ?_
          try simp only [Act.put, List.setIfInBounds_toArray, List.set_cons_zero, List.set_cons_succ]
          try rw [hzn]
          refine wpAnyH_take (i := 5) (oi := ⟨some 17, _, _, _, _, _⟩) (v := undef) rfl (by kernel_rfl) (by kernel_rfl) (by kernel_rfl) (fun _ _ _ h => h) (Or.inr ⟨by rfl, rfl⟩) (by assumption) ?_
          try simp only [Act.put, List.setIfInBounds_toArray, List.set_cons_zero, List.set_cons_succ]
          try rw [hzn]
          refine wpAnyH_take (i := 6) (oi := ⟨some 18, _, _, _, _, _⟩) (v := undef) rfl (by kernel_rfl) (by kernel_rfl) (by kernel_rfl) (fun _ _ _ h => h) (Or.inr ⟨by rfl, rfl⟩) (by assumption) ?_
          try simp only [Act.put, List.setIfInBounds_toArray, List.set_cons_zero, List.set_cons_succ]
          try rw [hzn]
          refine wpAnyH_take (i := 7) (oi := ⟨some 19, _, _, _, _, _⟩) (v := undef) rfl (by kernel_rfl) (by kernel_rfl) (by kernel_rfl) (fun _ _ _ h => h) (Or.inr ⟨by rfl, rfl⟩) (by assumption) ?_
          try simp only [Act.put, List.setIfInBounds_toArray, List.set_cons_zero, List.set_cons_succ]
          try rw [hzn]
          refine wpAnyH_take (i := 8) (oi := ⟨some 20, _, _, _, _, _⟩) (v := undef) rfl (by kernel_rfl) (by kernel_rfl) (by kernel_rfl) (fun _ _ _ h => h) (Or.inr ⟨by rfl, rfl⟩) (by assumption) ?_
          try simp only [Act.put, List.setIfInBounds_toArray, List.set_cons_zero, List.set_cons_succ]
          try rw [hzn]
          refine wpAnyH_take (i := 9) (oi := ⟨some 21, _, _, _, _, _⟩) (v := undef) rfl (by kernel_rfl) (by kernel_rfl) (by kernel_rfl) (fun _ _ _ h => h) (Or.inr ⟨by rfl, rfl⟩) (by assumption) ?_
          try simp only [Act.put, List.setIfInBounds_toArray, List.set_cons_zero, List.set_cons_succ]
          try rw [hzn]
          refine wpAnyH_take (i := 10) (oi := ⟨some 22, _, _, _, _, _⟩) (v := undef) rfl (by kernel_rfl) (by kernel_rfl) (by kernel_rfl) (fun _ _ _ h => h) (Or.inr ⟨by rfl, rfl⟩) (by assumption) ?_
          try simp only [Act.put, List.setIfInBounds_toArray, List.set_cons_zero, List.set_cons_succ]
          try rw [hzn]
          refine wpAnyH_take (i := 11) (oi := ⟨some 23, _, _, _, _, _⟩) (v := undef) rfl (by kernel_rfl) (by kernel_rfl) (by kernel_rfl) (fun _ _ _ h => h) (Or.inr ⟨by rfl, rfl⟩) (by assumption) ?_
          try simp only [Act.put, List.setIfInBounds_toArray, List.set_cons_zero, List.set_cons_succ]
          try rw [hzn]
          refine wpAnyH_take (i := 12) (oi := ⟨some 24, _, _, _, _, _⟩) (v := undef) rfl (by kernel_rfl) (by kernel_rfl) (by kernel_rfl) (fun _ _ _ h => h) (Or.inr ⟨by rfl, rfl⟩) (by assumption) ?_
          try simp only [Act.put, List.setIfInBounds_toArray, List.set_cons_zero, List.set_cons_succ]
          try rw [hzn]
          refine wpAnyH_take (i := 13) (oi := ⟨some 25, _, _, _, _, _⟩) (v := undef) rfl (by kernel_rfl) (by kernel_rfl) (by kernel_rfl) (fun _ _ _ h => h) (Or.inr ⟨by rfl, rfl⟩) (by assumption) ?_
          try simp only [Act.put, List.setIfInBounds_toArray, List.set_cons_zero, List.set_cons_succ]
          try rw [hzn]
          refine wpAnyH_take (i := 14) (oi := ⟨some 26, _, _, _, _, _⟩) (v := undef) rfl (by kernel_rfl) (by kernel_rfl) (by kernel_rfl) (fun _ _ _ h => h) (Or.inr ⟨by rfl, rfl⟩) (by assumption) ?_
          try simp only [Act.put, List.setIfInBounds_toArray, List.set_cons_zero, List.set_cons_succ]
          try rw [hzn]
          refine wpAnyH_take (i := 15) (oi := ⟨some 27, _, _, _, _, _⟩) (v := undef) rfl (by kernel_rfl) (by kernel_rfl) (by kernel_rfl) (fun _ _ _ h => h) (Or.inr ⟨by rfl, rfl⟩) (by assumption) ?_
          try simp only [Act.put, List.setIfInBounds_toArray, List.set_cons_zero, List.set_cons_succ]
          try rw [hzn]
          refine wpAnyH_take (i := 16) (oi := ⟨some 28, _, _, _, _, _⟩) (v := undef) rfl (by kernel_rfl) (by kernel_rfl) (by kernel_rfl) (fun _ _ _ h => h) (Or.inr ⟨by rfl, rfl⟩) (by assumption) ?_
          try simp only [Act.put, List.setIfInBounds_toArray, List.set_cons_zero, List.set_cons_succ]
          try rw [hzn]
          refine wpAnyH_take (i := 17) (oi := ⟨some 29, _, _, _, _, _⟩) (v := ?_) rfl (by kernel_rfl) (by kernel_rfl) (by kernel_rfl) (fun _ _ _ h => h) (Or.inl ⟨by rfl, ?_⟩) (by assumption) ?_
          rotate_left
          · intro W hSw; go_simp; try (with_reducible rfl)
          try simp only [Act.put, List.setIfInBounds_toArray, List.set_cons_zero, List.set_cons_succ]
          try rw [hzn]
          refine wpAnyH_done (by kernel_rfl) ?_ _
          refine NoPanic.normal ?_
          go_wp2_with fail
          go_ret
          exact ⟨by rw [HR.out]; rfl, BB.out.trans (hb3.mono BB.out.size)⟩
        | true =>
          have hall2 := Lib.hid (fun x (hx : x < j + 1) => (by
            obtain rfl : x = j := by have := HJ0.out; omega
            exact ⟨HZ1.out, fun h => absurd h (by have := HJ0.out; omega)⟩ : rA (r.getD x nilA) = true ∧ (0 < x → ltL (r.getD (x - 1) nilA).1 (r.getD x nilA).1 = true)))
          clear hall HJ0 HLj HFj HZ1
          refine wp_region_noPanic ?_
          refine wp_region_held_drew (S := (fun W => W.cell? ⟨g2, 0, none⟩ = some (.string E1) ∧ W.cell? ⟨g2, 1, none⟩ = some (.slice A1 n1 c1))) (by kernel_rfl) (by exact ⟨x0, x1⟩) (fun hHeld => ?_)
          refine wpAnyH_take (i := 0) (oi := ⟨some 12, _, _, _, _, _⟩) (v := ?_) rfl (by kernel_rfl) (by kernel_rfl) (by kernel_rfl) (fun _ _ _ h => h) (Or.inl ⟨by rfl, ?_⟩) (by assumption) ?_
          rotate_left
          · intro W hSw; go_simp; try (with_reducible rfl)
          try simp only [Act.put, List.setIfInBounds_toArray, List.set_cons_zero, List.set_cons_succ]
          try rw [hzn]
          refine wpAnyH_ready (rs := [1]) (by kernel_rfl) (by simp) ?_
          refine AllReadyH.cons (o := ⟨some 13, _, _, _, _, _⟩) rfl (fun K hK => ?_) AllReadyH.nil
          go_simp
          (go_at_call 38; (with_reducible refine (HC.out _ (by first | (with_reducible exact Below.refl _ _) | (with_reducible exact (Below.refl _ _).drew))).mono ?_); rintro e w3 ⟨rfl, hg3⟩; have hb3 : Below w2.heap.size w2 w3 := ((Below.refl w2.heap.size w2).drew).trans (hg3.below.mono (Nat.le_refl _)); have y0 := (R2.out.below hb3 R2.out.lt).cell (i := 0) rfl; have y1 := (R2.out.below hb3 R2.out.lt).cell (i := 1) rfl)
          try go_wp2_with fail
          refine hK.out _ _ (by exact ⟨y0, y1⟩) (fun hHeld => ?_)
          clear hK K
          try simp only [Act.put, List.setIfInBounds_toArray, List.set_cons_zero, List.set_cons_succ]
          try rw [hzn]
          refine wpAnyH_take (i := 2) (oi := ⟨some 14, _, _, _, _, _⟩) (v := ?_) rfl (by kernel_rfl) (by kernel_rfl) (by kernel_rfl) (fun _ _ _ h => h) (Or.inl ⟨by rfl, ?_⟩) (by assumption) ?_
          rotate_left
          · intro W hSw; go_simp; try (with_reducible rfl)
          try simp only [Act.put, List.setIfInBounds_toArray, List.set_cons_zero, List.set_cons_succ]
          try rw [hzn]
          refine wpAnyH_take (i := 3) (oi := ⟨some 15, _, _, _, _, _⟩) (v := ?_) rfl (by kernel_rfl) (by kernel_rfl) (by kernel_rfl) (fun _ _ _ h => h) (Or.inl ⟨by rfl, ?_⟩) (by assumption) ?_
          rotate_left
          · intro W hSw; go_simp; try (with_reducible rfl)
          try simp only [Act.put, List.setIfInBounds_toArray, List.set_cons_zero, List.set_cons_succ]
          try rw [hzn]
          refine wpAnyH_take (i := 4) (oi := ⟨some 16, _, _, _, _, _⟩) (v := ?_) rfl (by kernel_rfl) (by kernel_rfl) (by kernel_rfl) (fun _ _ _ h => h) (Or.inl ⟨by rfl, ?_⟩) (by assumption) ?_
          rotate_left
          · intro W hSw; go_simp; try (with_reducible rfl)
          try simp only [Act.put, List.setIfInBounds_toArray, List.set_cons_zero, List.set_cons_succ]
          try rw [hzn]
          refine wpAnyH_take (i := 5) (oi := ⟨some 17, _, _, _, _, _⟩) (v := ?_) rfl (by kernel_rfl) (by kernel_rfl) (by kernel_rfl) (fun _ _ _ h => h) (Or.inl ⟨by rfl, ?_⟩) (by assumption) ?_
          rotate_left
          · intro W hSw; go_simp; try (with_reducible rfl)
          try simp only [Act.put, List.setIfInBounds_toArray, List.set_cons_zero, List.set_cons_succ]
          try rw [hzn]
          refine wpAnyH_take (i := 6) (oi := ⟨some 18, _, _, _, _, _⟩) (v := ?_) rfl (by kernel_rfl) (by kernel_rfl) (by kernel_rfl) (fun _ _ _ h => h) (Or.inl ⟨by rfl, ?_⟩) (by assumption) ?_
          rotate_left
          · intro W hSw; go_simp; try (with_reducible rfl)
          try simp only [Act.put, List.setIfInBounds_toArray, List.set_cons_zero, List.set_cons_succ]
          try rw [hzn]
          refine wpAnyH_take (i := 7) (oi := ⟨some 19, _, _, _, _, _⟩) (v := undef) rfl (by kernel_rfl) (by kernel_rfl) (by kernel_rfl) (fun _ _ _ h => h) (Or.inr ⟨by rfl, rfl⟩) (by assumption) ?_
          try simp only [Act.put, List.setIfInBounds_toArray, List.set_cons_zero, List.set_cons_succ]
          try rw [hzn]
          refine wpAnyH_take (i := 8) (oi := ⟨some 20, _, _, _, _, _⟩) (v := undef) rfl (by kernel_rfl) (by kernel_rfl) (by kernel_rfl) (fun _ _ _ h => h) (Or.inr ⟨by rfl, rfl⟩) (by assumption) ?_
          try simp only [Act.put, List.setIfInBounds_toArray, List.set_cons_zero, List.set_cons_succ]
          try rw [hzn]
          refine wpAnyH_take (i := 9) (oi := ⟨some 21, _, _, _, _, _⟩) (v := undef) rfl (by kernel_rfl) (by kernel_rfl) (by kernel_rfl) (fun _ _ _ h => h) (Or.inr ⟨by rfl, rfl⟩) (by assumption) ?_
          try simp only [Act.put, List.setIfInBounds_toArray, List.set_cons_zero, List.set_cons_succ]
          try rw [hzn]
          refine wpAnyH_take (i := 10) (oi := ⟨some 22, _, _, _, _, _⟩) (v := undef) rfl (by kernel_rfl) (by kernel_rfl) (by kernel_rfl) (fun _ _ _ h => h) (Or.inr ⟨by rfl, rfl⟩) (by assumption) ?_
          try simp only [Act.put, List.setIfInBounds_toArray, List.set_cons_zero, List.set_cons_succ]
          try rw [hzn]
          refine wpAnyH_take (i := 11) (oi := ⟨some 23, _, _, _, _, _⟩) (v := undef) rfl (by kernel_rfl) (by kernel_rfl) (by kernel_rfl) (fun _ _ _ h => h) (Or.inr ⟨by rfl, rfl⟩) (by assumption) ?_
          try simp only [Act.put, List.setIfInBounds_toArray, List.set_cons_zero, List.set_cons_succ]
          try rw [hzn]
          refine wpAnyH_take (i := 12) (oi := ⟨some 24, _, _, _, _, _⟩) (v := undef) rfl (by kernel_rfl) (by kernel_rfl) (by kernel_rfl) (fun _ _ _ h => h) (Or.inr ⟨by rfl, rfl⟩) (by assumption) ?_
          try simp only [Act.put, List.setIfInBounds_toArray, List.set_cons_zero, List.set_cons_succ]
          try rw [hzn]
          refine wpAnyH_take (i := 13) (oi := ⟨some 25, _, _, _, _, _⟩) (v := undef) rfl (by kernel_rfl) (by kernel_rfl) (by kernel_rfl) (fun _ _ _ h => h) (Or.inr ⟨by rfl, rfl⟩) (by assumption) ?_
          try simp only [Act.put, List.setIfInBounds_toArray, List.set_cons_zero, List.set_cons_succ]
          try rw [hzn]
          refine wpAnyH_take (i := 14) (oi := ⟨some 26, _, _, _, _, _⟩) (v := undef) rfl (by kernel_rfl) (by kernel_rfl) (by kernel_rfl) (fun _ _ _ h => h) (Or.inr ⟨by rfl, rfl⟩) (by assumption) ?_
          try simp only [Act.put, List.setIfInBounds_toArray, List.set_cons_zero, List.set_cons_succ]
          try rw [hzn]
          refine wpAnyH_take (i := 15) (oi := ⟨some 27, _, _, _, _, _⟩) (v := undef) rfl (by kernel_rfl) (by kernel_rfl) (by kernel_rfl) (fun _ _ _ h => h) (Or.inr ⟨by rfl, rfl⟩) (by assumption) ?_
          try simp only [Act.put, List.setIfInBounds_toArray, List.set_cons_zero, List.set_cons_succ]
          try rw [hzn]
          refine wpAnyH_take (i := 16) (oi := ⟨some 28, _, _, _, _, _⟩) (v := ?_) rfl (by kernel_rfl) (by kernel_rfl) (by kernel_rfl) (fun _ _ _ h => h) (Or.inl ⟨by rfl, ?_⟩) (by assumption) ?_
          rotate_left
          · intro W hSw; go_simp; try (with_reducible rfl)
          try simp only [Act.put, List.setIfInBounds_toArray, List.set_cons_zero, List.set_cons_succ]
          try rw [hzn]
          refine wpAnyH_take (i := 17) (oi := ⟨some 29, _, _, _, _, _⟩) (v := ?_) rfl (by kernel_rfl) (by kernel_rfl) (by kernel_rfl) (fun _ _ _ h => h) (Or.inl ⟨by rfl, ?_⟩) (by assumption) ?_
          rotate_left
          · intro W hSw; go_simp; try (with_reducible rfl)
          try simp only [Act.put, List.setIfInBounds_toArray, List.set_cons_zero, List.set_cons_succ]
          try rw [hzn]
          refine wpAnyH_done (by kernel_rfl) ?_ _
          refine NoPanic.normal ?_
          go_wp2_with fail
          go_round
          case rel => exact ⟨j + 1, by omega, by go_num, hall2, Lib.hid (BB.out.trans (hb3.mono BB.out.size))⟩
          case measure => simp [intOf]; omega
      · obtain ⟨q, hq⟩ : ∃ q, j = q + 1 := ⟨j - 1, by omega⟩
        have hz : (0 : Int) < (j : Int) := by omega
        have hzn : decide (0 < j) = true := decide_eq_true (by omega)
        obtain ⟨b3, off3, A3, c3, e3, _, hcq, _, _⟩ := HTw.out q (by have := HL.out; omega)
        injection e3 with e3; injection e3 with e31 e32; subst e31; subst e32
        have hwq : IntKind.i64.wrap ((j : Int) - 1) = (q : Int) := by rw [IntKind.wrap_i64]; omega
        have hq0 : (0 : Int) ≤ (q : Int) := by omega
        have hq1 : (q : Int) < (n : Int) := by omega
        have hjq : j - 1 = q := by omega
        have hVq := (HO.out q (by have := HL.out; omega)).1.1
        have hVj := hoj.1.1
        have hgeq : ∀ z, (!ltL (r.getD q nilA).1 (r.getD j nilA).1) = z → ∀ W : World, (binOp .geq 9 (.string (T (r.getD q nilA).1)) (.string E1)).run Try.prog W = .ok (.bool z) W := fun z h => by
          rw [← HE1.out]; exact geq_T hVq hVj h
        obtain ⟨E2, hE2⟩ : ∃ E, T (r.getD q nilA).1 = E := ⟨_, rfl⟩
        rw [hE2] at hcq hgeq
        have HG := Lib.hid hgeq
        rw [hjq] at HFj
        obtain ⟨z2, hz2⟩ : ∃ z, ltL (r.getD q nilA).1 (r.getD j nilA).1 = z := ⟨_, rfl⟩
        rw [hz2] at HG HFj
        have HZ2 := Lib.hid hz2
        have HQ := Lib.hid hjq
        clear hgeq hE2 hVq hVj hz2 hjq hq hj0
        go_upto_region 4 with fail
        generalize wr.alloc (.cells #[.string E1, .slice A1 n1 c1] 38) = w2 at *
        have x2 : w2.cell? ⟨b1, off1 + q * 2, none⟩ = some (.string E2) := (Below.cell (p := ⟨b1, off1 + q * 2, none⟩) HB2.out hbl1).trans hcq
        generalize wr.heap.size = g2 at *
        have x0 := R2.out.cell (i := 0) rfl
        have x1 := R2.out.cell (i := 1) rfl
        have hbw : b1 < w2.heap.size := Nat.lt_of_lt_of_le hbl1 (Nat.le_of_lt R2.out.lt)
        cases z1 with
        | false =>
          have HR := Lib.hid (HLj.out rfl)
          clear hall HLj HFj HZ1 HZ2 HG hcq HQ
          refine wp_region_noPanic ?_
          refine wp_region_held_drew (S := (fun W => W.cell? ⟨g2, 0, none⟩ = some (.string E1) ∧ W.cell? ⟨g2, 1, none⟩ = some (.slice A1 n1 c1) ∧ W.cell? ⟨b1, off1 + q * 2, none⟩ = some (.string E2))) (by kernel_rfl) (by exact ⟨x0, x1, x2⟩) (fun hHeld => ?_)
          refine wpAnyH_take (i := 0) (oi := ⟨some 12, _, _, _, _, _⟩) (v := ?_) rfl (by kernel_rfl) (by kernel_rfl) (by kernel_rfl) (fun _ _ _ h => h) (Or.inl ⟨by rfl, ?_⟩) (by assumption) ?_
          rotate_left
          · intro W hSw; go_simp; try (with_reducible rfl)
          try simp only [Act.put, List.setIfInBounds_toArray, List.set_cons_zero, List.set_cons_succ]
          try rw [hzn]
          refine wpAnyH_ready (rs := [1]) (by kernel_rfl) (by simp) ?_
          refine AllReadyH.cons (o := ⟨some 13, _, _, _, _, _⟩) rfl (fun K hK => ?_) AllReadyH.nil
          go_simp
          (go_at_call 38; (with_reducible refine (HC.out _ (by first | (with_reducible exact Below.refl _ _) | (with_reducible exact (Below.refl _ _).drew))).mono ?_); rintro e w3 ⟨rfl, hg3⟩; have hb3 : Below w2.heap.size w2 w3 := ((Below.refl w2.heap.size w2).drew).trans (hg3.below.mono (Nat.le_refl _)); have y0 := (R2.out.below hb3 R2.out.lt).cell (i := 0) rfl; have y1 := (R2.out.below hb3 R2.out.lt).cell (i := 1) rfl; have y2 := (Below.cell (p := ⟨b1, off1 + q * 2, none⟩) hb3 hbw).trans x2)
          try go_wp2_with fail
          refine hK.out _ _ (by exact ⟨y0, y1, y2⟩) (fun hHeld => ?_)
          clear hK K
          try simp only [Act.put, List.setIfInBounds_toArray, List.set_cons_zero, List.set_cons_succ]
          try rw [hzn]
          refine wpAnyH_take (i := 2) (oi := ⟨some 14, _, _, _, _, _⟩) (v := ?_) rfl (by kernel_rfl) (by kernel_rfl) (by kernel_rfl) (fun _ _ _ h => h) (Or.inl ⟨by rfl, ?_⟩) (by assumption) ?_
          rotate_left
          · intro W hSw; go_simp; try (with_reducible rfl)
          try simp only [Act.put, List.setIfInBounds_toArray, List.set_cons_zero, List.set_cons_succ]
          try rw [hzn]
          refine wpAnyH_take (i := 3) (oi := ⟨some 15, _, _, _, _, _⟩) (v := ?_) rfl (by kernel_rfl) (by kernel_rfl) (by kernel_rfl) (fun _ _ _ h => h) (Or.inl ⟨by rfl, ?_⟩) (by assumption) ?_
          rotate_left
          · intro W hSw; go_simp; try (with_reducible rfl)
          try simp only [Act.put, List.setIfInBounds_toArray, List.set_cons_zero, List.set_cons_succ]
          try rw [hzn]
          refine wpAnyH_take (i := 4) (oi := ⟨some 16, _, _, _, _, _⟩) (v := undef) rfl (by kernel_rfl) (by kernel_rfl) (by kernel_rfl) (fun _ _ _ h => h) (Or.inr ⟨by rfl, rfl⟩) (by assumption) ?_
          try simp only [Act.put, List.setIfInBounds_toArray, List.set_cons_zero, List.set_cons_succ]
          try rw [hzn]
          refine wpAnyH_take (i := 5) (oi := ⟨some 17, _, _, _, _, _⟩) (v := undef) rfl (by kernel_rfl) (by kernel_rfl) (by kernel_rfl) (fun _ _ _ h => h) (Or.inr ⟨by rfl, rfl⟩) (by assumption) ?_
          try simp only [Act.put, List.setIfInBounds_toArray, List.set_cons_zero, List.set_cons_succ]
          try rw [hzn]
          refine wpAnyH_take (i := 6) (oi := ⟨some 18, _, _, _, _, _⟩) (v := undef) rfl (by kernel_rfl) (by kernel_rfl) (by kernel_rfl) (fun _ _ _ h => h) (Or.inr ⟨by rfl, rfl⟩) (by assumption) ?_
          try simp only [Act.put, List.setIfInBounds_toArray, List.set_cons_zero, List.set_cons_succ]
          try rw [hzn]
          refine wpAnyH_take (i := 7) (oi := ⟨some 19, _, _, _, _, _⟩) (v := undef) rfl (by kernel_rfl) (by kernel_rfl) (by kernel_rfl) (fun _ _ _ h => h) (Or.inr ⟨by rfl, rfl⟩) (by assumption) ?_
          try simp only [Act.put, List.setIfInBounds_toArray, List.set_cons_zero, List.set_cons_succ]
          try rw [hzn]
          refine wpAnyH_take (i := 8) (oi := ⟨some 20, _, _, _, _, _⟩) (v := undef) rfl (by kernel_rfl) (by kernel_rfl) (by kernel_rfl) (fun _ _ _ h => h) (Or.inr ⟨by rfl, rfl⟩) (by assumption) ?_
          try simp only [Act.put, List.setIfInBounds_toArray, List.set_cons_zero, List.set_cons_succ]
          try rw [hzn]
          refine wpAnyH_take (i := 9) (oi := ⟨some 21, _, _, _, _, _⟩) (v := undef) rfl (by kernel_rfl) (by kernel_rfl) (by kernel_rfl) (fun _ _ _ h => h) (Or.inr ⟨by rfl, rfl⟩) (by assumption) ?_
          try simp only [Act.put, List.setIfInBounds_toArray, List.set_cons_zero, List.set_cons_succ]
          try rw [hzn]
          refine wpAnyH_take (i := 10) (oi := ⟨some 22, _, _, _, _, _⟩) (v := undef) rfl (by kernel_rfl) (by kernel_rfl) (by kernel_rfl) (fun _ _ _ h => h) (Or.inr ⟨by rfl, rfl⟩) (by assumption) ?_
          try simp only [Act.put, List.setIfInBounds_toArray, List.set_cons_zero, List.set_cons_succ]
          try rw [hzn]
          refine wpAnyH_take (i := 11) (oi := ⟨some 23, _, _, _, _, _⟩) (v := undef) rfl (by kernel_rfl) (by kernel_rfl) (by kernel_rfl) (fun _ _ _ h => h) (Or.inr ⟨by rfl, rfl⟩) (by assumption) ?_
          try simp only [Act.put, List.setIfInBounds_toArray, List.set_cons_zero, List.set_cons_succ]
          try rw [hzn]
          refine wpAnyH_take (i := 12) (oi := ⟨some 24, _, _, _, _, _⟩) (v := undef) rfl (by kernel_rfl) (by kernel_rfl) (by kernel_rfl) (fun _ _ _ h => h) (Or.inr ⟨by rfl, rfl⟩) (by assumption) ?_
          try simp only [Act.put, List.setIfInBounds_toArray, List.set_cons_zero, List.set_cons_succ]
          try rw [hzn]
          refine wpAnyH_take (i := 13) (oi := ⟨some 25, _, _, _, _, _⟩) (v := undef) rfl (by kernel_rfl) (by kernel_rfl) (by kernel_rfl) (fun _ _ _ h => h) (Or.inr ⟨by rfl, rfl⟩) (by assumption) ?_
          try simp only [Act.put, List.setIfInBounds_toArray, List.set_cons_zero, List.set_cons_succ]
          try rw [hzn]
          refine wpAnyH_take (i := 14) (oi := ⟨some 26, _, _, _, _, _⟩) (v := undef) rfl (by kernel_rfl) (by kernel_rfl) (by kernel_rfl) (fun _ _ _ h => h) (Or.inr ⟨by rfl, rfl⟩) (by assumption) ?_
          try simp only [Act.put, List.setIfInBounds_toArray, List.set_cons_zero, List.set_cons_succ]
          try rw [hzn]
          refine wpAnyH_take (i := 15) (oi := ⟨some 27, _, _, _, _, _⟩) (v := undef) rfl (by kernel_rfl) (by kernel_rfl) (by kernel_rfl) (fun _ _ _ h => h) (Or.inr ⟨by rfl, rfl⟩) (by assumption) ?_
          try simp only [Act.put, List.setIfInBounds_toArray, List.set_cons_zero, List.set_cons_succ]
          try rw [hzn]
          refine wpAnyH_take (i := 16) (oi := ⟨some 28, _, _, _, _, _⟩) (v := undef) rfl (by kernel_rfl) (by kernel_rfl) (by kernel_rfl) (fun _ _ _ h => h) (Or.inr ⟨by rfl, rfl⟩) (by assumption) ?_
          try simp only [Act.put, List.setIfInBounds_toArray, List.set_cons_zero, List.set_cons_succ]
          try rw [hzn]
          refine wpAnyH_take (i := 17) (oi := ⟨some 29, _, _, _, _, _⟩) (v := ?_) rfl (by kernel_rfl) (by kernel_rfl) (by kernel_rfl) (fun _ _ _ h => h) (Or.inl ⟨by rfl, ?_⟩) (by assumption) ?_
          rotate_left
          · intro W hSw; go_simp; try (with_reducible rfl)
          try simp only [Act.put, List.setIfInBounds_toArray, List.set_cons_zero, List.set_cons_succ]
          try rw [hzn]
          refine wpAnyH_done (by kernel_rfl) ?_ _
          refine NoPanic.normal ?_
          go_wp2_with fail
          go_ret
          exact ⟨by rw [HR.out]; rfl, BB.out.trans (hb3.mono BB.out.size)⟩
        | true =>
          cases z2 with
          | true =>
            have hge := HG.out _ rfl
            have hall2 := Lib.hid (fun x (hx : x < j + 1) => (by
              rcases Nat.lt_or_ge x j with h | h
              · exact hall.out x h
              · obtain rfl : x = j := by omega
                exact ⟨HZ1.out, fun _ => by rw [HQ.out]; exact HZ2.out⟩ : rA (r.getD x nilA) = true ∧ (0 < x → ltL (r.getD (x - 1) nilA).1 (r.getD x nilA).1 = true)))
            clear hall HLj HFj HZ1 HZ2 HG hcq HQ
            refine wp_region_noPanic ?_
            refine wp_region_held_drew (S := (fun W => W.cell? ⟨g2, 0, none⟩ = some (.string E1) ∧ W.cell? ⟨g2, 1, none⟩ = some (.slice A1 n1 c1) ∧ W.cell? ⟨b1, off1 + q * 2, none⟩ = some (.string E2))) (by kernel_rfl) (by exact ⟨x0, x1, x2⟩) (fun hHeld => ?_)
            refine wpAnyH_take (i := 0) (oi := ⟨some 12, _, _, _, _, _⟩) (v := ?_) rfl (by kernel_rfl) (by kernel_rfl) (by kernel_rfl) (fun _ _ _ h => h) (Or.inl ⟨by rfl, ?_⟩) (by assumption) ?_
            rotate_left
            · intro W hSw; go_simp; try (with_reducible rfl)
            try simp only [Act.put, List.setIfInBounds_toArray, List.set_cons_zero, List.set_cons_succ]
            try rw [hzn]
            refine wpAnyH_ready (rs := [1]) (by kernel_rfl) (by simp) ?_
            refine AllReadyH.cons (o := ⟨some 13, _, _, _, _, _⟩) rfl (fun K hK => ?_) AllReadyH.nil
            go_simp
            (go_at_call 38; (with_reducible refine (HC.out _ (by first | (with_reducible exact Below.refl _ _) | (with_reducible exact (Below.refl _ _).drew))).mono ?_); rintro e w3 ⟨rfl, hg3⟩; have hb3 : Below w2.heap.size w2 w3 := ((Below.refl w2.heap.size w2).drew).trans (hg3.below.mono (Nat.le_refl _)); have y0 := (R2.out.below hb3 R2.out.lt).cell (i := 0) rfl; have y1 := (R2.out.below hb3 R2.out.lt).cell (i := 1) rfl; have y2 := (Below.cell (p := ⟨b1, off1 + q * 2, none⟩) hb3 hbw).trans x2)
            try go_wp2_with fail
            refine hK.out _ _ (by exact ⟨y0, y1, y2⟩) (fun hHeld => ?_)
            clear hK K
            try simp only [Act.put, List.setIfInBounds_toArray, List.set_cons_zero, List.set_cons_succ]
            try rw [hzn]
            refine wpAnyH_take (i := 2) (oi := ⟨some 14, _, _, _, _, _⟩) (v := ?_) rfl (by kernel_rfl) (by kernel_rfl) (by kernel_rfl) (fun _ _ _ h => h) (Or.inl ⟨by rfl, ?_⟩) (by assumption) ?_
            rotate_left
            · intro W hSw; go_simp; try (with_reducible rfl)
            try simp only [Act.put, List.setIfInBounds_toArray, List.set_cons_zero, List.set_cons_succ]
            try rw [hzn]
            refine wpAnyH_take (i := 3) (oi := ⟨some 15, _, _, _, _, _⟩) (v := ?_) rfl (by kernel_rfl) (by kernel_rfl) (by kernel_rfl) (fun _ _ _ h => h) (Or.inl ⟨by rfl, ?_⟩) (by assumption) ?_
            rotate_left
            · intro W hSw; go_simp; try (with_reducible rfl)
            try simp only [Act.put, List.setIfInBounds_toArray, List.set_cons_zero, List.set_cons_succ]
            try rw [hzn]
            refine wpAnyH_take (i := 4) (oi := ⟨some 16, _, _, _, _, _⟩) (v := ?_) rfl (by kernel_rfl) (by kernel_rfl) (by kernel_rfl) (fun _ _ _ h => h) (Or.inl ⟨by rfl, ?_⟩) (by assumption) ?_
            rotate_left
            · intro W hSw; go_simp; try (with_reducible rfl)
            try simp only [Act.put, List.setIfInBounds_toArray, List.set_cons_zero, List.set_cons_succ]
            try rw [hzn]
            refine wpAnyH_take (i := 5) (oi := ⟨some 17, _, _, _, _, _⟩) (v := ?_) rfl (by kernel_rfl) (by kernel_rfl) (by kernel_rfl) (fun _ _ _ h => h) (Or.inl ⟨by rfl, ?_⟩) (by assumption) ?_
            rotate_left
            · intro W hSw; go_simp; try (with_reducible rfl)
            try simp only [Act.put, List.setIfInBounds_toArray, List.set_cons_zero, List.set_cons_succ]
            try rw [hzn]
            refine wpAnyH_take (i := 6) (oi := ⟨some 18, _, _, _, _, _⟩) (v := ?_) rfl (by kernel_rfl) (by kernel_rfl) (by kernel_rfl) (fun _ _ _ h => h) (Or.inl ⟨by rfl, ?_⟩) (by assumption) ?_
            rotate_left
            · intro W hSw; go_simp; try (with_reducible rfl)
            try simp only [Act.put, List.setIfInBounds_toArray, List.set_cons_zero, List.set_cons_succ]
            try rw [hzn]
            refine wpAnyH_take (i := 7) (oi := ⟨some 19, _, _, _, _, _⟩) (v := ?_) rfl (by kernel_rfl) (by kernel_rfl) (by kernel_rfl) (fun _ _ _ h => h) (Or.inl ⟨by rfl, ?_⟩) (by assumption) ?_
            rotate_left
            · intro W hSw; go_simp; try (with_reducible rfl)
            try simp only [Act.put, List.setIfInBounds_toArray, List.set_cons_zero, List.set_cons_succ]
            try rw [hzn]
            refine wpAnyH_take (i := 8) (oi := ⟨some 20, _, _, _, _, _⟩) (v := ?_) rfl (by kernel_rfl) (by kernel_rfl) (by kernel_rfl) (fun _ _ _ h => h) (Or.inl ⟨by rfl, ?_⟩) (by assumption) ?_
            rotate_left
            · intro W hSw; go_simp; try (with_reducible rfl)
            try simp only [Act.put, List.setIfInBounds_toArray, List.set_cons_zero, List.set_cons_succ]
            try rw [hzn]
            refine wpAnyH_take (i := 9) (oi := ⟨some 21, _, _, _, _, _⟩) (v := ?_) rfl (by kernel_rfl) (by kernel_rfl) (by kernel_rfl) (fun _ _ _ h => h) (Or.inl ⟨by rfl, ?_⟩) (by assumption) ?_
            rotate_left
            · intro W hSw; go_simp; try (with_reducible rfl)
            try simp only [Act.put, List.setIfInBounds_toArray, List.set_cons_zero, List.set_cons_succ]
            try rw [hzn]
            refine wpAnyH_take (i := 10) (oi := ⟨some 22, _, _, _, _, _⟩) (v := ?_) rfl (by kernel_rfl) (by kernel_rfl) (by kernel_rfl) (fun _ _ _ h => h) (Or.inl ⟨by rfl, ?_⟩) (by assumption) ?_
            rotate_left
            · intro W hSw; go_simp; try (with_reducible rfl)
            try simp only [Act.put, List.setIfInBounds_toArray, List.set_cons_zero, List.set_cons_succ]
            try rw [hzn]
            refine wpAnyH_take (i := 11) (oi := ⟨some 23, _, _, _, _, _⟩) (v := ?_) rfl (by kernel_rfl) (by kernel_rfl) (by kernel_rfl) (fun _ _ _ h => h) (Or.inl ⟨by rfl, ?_⟩) (by assumption) ?_
            rotate_left
            · intro W hSw; go_simp; try (with_reducible rfl)
            try simp only [Act.put, List.setIfInBounds_toArray, List.set_cons_zero, List.set_cons_succ]
            try rw [hzn]
            refine wpAnyH_take (i := 12) (oi := ⟨some 24, _, _, _, _, _⟩) (v := ?_) rfl (by kernel_rfl) (by kernel_rfl) (by kernel_rfl) (fun _ _ _ h => h) (Or.inl ⟨by rfl, ?_⟩) (by assumption) ?_
            rotate_left
            · intro W hSw; go_simp; try (with_reducible rfl)
            try simp only [Act.put, List.setIfInBounds_toArray, List.set_cons_zero, List.set_cons_succ]
            try rw [hzn]
            refine wpAnyH_take (i := 13) (oi := ⟨some 25, _, _, _, _, _⟩) (v := ?_) rfl (by kernel_rfl) (by kernel_rfl) (by kernel_rfl) (fun _ _ _ h => h) (Or.inl ⟨by rfl, ?_⟩) (by assumption) ?_
            rotate_left
            · intro W hSw; go_simp; try (with_reducible rfl)
            try simp only [Act.put, List.setIfInBounds_toArray, List.set_cons_zero, List.set_cons_succ]
            try rw [hzn]
            refine wpAnyH_take (i := 14) (oi := ⟨some 26, _, _, _, _, _⟩) (v := ?_) rfl (by kernel_rfl) (by kernel_rfl) (by kernel_rfl) (fun _ _ _ h => h) (Or.inl ⟨by rfl, ?_⟩) (by assumption) ?_
            rotate_left
            · intro W hSw; go_simp; try (with_reducible rfl)
            try simp only [Act.put, List.setIfInBounds_toArray, List.set_cons_zero, List.set_cons_succ]
            try rw [hzn]
            refine wpAnyH_take (i := 15) (oi := ⟨some 27, _, _, _, _, _⟩) (v := ?_) rfl (by kernel_rfl) (by kernel_rfl) (by kernel_rfl) (fun _ _ _ h => h) (Or.inl ⟨by rfl, ?_⟩) (by assumption) ?_
            rotate_left
            · intro W hSw; go_simp; try (with_reducible rfl)
            try simp only [Act.put, List.setIfInBounds_toArray, List.set_cons_zero, List.set_cons_succ]
            try rw [hzn]
            refine wpAnyH_take (i := 16) (oi := ⟨some 28, _, _, _, _, _⟩) (v := ?_) rfl (by kernel_rfl) (by kernel_rfl) (by kernel_rfl) (fun _ _ _ h => h) (Or.inl ⟨by rfl, ?_⟩) (by assumption) ?_
            rotate_left
            · intro W hSw; go_simp; try (with_reducible rfl)
            try simp only [Act.put, List.setIfInBounds_toArray, List.set_cons_zero, List.set_cons_succ]
            try rw [hzn]
            refine wpAnyH_take (i := 17) (oi := ⟨some 29, _, _, _, _, _⟩) (v := ?_) rfl (by kernel_rfl) (by kernel_rfl) (by kernel_rfl) (fun _ _ _ h => h) (Or.inl ⟨by rfl, ?_⟩) (by assumption) ?_
            rotate_left
            · intro W hSw; go_simp; try (with_reducible rfl)
            try simp only [Act.put, List.setIfInBounds_toArray, List.set_cons_zero, List.set_cons_succ]
            try rw [hzn]
            refine wpAnyH_done (by kernel_rfl) ?_ _
            refine NoPanic.normal ?_
            go_wp2_with fail
            go_round
            case rel => exact ⟨j + 1, by omega, by go_num, hall2, Lib.hid (BB.out.trans (hb3.mono BB.out.size))⟩
            case measure => simp [intOf]; omega
          | false =>
            have hge := HG.out _ rfl
            have HR := Lib.hid (HFj.out (by have := HQ.out; omega) rfl)
            clear hall HLj HFj HZ1 HZ2 HG hcq HQ
            refine wp_region_noPanic ?_
            refine wp_region_held_drew (S := (fun W => W.cell? ⟨g2, 0, none⟩ = some (.string E1) ∧ W.cell? ⟨g2, 1, none⟩ = some (.slice A1 n1 c1) ∧ W.cell? ⟨b1, off1 + q * 2, none⟩ = some (.string E2))) (by kernel_rfl) (by exact ⟨x0, x1, x2⟩) (fun hHeld => ?_)
            refine wpAnyH_take (i := 0) (oi := ⟨some 12, _, _, _, _, _⟩) (v := ?_) rfl (by kernel_rfl) (by kernel_rfl) (by kernel_rfl) (fun _ _ _ h => h) (Or.inl ⟨by rfl, ?_⟩) (by assumption) ?_
            rotate_left
            · intro W hSw; go_simp; try (with_reducible rfl)
            try simp only [Act.put, List.setIfInBounds_toArray, List.set_cons_zero, List.set_cons_succ]
            try rw [hzn]
            refine wpAnyH_ready (rs := [1]) (by kernel_rfl) (by simp) ?_
            refine AllReadyH.cons (o := ⟨some 13, _, _, _, _, _⟩) rfl (fun K hK => ?_) AllReadyH.nil
            go_simp
            (go_at_call 38; (with_reducible refine (HC.out _ (by first | (with_reducible exact Below.refl _ _) | (with_reducible exact (Below.refl _ _).drew))).mono ?_); rintro e w3 ⟨rfl, hg3⟩; have hb3 : Below w2.heap.size w2 w3 := ((Below.refl w2.heap.size w2).drew).trans (hg3.below.mono (Nat.le_refl _)); have y0 := (R2.out.below hb3 R2.out.lt).cell (i := 0) rfl; have y1 := (R2.out.below hb3 R2.out.lt).cell (i := 1) rfl; have y2 := (Below.cell (p := ⟨b1, off1 + q * 2, none⟩) hb3 hbw).trans x2)
            try go_wp2_with fail
            refine hK.out _ _ (by exact ⟨y0, y1, y2⟩) (fun hHeld => ?_)
            clear hK K
            try simp only [Act.put, List.setIfInBounds_toArray, List.set_cons_zero, List.set_cons_succ]
            try rw [hzn]
            refine wpAnyH_take (i := 2) (oi := ⟨some 14, _, _, _, _, _⟩) (v := ?_) rfl (by kernel_rfl) (by kernel_rfl) (by kernel_rfl) (fun _ _ _ h => h) (Or.inl ⟨by rfl, ?_⟩) (by assumption) ?_
            rotate_left
            · intro W hSw; go_simp; try (with_reducible rfl)
            try simp only [Act.put, List.setIfInBounds_toArray, List.set_cons_zero, List.set_cons_succ]
            try rw [hzn]
            refine wpAnyH_take (i := 3) (oi := ⟨some 15, _, _, _, _, _⟩) (v := ?_) rfl (by kernel_rfl) (by kernel_rfl) (by kernel_rfl) (fun _ _ _ h => h) (Or.inl ⟨by rfl, ?_⟩) (by assumption) ?_
            rotate_left
            · intro W hSw; go_simp; try (with_reducible rfl)
            try simp only [Act.put, List.setIfInBounds_toArray, List.set_cons_zero, List.set_cons_succ]
            try rw [hzn]
            refine wpAnyH_take (i := 4) (oi := ⟨some 16, _, _, _, _, _⟩) (v := ?_) rfl (by kernel_rfl) (by kernel_rfl) (by kernel_rfl) (fun _ _ _ h => h) (Or.inl ⟨by rfl, ?_⟩) (by assumption) ?_
            rotate_left
            · intro W hSw; go_simp; try (with_reducible rfl)
            try simp only [Act.put, List.setIfInBounds_toArray, List.set_cons_zero, List.set_cons_succ]
            try rw [hzn]
            refine wpAnyH_take (i := 5) (oi := ⟨some 17, _, _, _, _, _⟩) (v := ?_) rfl (by kernel_rfl) (by kernel_rfl) (by kernel_rfl) (fun _ _ _ h => h) (Or.inl ⟨by rfl, ?_⟩) (by assumption) ?_
            rotate_left
            · intro W hSw; go_simp; try (with_reducible rfl)
            try simp only [Act.put, List.setIfInBounds_toArray, List.set_cons_zero, List.set_cons_succ]
            try rw [hzn]
            refine wpAnyH_take (i := 6) (oi := ⟨some 18, _, _, _, _, _⟩) (v := ?_) rfl (by kernel_rfl) (by kernel_rfl) (by kernel_rfl) (fun _ _ _ h => h) (Or.inl ⟨by rfl, ?_⟩) (by assumption) ?_
            rotate_left
            · intro W hSw; go_simp; try (with_reducible rfl)
            try simp only [Act.put, List.setIfInBounds_toArray, List.set_cons_zero, List.set_cons_succ]
            try rw [hzn]
            refine wpAnyH_take (i := 7) (oi := ⟨some 19, _, _, _, _, _⟩) (v := ?_) rfl (by kernel_rfl) (by kernel_rfl) (by kernel_rfl) (fun _ _ _ h => h) (Or.inl ⟨by rfl, ?_⟩) (by assumption) ?_
            rotate_left
            · intro W hSw; go_simp; try (with_reducible rfl)
            try simp only [Act.put, List.setIfInBounds_toArray, List.set_cons_zero, List.set_cons_succ]
            try rw [hzn]
            refine wpAnyH_take (i := 8) (oi := ⟨some 20, _, _, _, _, _⟩) (v := ?_) rfl (by kernel_rfl) (by kernel_rfl) (by kernel_rfl) (fun _ _ _ h => h) (Or.inl ⟨by rfl, ?_⟩) (by assumption) ?_
            rotate_left
            · intro W hSw; go_simp; try (with_reducible rfl)
            try simp only [Act.put, List.setIfInBounds_toArray, List.set_cons_zero, List.set_cons_succ]
            try rw [hzn]
            refine wpAnyH_take (i := 9) (oi := ⟨some 21, _, _, _, _, _⟩) (v := ?_) rfl (by kernel_rfl) (by kernel_rfl) (by kernel_rfl) (fun _ _ _ h => h) (Or.inl ⟨by rfl, ?_⟩) (by assumption) ?_
            rotate_left
            · intro W hSw; go_simp; try (with_reducible rfl)
            try simp only [Act.put, List.setIfInBounds_toArray, List.set_cons_zero, List.set_cons_succ]
            try rw [hzn]
            refine wpAnyH_take (i := 10) (oi := ⟨some 22, _, _, _, _, _⟩) (v := ?_) rfl (by kernel_rfl) (by kernel_rfl) (by kernel_rfl) (fun _ _ _ h => h) (Or.inl ⟨by rfl, ?_⟩) (by assumption) ?_
            rotate_left
            · intro W hSw; go_simp; try (with_reducible rfl)
            try simp only [Act.put, List.setIfInBounds_toArray, List.set_cons_zero, List.set_cons_succ]
            try rw [hzn]
            refine wpAnyH_take (i := 11) (oi := ⟨some 23, _, _, _, _, _⟩) (v := ?_) rfl (by kernel_rfl) (by kernel_rfl) (by kernel_rfl) (fun _ _ _ h => h) (Or.inl ⟨by rfl, ?_⟩) (by assumption) ?_
            rotate_left
            · intro W hSw; go_simp; try (with_reducible rfl)
            try simp only [Act.put, List.setIfInBounds_toArray, List.set_cons_zero, List.set_cons_succ]
            try rw [hzn]
            refine wpAnyH_take (i := 12) (oi := ⟨some 24, _, _, _, _, _⟩) (v := ?_) rfl (by kernel_rfl) (by kernel_rfl) (by kernel_rfl) (fun _ _ _ h => h) (Or.inl ⟨by rfl, ?_⟩) (by assumption) ?_
            rotate_left
            · intro W hSw; go_simp; try (with_reducible rfl)
            try simp only [Act.put, List.setIfInBounds_toArray, List.set_cons_zero, List.set_cons_succ]
            try rw [hzn]
            refine wpAnyH_take (i := 13) (oi := ⟨some 25, _, _, _, _, _⟩) (v := ?_) rfl (by kernel_rfl) (by kernel_rfl) (by kernel_rfl) (fun _ _ _ h => h) (Or.inl ⟨by rfl, ?_⟩) (by assumption) ?_
            rotate_left
            · intro W hSw; go_simp; try (with_reducible rfl)
            try simp only [Act.put, List.setIfInBounds_toArray, List.set_cons_zero, List.set_cons_succ]
            try rw [hzn]
            refine wpAnyH_take (i := 14) (oi := ⟨some 26, _, _, _, _, _⟩) (v := ?_) rfl (by kernel_rfl) (by kernel_rfl) (by kernel_rfl) (fun _ _ _ h => h) (Or.inl ⟨by rfl, ?_⟩) (by assumption) ?_
            rotate_left
            · intro W hSw; go_simp; try (with_reducible rfl)
            try simp only [Act.put, List.setIfInBounds_toArray, List.set_cons_zero, List.set_cons_succ]
            try rw [hzn]
            refine wpAnyH_take (i := 15) (oi := ⟨some 27, _, _, _, _, _⟩) (v := ?_) rfl (by kernel_rfl) (by kernel_rfl) (by kernel_rfl) (fun _ _ _ h => h) (Or.inl ⟨by rfl, ?_⟩) (by assumption) ?_
            rotate_left
            · intro W hSw; go_simp; try (with_reducible rfl)
            try simp only [Act.put, List.setIfInBounds_toArray, List.set_cons_zero, List.set_cons_succ]
            try rw [hzn]
            refine wpAnyH_take (i := 16) (oi := ⟨some 28, _, _, _, _, _⟩) (v := ?_) rfl (by kernel_rfl) (by kernel_rfl) (by kernel_rfl) (fun _ _ _ h => h) (Or.inl ⟨by rfl, ?_⟩) (by assumption) ?_
            rotate_left
            · intro W hSw; go_simp; try (with_reducible rfl)
            try simp only [Act.put, List.setIfInBounds_toArray, List.set_cons_zero, List.set_cons_succ]
            try rw [hzn]
            refine wpAnyH_take (i := 17) (oi := ⟨some 29, _, _, _, _, _⟩) (v := ?_) rfl (by kernel_rfl) (by kernel_rfl) (by kernel_rfl) (fun _ _ _ h => h) (Or.inl ⟨by rfl, ?_⟩) (by assumption) ?_
            rotate_left
            · intro W hSw; go_simp; try (with_reducible rfl)
            try simp only [Act.put, List.setIfInBounds_toArray, List.set_cons_zero, List.set_cons_succ]
            try rw [hzn]
            refine wpAnyH_done (by kernel_rfl) ?_ _
            refine NoPanic.normal ?_
            go_wp2_with fail
            go_ret
            exact ⟨by rw [HR.out]; rfl, BB.out.trans (hb3.mono BB.out.size)⟩
    · obtain rfl : j = n := by omega
      have HR := Lib.hid (HAll.out fun i hi => hall.out i (by have := HL.out; omega))
      rw [HL.out] at HR
      clear hall HAll
      go_wp2_with fail
      go_ret
      exact ⟨by rw [HR.out]; rfl, hB.out⟩
/-! ## the whole match -/
theorem take_succ' {α : Type} {l : List α} {i : Nat} {d : α} (hi : i < l.length) : l.take (i + 1) = l.take i ++ [l.getD i d] := by
  rw [List.take_add_one, List.getElem?_eq_getElem hi, getD_at hi]; rfl
theorem vals_take {r : RW} {i : Nat} (hi : i < r.length) : vals (r.take (i + 1)) = vals (r.take i) + (r.getD i nilA).2.length := by
  rw [take_succ' hi (d := nilA)]; unfold vals; simp
theorem cnt_take {M : List RW} {i : Nat} (hi : i < M.length) : cnt (M.take (i + 1)) = cnt (M.take i) + vals (M.getD i []) := by
  rw [take_succ' hi (d := []), cnt_snoc]
theorem vals_le (r : RW) (i : Nat) : vals (r.take i) ≤ vals r := by
  conv => rhs; rw [← List.take_append_drop i r]
  unfold vals
  rw [List.map_append, List.sum_append]
  omega
theorem cnt_le (M : List RW) (i : Nat) : cnt (M.take i) ≤ cnt M := by
  conv => rhs; rw [← List.take_append_drop i M]
  unfold cnt
  rw [List.map_append, List.sum_append]
  omega
theorem rM_row {M : List RW} {i : Nat} (hi : i < M.length) (h : rR (M.getD i []) = false) : rM M = false := by
  cases e : rM M with
  | false => rfl
  | true =>
    unfold rM at e
    rw [Bool.and_eq_true, decide_eq_true_eq] at e
    have := e.1 i hi
    rw [h] at this; cases this
theorem rM_all {M : List RW} (h : ∀ i, i < M.length → rR (M.getD i []) = true) : rM M = decide (cnt M + M.length ≤ 33) := by
  unfold rM
  rw [decide_eq_true h, Bool.true_and]

set_option maxHeartbeats 8000000 in
theorem right_any (M : List RW) (A : Option Addr) (c : Nat) (w : World) (hT : Mts w A M) (hM : OkM M) (hcn : cnt M + M.length ≤ 4611686018427387904) :
    Calls Try.prog 9 #[mtV A M.length c] w fun e w' => e = .returned (.bool (rM M)) ∧ Below w.heap.size w w' := by
  have hn := hM.2
  unfold maxLen at hn
  have HO := Lib.hid fun i hi => row_ok hM (i := i) hi
  have HBad := Lib.hid fun i => rM_row (M := M) (i := i)
  have HAll := Lib.hid (rM_all (M := M))
  have HCt := Lib.hid fun i (hi : i < M.length) => cnt_take hi
  have HCl := Lib.hid fun i => Nat.le_trans (Nat.add_le_add_right (cnt_le M i) M.length) hcn
  have HC0 : Hid (cnt (M.take 0) = 0) := Lib.hid rfl
  have HCM : Hid (∀ i, M.length ≤ i → cnt (M.take i) = cnt M) := Lib.hid fun i hi => by rw [List.take_of_length_le hi]
  have b1 := (Below.refl w.heap.size w).alloc (Nat.le_refl _) (.cells #[.slice A M.length c] 25)
  have R1 := Lib.hid (Blk.new w [.slice A M.length c] 25)
  have HT := Lib.hid (hT.below b1)
  have HB1 := Lib.hid b1
  dsimp only [mtV] at *
  obtain ⟨n, hL⟩ : ∃ n, M.length = n := ⟨_, rfl⟩
  have HL := Lib.hid hL
  rw [hL] at hn R1 HB1 HT HCl ⊢
  clear hT hM b1 hL hcn
  go_enter Try.func9, Try.ntmps9
  go_upto_region 1 with fail
  change Hid (Blk (w.alloc (.cells #[.slice A n c] 25)) w.heap.size _ _) at R1
  generalize w.alloc (.cells #[.slice A n c] 25) = w1 at *
  have r0 := R1.out.cell (i := 0) rfl
  go_wp2_with fail
  go_loopw [3, 15] (fun z i wr => ∃ (j : Nat) (t : Int), j ≤ n ∧ i = .int .i64 (j : Int) ∧ z = .int .i64 t ∧ Hid (t = (n : Int) - 1 + (cnt (M.take j) : Int)) ∧ Hid (∀ x, x < j → rR (M.getD x []) = true) ∧ Hid (Below w1.heap.size w1 wr)) (fun _ i _ => n - (intOf i).toNat)
  case atStart => exact ⟨0, _, by omega, rfl, rfl, Lib.hid (by rw [HC0.out]; simp), Lib.hid (fun k hk => absurd hk (by omega)), Lib.hid (Below.refl _ _)⟩
  case round =>
    clear r0
    obtain ⟨j, t, hj, rfl, rfl, ht, hall, hB⟩ := hrel
    rcases Nat.lt_or_ge j n with hlt | hge
    · obtain ⟨b1, off1, A1, c1, rfl, hbl1, hc0, hT1⟩ := (HT.out.below hB.out) j (by have := HL.out; omega)
      have hin : (j : Int) < (n : Int) := by omega
      have hrj := HO.out j (by have := HL.out; omega)
      have HBj := Lib.hid (HBad.out j (by have := HL.out; omega))
      have HR := Lib.hid (rightrow_any (M.getD j []) A1 c1 wr hT1 hrj)
      have HCj := Lib.hid (HCt.out j (by have := HL.out; omega))
      have HCk := Lib.hid (HCl.out (j + 1))
      obtain ⟨R, hRr⟩ : ∃ R, M.getD j [] = R := ⟨_, rfl⟩
      rw [hRr] at HR HBj hc0 hT1 hrj HCj
      have HRr := Lib.hid hRr
      have HTR := Lib.hid hT1
      have hrl := hrj.2
      unfold maxLen at hrl
      have HVt := Lib.hid fun i (hi : i < R.length) => vals_take hi
      have HVl := Lib.hid (vals_le R)
      obtain ⟨m, hm⟩ : ∃ m, R.length = m := ⟨_, rfl⟩
      have HM := Lib.hid hm
      rw [hm] at HR hc0 hrl
      obtain ⟨z1, hz1⟩ : ∃ z, rR R = z := ⟨_, rfl⟩
      rw [hz1] at HR HBj
      have HZ1 := Lib.hid hz1
      clear hT1 hrj hRr hm hz1
      cases z1 with
      | false =>
        have HF := Lib.hid (HBj.out rfl)
        go_wp2_with (go_at_call 21; (with_reducible refine HR.out.mono ?_); rintro e w3 ⟨rfl, hb3⟩)
        go_ret
        exact ⟨by rw [HF.out]; rfl, HB1.out.trans ((hB.out.trans (hb3.mono hB.out.size)).mono HB1.out.size)⟩
      | true =>
        have hall2 := Lib.hid (fun x (hx : x < j + 1) => (by
          rcases Nat.lt_or_ge x j with h | h
          · exact hall.out x h
          · obtain rfl : x = j := by omega
            rw [HRr.out]; exact HZ1.out : rR (M.getD x []) = true))
        clear hall HBj HZ1
        go_upto_region 8 with (go_at_call 21; (with_reducible refine HR.out.mono ?_); rintro e w3 ⟨rfl, hb3⟩)
        have HT3 := Lib.hid (HTR.out.below hb3)
        have HB3 := Lib.hid (hB.out.trans (hb3.mono hB.out.size))
        have hwr := hB.out.size
        clear hb3 HR HTR hB hc0 hbl1
        go_wp2_with fail
        go_loopw [3, 24] (fun z i wx => ∃ (k : Nat) (u : Int), k ≤ m ∧ i = .int .i64 (k : Int) ∧ z = .int .i64 u ∧ Hid (u = (n : Int) - 1 + (cnt (M.take j) : Int) + (vals (R.take k) : Int)) ∧ Hid (Below w3.heap.size w3 wx)) (fun _ i _ => m - (intOf i).toNat)
        case atStart => exact ⟨0, t, by omega, rfl, rfl, Lib.hid (by rw [ht.out]; simp [vals]), Lib.hid (Below.refl _ _)⟩
        case round =>
          obtain ⟨k, u, hk, rfl, rfl, hu, hB4⟩ := hrel
          rcases Nat.lt_or_ge k m with hlt2 | hge2
          · obtain ⟨b2, off2, A2, c2, rfl, hbl2, d0, d1, -⟩ := (HT3.out.below hB4.out) k (by have := HM.out; omega)
            have hin2 : (k : Int) < (m : Int) := by omega
            have hv1 := HVt.out k (by have := HM.out; omega)
            have hv2 := HVl.out (k + 1)
            obtain ⟨n2, hn2⟩ : ∃ n2, (R.getD k nilA).2.length = n2 := ⟨_, rfl⟩
            rw [hn2] at hv1 d1
            have hub : 0 ≤ u + (n2 : Int) ∧ u + (n2 : Int) < 9223372036854775808 := by
              have h1 := hu.out
              have h2 := HCj.out
              have h3 := HCk.out
              omega
            have hus : IntKind.i64.wrap (u + (n2 : Int)) = u + (n2 : Int) := by rw [IntKind.wrap_i64]; omega
            have hu2 := Lib.hid (show u + (n2 : Int) = (n : Int) - 1 + (cnt (M.take j) : Int) + (vals (R.take (k + 1)) : Int) by rw [hv1, hu.out]; omega)
            obtain ⟨hu0, hu1⟩ := hub
            clear hv1 hv2 hn2 hu
            generalize T (R.getD k nilA).1 = E2 at *
            go_wp2_with fail
            go_round
            case rel => exact ⟨k + 1, u + (n2 : Int), by omega, by go_num, by go_num, hu2, Lib.hid (hB4.out.alloc hB4.out.size _)⟩
            case measure => simp [intOf]; omega
          · obtain rfl : k = m := by omega
            have hu2 := Lib.hid (show u = (n : Int) - 1 + (cnt (M.take (j + 1)) : Int) by
              have h1 := hu.out
              have h2 := HCj.out
              have e : R.take k = R := List.take_of_length_le (by have := HM.out; omega)
              rw [e] at h1
              omega)
            go_wp2_with fail
            go_round
            case rel => exact ⟨j + 1, u, by omega, by go_num, rfl, hu2, hall2, Lib.hid (HB3.out.trans (hB4.out.mono HB3.out.size))⟩
            case measure => simp [intOf]; omega
    · obtain rfl : j = n := by omega
      have HR := Lib.hid (HAll.out fun i hi => hall.out i (by have := HL.out; omega))
      have ht2 := ht.out
      rw [HCM.out j (by have := HL.out; omega)] at ht2
      have hle : decide (t ≤ 32) = decide (cnt M + M.length ≤ 33) := by
        have := HL.out
        by_cases h : cnt M + M.length ≤ 33
        · rw [decide_eq_true h, decide_eq_true (by omega)]
        · rw [decide_eq_false h, decide_eq_false (by omega)]
      have HE := Lib.hid hle
      clear hall HAll ht2 hle
      go_wp2_with fail
      go_ret
      exact ⟨by rw [HR.out, ← HE.out]; rfl, HB1.out.trans (hB.out.mono HB1.out.size)⟩
end Go.Proofs.Ytpfkhcgeblihcaa.Qw
