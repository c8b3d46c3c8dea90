/-
  Texts beneath the proof, one behind the other.
-/
import Derived.Test.YtpfkhcgeblihcaaQa10
import Derived.Test.YtpfkhcgeblihcaaQa6

/-
  Whether an alt holds: the document's way.
-/
namespace Go.Proofs.Ytpfkhcgeblihcaa.Ude
open Go.ChangeShapes Go.WideShapes Go.ChangeAt Go.RowKit
open Bytes8 Blk8 Own8 OwnM OwnE OwnA Dc Fa Fb Fo Pr8 Pv8 Qa Qb Qd Qn
set_option linter.unusedVariables false
set_option maxRecDepth 100000
set_option linter.unusedSimpArgs false

set_option maxHeartbeats 8000000 in
theorem ralt_any (l : List PR) (a : AL) (A : Option Addr) (c : Nat) (b : Option Addr) (m d : Nat) (w : World) (hT : Txts w A a.2) (ha : OkA a) (hP : Prs w b l) (hm : l.length = m) (hm2 : m ≤ 100000) :
    Calls Try.prog 27 #[alV a A c, .slice b m d] w fun e w' => e = .returned (.bool (altB l a)) ∧ Below w.heap.size w w' := by
  have hmx : Try.prog.follows .mixedOrders = true := by kernel_rfl
  have hn := ha.2.2
  unfold maxLen at hn
  have HY := Lib.hid fun i => altB_yes (l := l) (a := a) (i := i)
  have HN := Lib.hid (altB_no (l := l) (a := a))
  have HV := Lib.hid fun i (hi : i < a.2.length) => (ha.2.1 _ (getD_in hi (d := []))).1
  have HAn := Lib.hid ha.1.1
  have HAl := Lib.hid fun i (hi : i < l.length) => hP.1 _ (getD_in hi (d := nil2))
  have b1 := (Below.refl w.heap.size w).alloc (Nat.le_refl _) (.cells #[.string (T a.1), .slice A a.2.length c] 38)
  have R1 := Lib.hid (Blk.new w (alC a A c) 38)
  have HT := Lib.hid (hT.below b1)
  have HP := Lib.hid (hP.below b1)
  have HB1 := Lib.hid b1
  dsimp only [alV, alC] at *
  obtain ⟨an, av⟩ := a
  dsimp only at *
  obtain ⟨n, hL⟩ : ∃ n, av.length = n := ⟨_, rfl⟩
  have HL := Lib.hid hL
  have HM := Lib.hid hm
  rw [hL] at hn R1 HB1 HT HP ⊢
  clear hT ha hP b1 hL hm
  obtain ⟨E1, hE1⟩ : ∃ E, T an = E := ⟨_, rfl⟩
  have HE1 := Lib.hid hE1
  rw [hE1] at R1 HB1 HT HP ⊢
  clear hE1
  go_enter Try.func27, Try.ntmps27
  go_upto_region 1 with fail
  change Hid (Blk (w.alloc (.cells #[.string E1, .slice A n c] 38)) w.heap.size _ _) at R1
  generalize w.alloc (.cells #[.string E1, .slice A n c] 38) = w1 at *
  have hlt1 := R1.out.lt
  go_wp2_with fail
  go_loopw [5] (fun i wr => ∃ j : Nat, j ≤ n ∧ i = .int .i64 (j : Int) ∧ Hid (∀ x, x < j → (an, av.getD x []) ∉ l) ∧ Hid (Below w1.heap.size w1 wr)) (fun i _ => n - (intOf i).toNat)
  case atStart => exact ⟨0, by omega, rfl, Lib.hid (fun k hk => absurd hk (by omega)), Lib.hid (Below.refl _ _)⟩
  case round =>
    obtain ⟨j, hj, rfl, hall, hB⟩ := hrel
    have r1 := (R1.out.below hB.out R1.out.lt).cell (i := 1) rfl
    rcases Nat.lt_or_ge j n with hlt | hge
    · obtain ⟨b1, off1, rfl, hbl1, hc0⟩ := HT.out j (by have := HL.out; omega)
      have HC0 := Lib.hid hc0
      have hin : (j : Int) < (n : Int) := by omega
      have hvj := HV.out j (by have := HL.out; omega)
      obtain ⟨v, hv⟩ : ∃ v, av.getD j [] = v := ⟨_, rfl⟩
      rw [hv] at HC0 hvj
      have HVj := Lib.hid hv
      have HVb := Lib.hid hvj
      have hB' := hB.out
      clear hv hvj hc0
      go_wp2_with fail
      go_loopw [6] (fun i wx => ∃ q : Nat, q ≤ m ∧ i = .int .i64 (q : Int) ∧ Hid (∀ y, y < q → l.getD y nil2 ≠ (an, v)) ∧ Hid (Below w1.heap.size w1 wx)) (fun i _ => m - (intOf i).toNat)
      case atStart => exact ⟨0, by omega, rfl, Lib.hid (fun k hk => absurd hk (by omega)), Lib.hid hB'⟩
      case round =>
        clear r1 hB hB'
        obtain ⟨q, hq, rfl, hno, hB⟩ := hrel
        rcases Nat.lt_or_ge q m with hlt2 | hge2
        · obtain ⟨b2, off2, rfl, hbl2, hd0, hd1⟩ := HP.out.2 q (by have := HM.out; omega)
          have hin2 : (q : Int) < (m : Int) := by omega
          obtain ⟨hp1, hp2, -⟩ := HAl.out q (by have := HM.out; omega)
          obtain ⟨p, hp⟩ : ∃ p, l.getD q nil2 = p := ⟨_, rfl⟩
          rw [hp] at hd0 hd1 hp1 hp2
          have HPq := Lib.hid hp
          have heq1 := T_beq hp1 HAn.out
          have heq2 := T_beq hp2 HVb.out
          obtain ⟨S1, hS1⟩ : ∃ S, T p.1 = S := ⟨_, rfl⟩
          obtain ⟨S2, hS2⟩ : ∃ S, T p.2 = S := ⟨_, rfl⟩
          obtain ⟨E2, hE2⟩ : ∃ E, T v = E := ⟨_, rfl⟩
          rw [hS1] at hd0 heq1
          rw [hS2] at hd1 heq2
          rw [HE1.out] at heq1
          rw [hE2] at heq2
          have HC0' := HC0.out
          rw [hE2] at HC0'
          have HC1 := Lib.hid HC0'
          have HD0 := Lib.hid hd0
          have HD1 := Lib.hid hd1
          clear hd0 hd1 hp1 hp2 hp hS1 hS2 hE2 HC0'
          have hbs := hB.out.size
          by_cases h1 : p.1 = an
          · rw [decide_eq_true h1] at heq1
            by_cases h2 : p.2 = v
            · rw [decide_eq_true h2] at heq2
              have HR := Lib.hid (HY.out j (by have := HL.out; omega) (by
                rw [HVj.out, ← h1, ← h2]
                have := getD_in (l := l) (i := q) (d := nil2) (by have := HM.out; omega)
                rw [HPq.out] at this
                exact this))
              clear h1 h2 hno hall
              go_upto_region 7 with fail
              refine wp_region_noPanic ?_
              refine wp_region_held_drew (S := fun W => Below w1.heap.size w1 W) (by kernel_rfl) (by exact hB.out.drew) (fun hHeld => ?_)
              have hBX : Hid (Below w1.heap.size w1 (World.drew wr)) := Lib.hid hB.out.drew
              clear hB hbs
              generalize World.drew wr = X at *
              have hB := hBX
              clear hBX
              refine wpAnyH_take (i := 0) (oi := ⟨some 20, _, _, _, _, _⟩) (v := ?_) rfl (by kernel_rfl) (by kernel_rfl) (by kernel_rfl) (fun _ _ _ h => h) (Or.inl ⟨by rfl, ?_⟩) (by assumption) ?_
              rotate_left
              · intro W hSw; go_simp; try (with_reducible rfl)
              try simp only [Act.put, List.setIfInBounds_toArray, List.set_cons_zero, List.set_cons_succ]
              refine wpAnyH_take (i := 1) (oi := ⟨some 21, _, _, _, _, _⟩) (v := ?_) rfl (by kernel_rfl) (by kernel_rfl) (by kernel_rfl) (fun _ _ _ h => h) (Or.inl ⟨by rfl, ?_⟩) (by assumption) ?_
              rotate_left
              · intro W hSw; go_simp; try (with_reducible rfl)
              try simp only [Act.put, List.setIfInBounds_toArray, List.set_cons_zero, List.set_cons_succ]
              refine wpAnyH_take (i := 2) (oi := ⟨some 22, _, _, _, _, _⟩) (v := ?_) rfl (by kernel_rfl) (by kernel_rfl) (by kernel_rfl) (fun _ _ _ h => h) (Or.inl ⟨by rfl, ?_⟩) (by assumption) ?_
              rotate_left
              · intro W hSw; go_simp; try (with_reducible rfl)
              try simp only [Act.put, List.setIfInBounds_toArray, List.set_cons_zero, List.set_cons_succ]
              refine wpAnyH_take (i := 3) (oi := ⟨some 23, _, _, _, _, _⟩) (v := ?_) rfl (by kernel_rfl) (by kernel_rfl) (by kernel_rfl) (fun _ _ _ h => h) (Or.inl ⟨by rfl, ?_⟩) (by assumption) ?_
              rotate_left
              · intro W hSw; go_simp; try (with_reducible rfl)
              try simp only [Act.put, List.setIfInBounds_toArray, List.set_cons_zero, List.set_cons_succ]
              refine wpAnyH_take (i := 4) (oi := ⟨some 24, _, _, _, _, _⟩) (v := ?_) rfl (by kernel_rfl) (by kernel_rfl) (by kernel_rfl) (fun _ _ _ h => h) (Or.inl ⟨by rfl, ?_⟩) (by assumption) ?_
              rotate_left
              · intro W hSw; have q0 := (Below.cell (p := ⟨b2, off2 + q * 2, none⟩) hSw hbl2).trans HD0.out; go_simp; try (with_reducible rfl)
              try simp only [Act.put, List.setIfInBounds_toArray, List.set_cons_zero, List.set_cons_succ]
              refine wpAnyH_take (i := 5) (oi := ⟨some 25, _, _, _, _, _⟩) (v := ?_) rfl (by kernel_rfl) (by kernel_rfl) (by kernel_rfl) (fun _ _ _ h => h) (Or.inl ⟨by rfl, ?_⟩) (by assumption) ?_
              rotate_left
              · intro W hSw; go_simp; try (with_reducible rfl)
              try simp only [Act.put, List.setIfInBounds_toArray, List.set_cons_zero, List.set_cons_succ]
              refine wpAnyH_take (i := 6) (oi := ⟨some 26, _, _, _, _, _⟩) (v := ?_) rfl (by kernel_rfl) (by kernel_rfl) (by kernel_rfl) (fun _ _ _ h => h) (Or.inl ⟨by rfl, ?_⟩) (by assumption) ?_
              rotate_left
              · intro W hSw; have p0 := (R1.out.below hSw R1.out.lt).cell (i := 0) rfl; go_simp; try (with_reducible rfl)
              try simp only [Act.put, List.setIfInBounds_toArray, List.set_cons_zero, List.set_cons_succ]
              refine wpAnyH_take (i := 7) (oi := ⟨some 27, _, _, _, _, _⟩) (v := ?_) rfl (by kernel_rfl) (by kernel_rfl) (by kernel_rfl) (fun _ _ _ h => h) (Or.inl ⟨by rfl, ?_⟩) (by assumption) ?_
              rotate_left
              · intro W hSw; go_simp; try (with_reducible rfl)
              try simp only [Act.put, List.setIfInBounds_toArray, List.set_cons_zero, List.set_cons_succ]
              refine wpAnyH_take (i := 8) (oi := ⟨some 28, _, _, _, _, _⟩) (v := ?_) rfl (by kernel_rfl) (by kernel_rfl) (by kernel_rfl) (fun _ _ _ h => h) (Or.inl ⟨by rfl, ?_⟩) (by assumption) ?_
              rotate_left
              · intro W hSw; go_simp; try (with_reducible rfl)
              try simp only [Act.put, List.setIfInBounds_toArray, List.set_cons_zero, List.set_cons_succ]
              refine wpAnyH_take (i := 9) (oi := ⟨some 29, _, _, _, _, _⟩) (v := ?_) rfl (by kernel_rfl) (by kernel_rfl) (by kernel_rfl) (fun _ _ _ h => h) (Or.inl ⟨by rfl, ?_⟩) (by assumption) ?_
              rotate_left
              · intro W hSw; go_simp; try (with_reducible rfl)
              try simp only [Act.put, List.setIfInBounds_toArray, List.set_cons_zero, List.set_cons_succ]
              refine wpAnyH_take (i := 10) (oi := ⟨some 30, _, _, _, _, _⟩) (v := ?_) rfl (by kernel_rfl) (by kernel_rfl) (by kernel_rfl) (fun _ _ _ h => h) (Or.inl ⟨by rfl, ?_⟩) (by assumption) ?_
              rotate_left
              · intro W hSw; go_simp; try (with_reducible rfl)
              try simp only [Act.put, List.setIfInBounds_toArray, List.set_cons_zero, List.set_cons_succ]
              refine wpAnyH_take (i := 11) (oi := ⟨some 31, _, _, _, _, _⟩) (v := ?_) rfl (by kernel_rfl) (by kernel_rfl) (by kernel_rfl) (fun _ _ _ h => h) (Or.inl ⟨by rfl, ?_⟩) (by assumption) ?_
              rotate_left
              · intro W hSw; go_simp; try (with_reducible rfl)
              try simp only [Act.put, List.setIfInBounds_toArray, List.set_cons_zero, List.set_cons_succ]
              refine wpAnyH_take (i := 12) (oi := ⟨some 32, _, _, _, _, _⟩) (v := ?_) rfl (by kernel_rfl) (by kernel_rfl) (by kernel_rfl) (fun _ _ _ h => h) (Or.inl ⟨by rfl, ?_⟩) (by assumption) ?_
              rotate_left
              · intro W hSw; go_simp; try (with_reducible rfl)
              try simp only [Act.put, List.setIfInBounds_toArray, List.set_cons_zero, List.set_cons_succ]
              refine wpAnyH_take (i := 13) (oi := ⟨some 33, _, _, _, _, _⟩) (v := ?_) rfl (by kernel_rfl) (by kernel_rfl) (by kernel_rfl) (fun _ _ _ h => h) (Or.inl ⟨by rfl, ?_⟩) (by assumption) ?_
              rotate_left
              · intro W hSw; have q1 := (Below.cell (p := ⟨b2, off2 + q * 2 + 1, none⟩) hSw hbl2).trans HD1.out; go_simp; try (with_reducible rfl)
              try simp only [Act.put, List.setIfInBounds_toArray, List.set_cons_zero, List.set_cons_succ]
              refine wpAnyH_take (i := 14) (oi := ⟨some 34, _, _, _, _, _⟩) (v := ?_) rfl (by kernel_rfl) (by kernel_rfl) (by kernel_rfl) (fun _ _ _ h => h) (Or.inl ⟨by rfl, ?_⟩) (by assumption) ?_
              rotate_left
              · intro W hSw; go_simp; try (with_reducible rfl)
              try simp only [Act.put, List.setIfInBounds_toArray, List.set_cons_zero, List.set_cons_succ]
              refine wpAnyH_take (i := 15) (oi := ⟨some 35, _, _, _, _, _⟩) (v := ?_) rfl (by kernel_rfl) (by kernel_rfl) (by kernel_rfl) (fun _ _ _ h => h) (Or.inl ⟨by rfl, ?_⟩) (by assumption) ?_
              rotate_left
              · intro W hSw; have p1 := (R1.out.below hSw R1.out.lt).cell (i := 1) rfl; go_simp; try (with_reducible rfl)
              try simp only [Act.put, List.setIfInBounds_toArray, List.set_cons_zero, List.set_cons_succ]
              refine wpAnyH_take (i := 16) (oi := ⟨some 36, _, _, _, _, _⟩) (v := ?_) rfl (by kernel_rfl) (by kernel_rfl) (by kernel_rfl) (fun _ _ _ h => h) (Or.inl ⟨by rfl, ?_⟩) (by assumption) ?_
              rotate_left
              · intro W hSw; go_simp; try (with_reducible rfl)
              try simp only [Act.put, List.setIfInBounds_toArray, List.set_cons_zero, List.set_cons_succ]
              refine wpAnyH_take (i := 17) (oi := ⟨some 37, _, _, _, _, _⟩) (v := ?_) rfl (by kernel_rfl) (by kernel_rfl) (by kernel_rfl) (fun _ _ _ h => h) (Or.inl ⟨by rfl, ?_⟩) (by assumption) ?_
              rotate_left
              · intro W hSw; go_simp; try (with_reducible rfl)
              try simp only [Act.put, List.setIfInBounds_toArray, List.set_cons_zero, List.set_cons_succ]
              refine wpAnyH_take (i := 18) (oi := ⟨some 38, _, _, _, _, _⟩) (v := ?_) rfl (by kernel_rfl) (by kernel_rfl) (by kernel_rfl) (fun _ _ _ h => h) (Or.inl ⟨by rfl, ?_⟩) (by assumption) ?_
              rotate_left
              · intro W hSw; have q2 := (Below.cell (p := ⟨b1, off1 + j, none⟩) hSw hbl1).trans HC1.out; go_simp; try (with_reducible rfl)
              try simp only [Act.put, List.setIfInBounds_toArray, List.set_cons_zero, List.set_cons_succ]
              refine wpAnyH_take (i := 19) (oi := ⟨some 39, _, _, _, _, _⟩) (v := ?_) rfl (by kernel_rfl) (by kernel_rfl) (by kernel_rfl) (fun _ _ _ h => h) (Or.inl ⟨by rfl, ?_⟩) (by assumption) ?_
              rotate_left
              · intro W hSw; go_simp; try (with_reducible rfl)
              try simp only [Act.put, List.setIfInBounds_toArray, List.set_cons_zero, List.set_cons_succ]
              refine wpAnyH_take (i := 20) (oi := ⟨some 40, _, _, _, _, _⟩) (v := ?_) rfl (by kernel_rfl) (by kernel_rfl) (by kernel_rfl) (fun _ _ _ h => h) (Or.inl ⟨by rfl, ?_⟩) (by assumption) ?_
              rotate_left
              · intro W hSw; go_simp; try (with_reducible rfl)
              try simp only [Act.put, List.setIfInBounds_toArray, List.set_cons_zero, List.set_cons_succ]
              refine wpAnyH_done (by kernel_rfl) ?_ _
              refine NoPanic.normal ?_
              clear hHeld
              go_wp2_with fail
              go_ret
              exact ⟨by rw [HR.out]; rfl, HB1.out.trans (hB.out.mono (Nat.le_of_lt hlt1))⟩
            · rw [decide_eq_false h2] at heq2
              have hno2 := Lib.hid (fun y (hy : y < q + 1) => (by
                rcases Nat.lt_or_ge y q with h | h
                · exact hno.out y h
                · obtain rfl : y = q := by omega
                  rw [HPq.out]; exact fun e => h2 (congrArg Prod.snd e) : l.getD y nil2 ≠ (an, v)))
              clear h1 h2 hno
              go_upto_region 7 with fail
              refine wp_region_noPanic ?_
              refine wp_region_held_drew (S := fun W => Below w1.heap.size w1 W) (by kernel_rfl) (by exact hB.out.drew) (fun hHeld => ?_)
              have hBX : Hid (Below w1.heap.size w1 (World.drew wr)) := Lib.hid hB.out.drew
              clear hB hbs
              generalize World.drew wr = X at *
              have hB := hBX
              clear hBX
              refine wpAnyH_take (i := 0) (oi := ⟨some 20, _, _, _, _, _⟩) (v := ?_) rfl (by kernel_rfl) (by kernel_rfl) (by kernel_rfl) (fun _ _ _ h => h) (Or.inl ⟨by rfl, ?_⟩) (by assumption) ?_
              rotate_left
              · intro W hSw; go_simp; try (with_reducible rfl)
              try simp only [Act.put, List.setIfInBounds_toArray, List.set_cons_zero, List.set_cons_succ]
              refine wpAnyH_take (i := 1) (oi := ⟨some 21, _, _, _, _, _⟩) (v := ?_) rfl (by kernel_rfl) (by kernel_rfl) (by kernel_rfl) (fun _ _ _ h => h) (Or.inl ⟨by rfl, ?_⟩) (by assumption) ?_
              rotate_left
              · intro W hSw; go_simp; try (with_reducible rfl)
              try simp only [Act.put, List.setIfInBounds_toArray, List.set_cons_zero, List.set_cons_succ]
              refine wpAnyH_take (i := 2) (oi := ⟨some 22, _, _, _, _, _⟩) (v := ?_) rfl (by kernel_rfl) (by kernel_rfl) (by kernel_rfl) (fun _ _ _ h => h) (Or.inl ⟨by rfl, ?_⟩) (by assumption) ?_
              rotate_left
              · intro W hSw; go_simp; try (with_reducible rfl)
              try simp only [Act.put, List.setIfInBounds_toArray, List.set_cons_zero, List.set_cons_succ]
              refine wpAnyH_take (i := 3) (oi := ⟨some 23, _, _, _, _, _⟩) (v := ?_) rfl (by kernel_rfl) (by kernel_rfl) (by kernel_rfl) (fun _ _ _ h => h) (Or.inl ⟨by rfl, ?_⟩) (by assumption) ?_
              rotate_left
              · intro W hSw; go_simp; try (with_reducible rfl)
              try simp only [Act.put, List.setIfInBounds_toArray, List.set_cons_zero, List.set_cons_succ]
              refine wpAnyH_take (i := 4) (oi := ⟨some 24, _, _, _, _, _⟩) (v := ?_) rfl (by kernel_rfl) (by kernel_rfl) (by kernel_rfl) (fun _ _ _ h => h) (Or.inl ⟨by rfl, ?_⟩) (by assumption) ?_
              rotate_left
              · intro W hSw; have q0 := (Below.cell (p := ⟨b2, off2 + q * 2, none⟩) hSw hbl2).trans HD0.out; go_simp; try (with_reducible rfl)
              try simp only [Act.put, List.setIfInBounds_toArray, List.set_cons_zero, List.set_cons_succ]
              refine wpAnyH_take (i := 5) (oi := ⟨some 25, _, _, _, _, _⟩) (v := ?_) rfl (by kernel_rfl) (by kernel_rfl) (by kernel_rfl) (fun _ _ _ h => h) (Or.inl ⟨by rfl, ?_⟩) (by assumption) ?_
              rotate_left
              · intro W hSw; go_simp; try (with_reducible rfl)
              try simp only [Act.put, List.setIfInBounds_toArray, List.set_cons_zero, List.set_cons_succ]
              refine wpAnyH_take (i := 6) (oi := ⟨some 26, _, _, _, _, _⟩) (v := ?_) rfl (by kernel_rfl) (by kernel_rfl) (by kernel_rfl) (fun _ _ _ h => h) (Or.inl ⟨by rfl, ?_⟩) (by assumption) ?_
              rotate_left
              · intro W hSw; have p0 := (R1.out.below hSw R1.out.lt).cell (i := 0) rfl; go_simp; try (with_reducible rfl)
              try simp only [Act.put, List.setIfInBounds_toArray, List.set_cons_zero, List.set_cons_succ]
              refine wpAnyH_take (i := 7) (oi := ⟨some 27, _, _, _, _, _⟩) (v := ?_) rfl (by kernel_rfl) (by kernel_rfl) (by kernel_rfl) (fun _ _ _ h => h) (Or.inl ⟨by rfl, ?_⟩) (by assumption) ?_
              rotate_left
              · intro W hSw; go_simp; try (with_reducible rfl)
              try simp only [Act.put, List.setIfInBounds_toArray, List.set_cons_zero, List.set_cons_succ]
              refine wpAnyH_take (i := 8) (oi := ⟨some 28, _, _, _, _, _⟩) (v := ?_) rfl (by kernel_rfl) (by kernel_rfl) (by kernel_rfl) (fun _ _ _ h => h) (Or.inl ⟨by rfl, ?_⟩) (by assumption) ?_
              rotate_left
              · intro W hSw; go_simp; try (with_reducible rfl)
              try simp only [Act.put, List.setIfInBounds_toArray, List.set_cons_zero, List.set_cons_succ]
              refine wpAnyH_take (i := 9) (oi := ⟨some 29, _, _, _, _, _⟩) (v := ?_) rfl (by kernel_rfl) (by kernel_rfl) (by kernel_rfl) (fun _ _ _ h => h) (Or.inl ⟨by rfl, ?_⟩) (by assumption) ?_
              rotate_left
              · intro W hSw; go_simp; try (with_reducible rfl)
              try simp only [Act.put, List.setIfInBounds_toArray, List.set_cons_zero, List.set_cons_succ]
              refine wpAnyH_take (i := 10) (oi := ⟨some 30, _, _, _, _, _⟩) (v := ?_) rfl (by kernel_rfl) (by kernel_rfl) (by kernel_rfl) (fun _ _ _ h => h) (Or.inl ⟨by rfl, ?_⟩) (by assumption) ?_
              rotate_left
              · intro W hSw; go_simp; try (with_reducible rfl)
              try simp only [Act.put, List.setIfInBounds_toArray, List.set_cons_zero, List.set_cons_succ]
              refine wpAnyH_take (i := 11) (oi := ⟨some 31, _, _, _, _, _⟩) (v := ?_) rfl (by kernel_rfl) (by kernel_rfl) (by kernel_rfl) (fun _ _ _ h => h) (Or.inl ⟨by rfl, ?_⟩) (by assumption) ?_
              rotate_left
              · intro W hSw; go_simp; try (with_reducible rfl)
              try simp only [Act.put, List.setIfInBounds_toArray, List.set_cons_zero, List.set_cons_succ]
              refine wpAnyH_take (i := 12) (oi := ⟨some 32, _, _, _, _, _⟩) (v := ?_) rfl (by kernel_rfl) (by kernel_rfl) (by kernel_rfl) (fun _ _ _ h => h) (Or.inl ⟨by rfl, ?_⟩) (by assumption) ?_
              rotate_left
              · intro W hSw; go_simp; try (with_reducible rfl)
              try simp only [Act.put, List.setIfInBounds_toArray, List.set_cons_zero, List.set_cons_succ]
              refine wpAnyH_take (i := 13) (oi := ⟨some 33, _, _, _, _, _⟩) (v := ?_) rfl (by kernel_rfl) (by kernel_rfl) (by kernel_rfl) (fun _ _ _ h => h) (Or.inl ⟨by rfl, ?_⟩) (by assumption) ?_
              rotate_left
              · intro W hSw; have q1 := (Below.cell (p := ⟨b2, off2 + q * 2 + 1, none⟩) hSw hbl2).trans HD1.out; go_simp; try (with_reducible rfl)
              try simp only [Act.put, List.setIfInBounds_toArray, List.set_cons_zero, List.set_cons_succ]
              refine wpAnyH_take (i := 14) (oi := ⟨some 34, _, _, _, _, _⟩) (v := ?_) rfl (by kernel_rfl) (by kernel_rfl) (by kernel_rfl) (fun _ _ _ h => h) (Or.inl ⟨by rfl, ?_⟩) (by assumption) ?_
              rotate_left
              · intro W hSw; go_simp; try (with_reducible rfl)
              try simp only [Act.put, List.setIfInBounds_toArray, List.set_cons_zero, List.set_cons_succ]
              refine wpAnyH_take (i := 15) (oi := ⟨some 35, _, _, _, _, _⟩) (v := ?_) rfl (by kernel_rfl) (by kernel_rfl) (by kernel_rfl) (fun _ _ _ h => h) (Or.inl ⟨by rfl, ?_⟩) (by assumption) ?_
              rotate_left
              · intro W hSw; have p1 := (R1.out.below hSw R1.out.lt).cell (i := 1) rfl; go_simp; try (with_reducible rfl)
              try simp only [Act.put, List.setIfInBounds_toArray, List.set_cons_zero, List.set_cons_succ]
              refine wpAnyH_take (i := 16) (oi := ⟨some 36, _, _, _, _, _⟩) (v := ?_) rfl (by kernel_rfl) (by kernel_rfl) (by kernel_rfl) (fun _ _ _ h => h) (Or.inl ⟨by rfl, ?_⟩) (by assumption) ?_
              rotate_left
              · intro W hSw; go_simp; try (with_reducible rfl)
              try simp only [Act.put, List.setIfInBounds_toArray, List.set_cons_zero, List.set_cons_succ]
              refine wpAnyH_take (i := 17) (oi := ⟨some 37, _, _, _, _, _⟩) (v := ?_) rfl (by kernel_rfl) (by kernel_rfl) (by kernel_rfl) (fun _ _ _ h => h) (Or.inl ⟨by rfl, ?_⟩) (by assumption) ?_
              rotate_left
              · intro W hSw; go_simp; try (with_reducible rfl)
              try simp only [Act.put, List.setIfInBounds_toArray, List.set_cons_zero, List.set_cons_succ]
              refine wpAnyH_take (i := 18) (oi := ⟨some 38, _, _, _, _, _⟩) (v := ?_) rfl (by kernel_rfl) (by kernel_rfl) (by kernel_rfl) (fun _ _ _ h => h) (Or.inl ⟨by rfl, ?_⟩) (by assumption) ?_
              rotate_left
              · intro W hSw; have q2 := (Below.cell (p := ⟨b1, off1 + j, none⟩) hSw hbl1).trans HC1.out; go_simp; try (with_reducible rfl)
              try simp only [Act.put, List.setIfInBounds_toArray, List.set_cons_zero, List.set_cons_succ]
              refine wpAnyH_take (i := 19) (oi := ⟨some 39, _, _, _, _, _⟩) (v := ?_) rfl (by kernel_rfl) (by kernel_rfl) (by kernel_rfl) (fun _ _ _ h => h) (Or.inl ⟨by rfl, ?_⟩) (by assumption) ?_
              rotate_left
              · intro W hSw; go_simp; try (with_reducible rfl)
              try simp only [Act.put, List.setIfInBounds_toArray, List.set_cons_zero, List.set_cons_succ]
              refine wpAnyH_take (i := 20) (oi := ⟨some 40, _, _, _, _, _⟩) (v := ?_) rfl (by kernel_rfl) (by kernel_rfl) (by kernel_rfl) (fun _ _ _ h => h) (Or.inl ⟨by rfl, ?_⟩) (by assumption) ?_
              rotate_left
              · intro W hSw; go_simp; try (with_reducible rfl)
              try simp only [Act.put, List.setIfInBounds_toArray, List.set_cons_zero, List.set_cons_succ]
              refine wpAnyH_done (by kernel_rfl) ?_ _
              refine NoPanic.normal ?_
              clear hHeld
              go_wp2_with fail
              go_round
              case rel => exact ⟨q + 1, by omega, by go_num, hno2, hB⟩
              case measure => simp [intOf]; omega
          · rw [decide_eq_false h1] at heq1
            have hno2 := Lib.hid (fun y (hy : y < q + 1) => (by
              rcases Nat.lt_or_ge y q with h | h
              · exact hno.out y h
              · obtain rfl : y = q := by omega
                rw [HPq.out]; exact fun e => h1 (congrArg Prod.fst e) : l.getD y nil2 ≠ (an, v)))
            clear h1 hno heq2
            go_upto_region 7 with fail
            refine wp_region_noPanic ?_
            refine wp_region_held_drew (S := fun W => Below w1.heap.size w1 W) (by kernel_rfl) (by exact hB.out.drew) (fun hHeld => ?_)
            have hBX : Hid (Below w1.heap.size w1 (World.drew wr)) := Lib.hid hB.out.drew
            clear hB hbs
            generalize World.drew wr = X at *
            have hB := hBX
            clear hBX
            refine wpAnyH_take (i := 0) (oi := ⟨some 20, _, _, _, _, _⟩) (v := ?_) rfl (by kernel_rfl) (by kernel_rfl) (by kernel_rfl) (fun _ _ _ h => h) (Or.inl ⟨by rfl, ?_⟩) (by assumption) ?_
            rotate_left
            · intro W hSw; go_simp; try (with_reducible rfl)
            try simp only [Act.put, List.setIfInBounds_toArray, List.set_cons_zero, List.set_cons_succ]
            refine wpAnyH_take (i := 1) (oi := ⟨some 21, _, _, _, _, _⟩) (v := ?_) rfl (by kernel_rfl) (by kernel_rfl) (by kernel_rfl) (fun _ _ _ h => h) (Or.inl ⟨by rfl, ?_⟩) (by assumption) ?_
            rotate_left
            · intro W hSw; go_simp; try (with_reducible rfl)
            try simp only [Act.put, List.setIfInBounds_toArray, List.set_cons_zero, List.set_cons_succ]
            refine wpAnyH_take (i := 2) (oi := ⟨some 22, _, _, _, _, _⟩) (v := ?_) rfl (by kernel_rfl) (by kernel_rfl) (by kernel_rfl) (fun _ _ _ h => h) (Or.inl ⟨by rfl, ?_⟩) (by assumption) ?_
            rotate_left
            · intro W hSw; go_simp; try (with_reducible rfl)
            try simp only [Act.put, List.setIfInBounds_toArray, List.set_cons_zero, List.set_cons_succ]
            refine wpAnyH_take (i := 3) (oi := ⟨some 23, _, _, _, _, _⟩) (v := ?_) rfl (by kernel_rfl) (by kernel_rfl) (by kernel_rfl) (fun _ _ _ h => h) (Or.inl ⟨by rfl, ?_⟩) (by assumption) ?_
            rotate_left
            · intro W hSw; go_simp; try (with_reducible rfl)
            try simp only [Act.put, List.setIfInBounds_toArray, List.set_cons_zero, List.set_cons_succ]
            refine wpAnyH_take (i := 4) (oi := ⟨some 24, _, _, _, _, _⟩) (v := ?_) rfl (by kernel_rfl) (by kernel_rfl) (by kernel_rfl) (fun _ _ _ h => h) (Or.inl ⟨by rfl, ?_⟩) (by assumption) ?_
            rotate_left
            · intro W hSw; have q0 := (Below.cell (p := ⟨b2, off2 + q * 2, none⟩) hSw hbl2).trans HD0.out; go_simp; try (with_reducible rfl)
            try simp only [Act.put, List.setIfInBounds_toArray, List.set_cons_zero, List.set_cons_succ]
            refine wpAnyH_take (i := 5) (oi := ⟨some 25, _, _, _, _, _⟩) (v := ?_) rfl (by kernel_rfl) (by kernel_rfl) (by kernel_rfl) (fun _ _ _ h => h) (Or.inl ⟨by rfl, ?_⟩) (by assumption) ?_
            rotate_left
            · intro W hSw; go_simp; try (with_reducible rfl)
            try simp only [Act.put, List.setIfInBounds_toArray, List.set_cons_zero, List.set_cons_succ]
            refine wpAnyH_take (i := 6) (oi := ⟨some 26, _, _, _, _, _⟩) (v := ?_) rfl (by kernel_rfl) (by kernel_rfl) (by kernel_rfl) (fun _ _ _ h => h) (Or.inl ⟨by rfl, ?_⟩) (by assumption) ?_
            rotate_left
            · intro W hSw; have p0 := (R1.out.below hSw R1.out.lt).cell (i := 0) rfl; go_simp; try (with_reducible rfl)
            try simp only [Act.put, List.setIfInBounds_toArray, List.set_cons_zero, List.set_cons_succ]
            refine wpAnyH_take (i := 7) (oi := ⟨some 27, _, _, _, _, _⟩) (v := ?_) rfl (by kernel_rfl) (by kernel_rfl) (by kernel_rfl) (fun _ _ _ h => h) (Or.inl ⟨by rfl, ?_⟩) (by assumption) ?_
            rotate_left
            · intro W hSw; go_simp; try (with_reducible rfl)
            try simp only [Act.put, List.setIfInBounds_toArray, List.set_cons_zero, List.set_cons_succ]
            refine wpAnyH_take (i := 8) (oi := ⟨some 28, _, _, _, _, _⟩) (v := ?_) rfl (by kernel_rfl) (by kernel_rfl) (by kernel_rfl) (fun _ _ _ h => h) (Or.inl ⟨by rfl, ?_⟩) (by assumption) ?_
            rotate_left
            · intro W hSw; go_simp; try (with_reducible rfl)
            try simp only [Act.put, List.setIfInBounds_toArray, List.set_cons_zero, List.set_cons_succ]
            refine wpAnyH_take (i := 9) (oi := ⟨some 29, _, _, _, _, _⟩) (v := undef) rfl (by kernel_rfl) (by kernel_rfl) (by kernel_rfl) (fun _ _ _ h => h) (Or.inr ⟨by rfl, rfl⟩) (by assumption) ?_
            try simp only [Act.put, List.setIfInBounds_toArray, List.set_cons_zero, List.set_cons_succ]
            refine wpAnyH_take (i := 10) (oi := ⟨some 30, _, _, _, _, _⟩) (v := undef) rfl (by kernel_rfl) (by kernel_rfl) (by kernel_rfl) (fun _ _ _ h => h) (Or.inr ⟨by rfl, rfl⟩) (by assumption) ?_
            try simp only [Act.put, List.setIfInBounds_toArray, List.set_cons_zero, List.set_cons_succ]
            refine wpAnyH_take (i := 11) (oi := ⟨some 31, _, _, _, _, _⟩) (v := undef) rfl (by kernel_rfl) (by kernel_rfl) (by kernel_rfl) (fun _ _ _ h => h) (Or.inr ⟨by rfl, rfl⟩) (by assumption) ?_
            try simp only [Act.put, List.setIfInBounds_toArray, List.set_cons_zero, List.set_cons_succ]
            refine wpAnyH_take (i := 12) (oi := ⟨some 32, _, _, _, _, _⟩) (v := undef) rfl (by kernel_rfl) (by kernel_rfl) (by kernel_rfl) (fun _ _ _ h => h) (Or.inr ⟨by rfl, rfl⟩) (by assumption) ?_
            try simp only [Act.put, List.setIfInBounds_toArray, List.set_cons_zero, List.set_cons_succ]
            refine wpAnyH_take (i := 13) (oi := ⟨some 33, _, _, _, _, _⟩) (v := undef) rfl (by kernel_rfl) (by kernel_rfl) (by kernel_rfl) (fun _ _ _ h => h) (Or.inr ⟨by rfl, rfl⟩) (by assumption) ?_
            try simp only [Act.put, List.setIfInBounds_toArray, List.set_cons_zero, List.set_cons_succ]
            refine wpAnyH_take (i := 14) (oi := ⟨some 34, _, _, _, _, _⟩) (v := undef) rfl (by kernel_rfl) (by kernel_rfl) (by kernel_rfl) (fun _ _ _ h => h) (Or.inr ⟨by rfl, rfl⟩) (by assumption) ?_
            try simp only [Act.put, List.setIfInBounds_toArray, List.set_cons_zero, List.set_cons_succ]
            refine wpAnyH_take (i := 15) (oi := ⟨some 35, _, _, _, _, _⟩) (v := undef) rfl (by kernel_rfl) (by kernel_rfl) (by kernel_rfl) (fun _ _ _ h => h) (Or.inr ⟨by rfl, rfl⟩) (by assumption) ?_
            try simp only [Act.put, List.setIfInBounds_toArray, List.set_cons_zero, List.set_cons_succ]
            refine wpAnyH_take (i := 16) (oi := ⟨some 36, _, _, _, _, _⟩) (v := undef) rfl (by kernel_rfl) (by kernel_rfl) (by kernel_rfl) (fun _ _ _ h => h) (Or.inr ⟨by rfl, rfl⟩) (by assumption) ?_
            try simp only [Act.put, List.setIfInBounds_toArray, List.set_cons_zero, List.set_cons_succ]
            refine wpAnyH_take (i := 17) (oi := ⟨some 37, _, _, _, _, _⟩) (v := undef) rfl (by kernel_rfl) (by kernel_rfl) (by kernel_rfl) (fun _ _ _ h => h) (Or.inr ⟨by rfl, rfl⟩) (by assumption) ?_
            try simp only [Act.put, List.setIfInBounds_toArray, List.set_cons_zero, List.set_cons_succ]
            refine wpAnyH_take (i := 18) (oi := ⟨some 38, _, _, _, _, _⟩) (v := undef) rfl (by kernel_rfl) (by kernel_rfl) (by kernel_rfl) (fun _ _ _ h => h) (Or.inr ⟨by rfl, rfl⟩) (by assumption) ?_
            try simp only [Act.put, List.setIfInBounds_toArray, List.set_cons_zero, List.set_cons_succ]
            refine wpAnyH_take (i := 19) (oi := ⟨some 39, _, _, _, _, _⟩) (v := undef) rfl (by kernel_rfl) (by kernel_rfl) (by kernel_rfl) (fun _ _ _ h => h) (Or.inr ⟨by rfl, rfl⟩) (by assumption) ?_
            try simp only [Act.put, List.setIfInBounds_toArray, List.set_cons_zero, List.set_cons_succ]
            refine wpAnyH_take (i := 20) (oi := ⟨some 40, _, _, _, _, _⟩) (v := ?_) rfl (by kernel_rfl) (by kernel_rfl) (by kernel_rfl) (fun _ _ _ h => h) (Or.inl ⟨by rfl, ?_⟩) (by assumption) ?_
            rotate_left
            · intro W hSw; go_simp; try (with_reducible rfl)
            try simp only [Act.put, List.setIfInBounds_toArray, List.set_cons_zero, List.set_cons_succ]
            refine wpAnyH_done (by kernel_rfl) ?_ _
            refine NoPanic.normal ?_
            clear hHeld
            go_wp2_with fail
            go_round
            case rel => exact ⟨q + 1, by omega, by go_num, hno2, hB⟩
            case measure => simp [intOf]; omega
        · have hge3 : ¬ ((q : Int) < (m : Int)) := by omega
          have hall2 := Lib.hid (fun x (hx : x < j + 1) => (by
            rcases Nat.lt_or_ge x j with h | h
            · exact hall.out x h
            · obtain rfl : x = j := by omega
              rw [HVj.out]
              intro hmem
              obtain ⟨y, hy, e⟩ := List.mem_iff_getElem.1 hmem
              refine hno.out y (by have := HM.out; omega) ?_
              rw [show l.getD y nil2 = l[y] by simp [List.getElem?_eq_getElem hy]]
              exact e : (an, av.getD x []) ∉ l))
          clear hno hall hge2
          go_wp2_with fail
          go_round
          case rel => exact ⟨j + 1, by omega, by go_num, hall2, hB⟩
          case measure => simp [intOf]; omega
    · have hge2 : ¬ ((j : Int) < (n : Int)) := by omega
      have HR := Lib.hid (HN.out fun i hi => hall.out i (by have := HL.out; omega))
      clear hall hge
      go_wp2_with fail
      go_ret
      exact ⟨by rw [HR.out]; rfl, HB1.out.trans (hB.out.mono (Nat.le_of_lt hlt1))⟩
end Go.Proofs.Ytpfkhcgeblihcaa.Ude

/-
  Plain: which matches are right, the words of one, rows of words turned and doubled.
-/
namespace Go.Proofs.Ytpfkhcgeblihcaa.Qv
open Go.ChangeShapes Go.WideShapes Go.ChangeAt Go.RowKit
open Bytes8 Blk8 Own8 OwnE Fa Fb Fc Fo Pr8 Pv8 Qa Qb Qc Qn Qp Qu
set_option linter.unusedVariables false
set_option maxRecDepth 100000
set_option linter.unusedSimpArgs false

/-! ## right -/
def rA (a : AL) : Bool := decide (∀ i, i < a.2.length → (a.2.getD i []).length ≤ 256 ∧ (0 < i → ltL (a.2.getD (i - 1) []) (a.2.getD i []) = true)) && (decide (0 < a.2.length) && nmB a.1)
def rR (r : RW) : Bool := decide (∀ i, i < r.length → rA (r.getD i nilA) = true ∧ (0 < i → ltL (r.getD (i - 1) nilA).1 (r.getD i nilA).1 = true)) && decide (0 < r.length)
def vals (r : RW) : Nat := (r.map fun a => a.2.length).sum
def cnt (M : List RW) : Nat := (M.map vals).sum
def rM (M : List RW) : Bool := decide (∀ i, i < M.length → rR (M.getD i []) = true) && decide (cnt M + M.length ≤ 33)
def prs (r : RW) : List PR := r.flatMap fun a => a.2.map fun v => (a.1, v)
theorem prs_in (r : RW) (q : PR) : q ∈ prs r ↔ inR r q := by
  unfold prs inR
  rw [List.mem_flatMap]
  constructor
  · rintro ⟨a, ha, h⟩
    obtain ⟨v, hv, rfl⟩ := List.mem_map.1 h
    exact ⟨a, ha, rfl, hv⟩
  · rintro ⟨a, ha, e, h⟩
    exact ⟨a, ha, List.mem_map.2 ⟨q.2, h, by rw [e]⟩⟩
structure RightP (r : RW) : Prop where
  ris : Ris r
  ne : r ≠ []
  fine : ∀ p ∈ prs r, flawI p.1 p.2 = 0
theorem RightP.prs_ne {r : RW} (h : RightP r) : prs r ≠ [] := by
  rcases r with _ | ⟨a, r⟩
  · exact absurd rfl h.ne
  · rcases hc : a.2 with _ | ⟨v, vs⟩
    · exact absurd hc (h.ris.each a (by simp)).1
    · intro e
      have : ((a.1, v) : PR) ∈ prs (a :: r) := (prs_in _ _).2 ⟨a, by simp, rfl, by rw [hc]; simp⟩
      rw [e] at this; cases this
theorem RightP.canon {r : RW} (h : RightP r) : canon (prs r) = r := (canon_is h.ris fun q => (prs_in r q).symm).symm
theorem flaw_fine {n v : List Int} (h : flawI n v = 0) : nmB n = true ∧ v.length ≤ 256 := by
  unfold flawI at h
  by_cases h1 : nmB n = true
  · rw [if_pos h1] at h
    by_cases h2 : 256 < v.length
    · rw [if_pos h2] at h; cases h
    · exact ⟨h1, by omega⟩
  · rw [if_neg h1] at h; cases h
theorem getD_at {α : Type} {l : List α} {i : Nat} {d : α} (hi : i < l.length) : l.getD i d = l[i] := by simp [List.getElem?_eq_getElem hi]
theorem RightP.alt {r : RW} (h : RightP r) {a : AL} (ha : a ∈ r) : rA a = true := by
  obtain ⟨h1, h2⟩ := h.ris.each a ha
  have hv : ∀ v ∈ a.2, flawI a.1 v = 0 := fun v hv => h.fine (a.1, v) ((prs_in _ _).2 ⟨a, ha, rfl, hv⟩)
  have hpos := List.length_pos_iff.2 h1
  unfold rA
  rw [Bool.and_eq_true, Bool.and_eq_true, decide_eq_true_eq, decide_eq_true_eq]
  refine ⟨fun i hi => ⟨?_, fun h0 => ?_⟩, hpos, (flaw_fine (hv _ (List.getElem_mem (n := 0) hpos))).1⟩
  · rw [getD_at hi]; exact (flaw_fine (hv _ (List.getElem_mem hi))).2
  · rw [getD_at hi, getD_at (show i - 1 < a.2.length by omega)]
    exact List.pairwise_iff_getElem.1 h2 (i - 1) i (by omega) hi (by omega)
theorem RightP.right {r : RW} (h : RightP r) : rR r = true := by
  unfold rR
  rw [Bool.and_eq_true, decide_eq_true_eq, decide_eq_true_eq]
  refine ⟨fun i hi => ⟨?_, fun h0 => ?_⟩, List.length_pos_iff.2 h.ne⟩
  · rw [getD_at hi]; exact h.alt (List.getElem_mem hi)
  · rw [getD_at hi, getD_at (show i - 1 < r.length by omega)]
    exact List.pairwise_iff_getElem.1 h.ris.names (i - 1) i (by omega) hi (by omega)
theorem right_canon {row : List PR} (h : ∀ p ∈ row, flawI p.1 p.2 = 0) (h0 : row ≠ []) : RightP (canon row) := by
  refine ⟨canon_ris row, fun e => ?_, fun p hp => h p ((canon_in row p).1 ((prs_in _ p).1 hp))⟩
  rcases row with _ | ⟨p, row⟩
  · exact h0 rfl
  · have := (canon_in (p :: row) p).2 (by simp)
    rw [e] at this
    exact inR_nil p this
theorem insT_len : ∀ (l : List TX) (s : TX), (insT l s).length ≤ l.length + 1
  | [], s => by simp [insT]
  | x :: l, s => by
    unfold insT
    split
    · have := insT_len l s; simp; omega
    · split <;> simp
theorem vals_cons (a : AL) (r : RW) : vals (a :: r) = a.2.length + vals r := by simp [vals]
theorem insA_vals : ∀ (r : RW) (p : PR), vals (insA r p) ≤ vals r + 1
  | [], p => by simp [insA, vals]
  | a :: l, p => by
    unfold insA
    split
    · rw [vals_cons, vals_cons]; have := insT_len a.2 p.2; dsimp only; omega
    · split
      · rw [vals_cons, vals_cons]; simp; omega
      · rw [vals_cons, vals_cons]; have := insA_vals l p; omega
theorem fold_vals : ∀ (row : List PR) (r : RW), vals (row.foldl insA r) ≤ vals r + row.length
  | [], r => by simp
  | p :: row, r => by
    rw [List.foldl_cons]
    have h1 := fold_vals row (insA r p)
    have h2 := insA_vals r p
    simp; omega
theorem canon_vals (row : List PR) : vals (canon row) ≤ row.length := by
  have := fold_vals row []
  simpa [vals, Qa.canon] using this
theorem cnt_snoc (M : List RW) (r : RW) : cnt (M ++ [r]) = cnt M + vals r := by simp [cnt]
theorem comp_right : ∀ (ws : List TX) (rows : List RW) (row : List PR), (comp ws rows row).1 = 0 → (∀ r ∈ rows, RightP r) → (∀ p ∈ row, flawI p.1 p.2 = 0) →
    (∀ r ∈ (comp ws rows row).2, RightP r) ∧ cnt (comp ws rows row).2 + (comp ws rows row).2.length ≤ cnt rows + rows.length + row.length + ws.length + 1
  | [], rows, row, _, hR, hr => by
    rw [comp]
    dsimp only
    split
    · exact ⟨hR, by simp; omega⟩
    · rename_i e
      refine ⟨fun r h => ?_, ?_⟩
      · rcases List.mem_append.1 h with h | h
        · exact hR r h
        · rw [List.mem_singleton.1 h]; exact right_canon hr e
      · rw [cnt_snoc]; have := canon_vals row; simp; omega
  | x :: ws, rows, row, h0, hR, hr => by
    rw [comp] at h0 ⊢
    split at h0
    · rename_i e
      rw [if_pos e]
      split at h0
      · cases h0
      · rename_i e2
        rw [if_neg e2]
        have hne : row ≠ [] := fun h => e2 (.inl h)
        obtain ⟨h1, h2⟩ := comp_right ws (rows ++ [canon row]) [] h0 (fun r h => by
          rcases List.mem_append.1 h with h | h
          · exact hR r h
          · rw [List.mem_singleton.1 h]; exact right_canon hr hne) (fun _ h => by cases h)
        refine ⟨h1, ?_⟩
        rw [cnt_snoc] at h2
        have := canon_vals row
        simp at h2 ⊢; omega
    · rename_i e
      rw [if_neg e]
      split at h0
      · rename_i e2
        rw [if_pos e2]
        obtain ⟨h1, h2⟩ := comp_right ws rows (row ++ [(splitN x, splitV x)]) h0 hR (fun p h => by
          rcases List.mem_append.1 h with h | h
          · exact hr p h
          · rw [List.mem_singleton.1 h]; exact (pay_split e2).1)
        refine ⟨h1, ?_⟩
        simp at h2 ⊢; omega
      · rename_i e2
        exact absurd h0 e2
theorem right_comp {ws : List TX} {M : List RW} (h : compM ws = (0, M)) : (∀ r ∈ M, RightP r) ∧ cnt M + M.length ≤ 33 := by
  unfold compM at h
  by_cases hl : 32 < ws.length
  · rw [if_pos hl] at h; cases h
  · rw [if_neg hl] at h
    have h1 := comp_right ws [] [] (by rw [h]) (fun _ h => by cases h) (fun _ h => by cases h)
    rw [h] at h1
    refine ⟨h1.1, ?_⟩
    have := h1.2
    simp [cnt] at this ⊢; omega
theorem rM_yes {M : List RW} (h : ∀ r ∈ M, RightP r) (hc : cnt M + M.length ≤ 33) : rM M = true := by
  unfold rM
  rw [Bool.and_eq_true, decide_eq_true_eq, decide_eq_true_eq]
  exact ⟨fun i hi => by rw [getD_at hi]; exact (h _ (List.getElem_mem hi)).right, hc⟩

/-! ## words -/
def payP (p : PR) : TX := pay p.1 p.2
def rowT (r : RW) : List TX := (prs r).map payP
def wordsM : List RW → List TX
  | [] => []
  | r :: M => rowT r ++ M.flatMap fun s => [43] :: rowT s
theorem pay_word {p : PR} (h : flawI p.1 p.2 = 0) : payP p ≠ [43] ∧ splitE (payP p) = 0 ∧ (splitN (payP p), splitV (payP p)) = p := by
  have hs := split_pay h
  have hn := nmB_len (flaw_fine h).1
  refine ⟨fun e => ?_, hs.1, ?_⟩
  · have := congrArg List.length e
    unfold payP at this
    rw [pay_len] at this
    simp at this
    omega
  · unfold payP; rw [hs.2.1, hs.2.2]
theorem comp_row : ∀ (l : List PR) (t : List TX) (rows : List RW) (row : List PR), (∀ p ∈ l, flawI p.1 p.2 = 0) → comp (l.map payP ++ t) rows row = comp t rows (row ++ l)
  | [], t, rows, row, _ => by simp
  | p :: l, t, rows, row, h => by
    obtain ⟨h1, h2, h3⟩ := pay_word (h p (by simp))
    rw [List.map_cons, List.cons_append, comp, if_neg h1, if_pos h2, h3, comp_row l t rows (row ++ [p]) (fun q hq => h q (by simp [hq]))]
    simp
theorem comp_tail : ∀ (M : List RW) (rows : List RW) (r : RW), RightP r → (∀ s ∈ M, RightP s) → comp (M.flatMap fun s => [43] :: rowT s) rows (prs r) = (0, rows ++ r :: M)
  | [], rows, r, h, _ => by
    rw [List.flatMap_nil, comp, if_neg h.prs_ne, h.canon]
  | s :: M, rows, r, h, hM => by
    have hs := hM s (by simp)
    rw [List.flatMap_cons, List.cons_append, comp, if_pos rfl, if_neg, h.canon]
    · unfold rowT
      rw [comp_row (prs s) _ _ _ hs.fine, List.nil_append]
      have := comp_tail M (rows ++ [r]) s hs (fun q hq => hM q (by simp [hq]))
      unfold rowT at this
      rw [this]; simp
    · rintro (e | e)
      · exact h.prs_ne e
      · have := (List.append_eq_nil_iff.1 e).1
        unfold rowT at this
        exact hs.prs_ne (List.map_eq_nil_iff.1 this)
theorem prs_len (r : RW) : (prs r).length = vals r := by
  unfold prs vals
  rw [List.length_flatMap]
  simp
theorem words_len : ∀ (M : List RW), M ≠ [] → (wordsM M).length + 1 = cnt M + M.length
  | [], h => absurd rfl h
  | r :: M, _ => by
    have : ∀ M : List RW, (M.flatMap fun s => [43] :: rowT s).length = cnt M + M.length := fun M => by
      induction M with
      | nil => rfl
      | cons s M ih =>
        rw [List.flatMap_cons, List.length_append, ih]
        unfold rowT cnt
        simp [prs_len]; omega
    unfold wordsM
    rw [List.length_append, this]
    unfold rowT cnt
    simp [prs_len]; omega
theorem comp_words {M : List RW} (h : ∀ r ∈ M, RightP r) (hc : cnt M + M.length ≤ 33) : compM (wordsM M) = (0, M) := by
  unfold compM
  rcases M with _ | ⟨r, M⟩
  · rfl
  · have hl := words_len (r :: M) (by simp)
    rw [if_neg (by omega)]
    unfold wordsM rowT
    rw [comp_row (prs r) _ _ _ (h r (by simp)).fine, List.nil_append]
    have := comp_tail M [] r (h r (by simp)) (fun s hs => h s (by simp [hs]))
    unfold rowT at this
    rw [this]; rfl
theorem words_snoc : ∀ (M : List RW) (r : RW), wordsM (M ++ [r]) = wordsM M ++ (if M = [] then [] else [[43]]) ++ rowT r
  | [], r => by simp [wordsM]
  | s :: M, r => by simp [wordsM]
theorem rowT_snoc (r : RW) (a : AL) : rowT (r ++ [a]) = rowT r ++ a.2.map fun v => pay a.1 v := by
  unfold rowT prs
  simp [payP]
theorem words_all {M : List RW} (h : ∀ r ∈ M, RightP r) (hok : OkM M) : ∀ v ∈ wordsM M, AllB v ∧ v.length ≤ 900000 := by
  have hrow : ∀ r ∈ M, ∀ v ∈ rowT r, AllB v ∧ v.length ≤ 900000 := fun r hr v hv => by
    obtain ⟨p, hp, rfl⟩ := List.mem_map.1 hv
    obtain ⟨a, ha, e, h2⟩ := (prs_in r p).1 hp
    have ho := (hok.1 r hr).1 a ha
    have hf := (h r hr).fine p hp
    have hl := flaw_fine hf
    have hn := nmB_len hl.1
    refine ⟨pay_all (e ▸ ho.1.1) (ho.2.1 _ h2).1, ?_⟩
    unfold payP; rw [pay_len]; omega
  rcases M with _ | ⟨r, M⟩
  · intro v hv; cases hv
  · intro v hv
    unfold wordsM at hv
    rcases List.mem_append.1 hv with hv | hv
    · exact hrow r (by simp) v hv
    · obtain ⟨s, hs, hv⟩ := List.mem_flatMap.1 hv
      rcases List.mem_cons.1 hv with rfl | hv
      · exact ⟨(fun x hx => by simp at hx; subst hx; decide), by simp⟩
      · exact hrow s (by simp [hs]) v hv

/-! ## turned and doubled -/
def bk (d : Bool) : List TX → List TX → List TX → List TX
  | [], b, r => b ++ r
  | x :: ws, b, r => if x = [43] then bk d ws (b ++ r ++ [[43]]) [] else bk d ws b (if d then x :: x :: r else x :: r)
def Gd (x : TX) : Prop := x ≠ [43] ∧ splitE x = 0
theorem comp_good : ∀ (r t : List TX) (rows : List RW) (row : List PR), (∀ x ∈ r, Gd x) → comp (r ++ t) rows row = comp t rows (row ++ r.map sp)
  | [], t, rows, row, _ => by simp
  | x :: r, t, rows, row, h => by
    have hx := h x (by simp)
    rw [List.cons_append, comp, if_neg hx.1, if_pos hx.2, comp_good r t rows _ (fun y hy => h y (by simp [hy]))]
    simp
theorem canon_same {R S : List PR} (h : ∀ p, p ∈ R ↔ p ∈ S) : canon R = canon S :=
  canon_is (canon_ris R) fun q => (canon_in R q).trans (h q)
theorem comp_bk (d : Bool) : ∀ (ws b r : List TX) (A : List RW) (R : List PR), (∀ t, t ≠ [] → comp (b ++ t) [] [] = comp t A []) → (∀ x ∈ r, Gd x) → (∀ x ∈ ws, x = [43] ∨ Gd x) → (∀ p, p ∈ r.map sp ↔ p ∈ R) → (comp ws A R).1 = 0 → (ws ≠ [] ∨ r ≠ []) →
    comp (bk d ws b r) [] [] = comp ws A R
  | [], b, r, A, R, hb, hr, _, hRr, _, hne => by
    have hne : r ≠ [] := hne.elim (fun h => absurd rfl h) id
    have hR : R ≠ [] := fun e => by
      rcases r with _ | ⟨x, r⟩
      · exact hne rfl
      · have := (hRr (sp x)).1 (by simp)
        rw [e] at this; cases this
    have hm : r.map sp ≠ [] := fun e => hne (List.map_eq_nil_iff.1 e)
    unfold bk
    rw [hb r hne]
    have := comp_good r [] A [] hr
    rw [List.append_nil, List.nil_append] at this
    rw [this, comp, comp, if_neg hm, if_neg hR, canon_same hRr]
  | x :: ws, b, r, A, R, hb, hr, hw, hRr, h0, hne => by
    unfold bk
    rw [comp] at h0 ⊢
    by_cases e : x = [43]
    · rw [if_pos e] at h0
      rw [if_pos e, if_pos e]
      by_cases e2 : R = [] ∨ ws = []
      · rw [if_pos e2] at h0; cases h0
      · rw [if_neg e2] at h0 ⊢
        have hR : R ≠ [] := fun h => e2 (.inl h)
        have hws : ws ≠ [] := fun h => e2 (.inr h)
        have hrne : r ≠ [] := fun h => by
          subst h
          rcases R with _ | ⟨p, R⟩
          · exact hR rfl
          · have := (hRr p).2 (by simp)
            cases this
        have hm : r.map sp ≠ [] := fun e => hrne (List.map_eq_nil_iff.1 e)
        refine comp_bk d ws (b ++ r ++ [[43]]) [] (A ++ [canon R]) [] (fun t ht => ?_) (fun _ h => by cases h) (fun y hy => hw y (by simp [hy])) (fun p => by simp) h0 (.inl hws)
        rw [List.append_assoc, List.append_assoc, hb _ (by simp), comp_good r _ _ _ hr, List.nil_append, List.singleton_append, comp, if_pos rfl, if_neg (fun h => h.elim hm ht), canon_same hRr]
    · rw [if_neg e] at h0
      rw [if_neg e, if_neg e]
      have hx : Gd x := (hw x (by simp)).elim (fun h => absurd h e) id
      rw [if_pos hx.2] at h0 ⊢
      refine comp_bk d ws b _ A (R ++ [sp x]) hb (fun y hy => ?_) (fun y hy => hw y (by simp [hy])) (fun p => ?_) h0 (.inr (by cases d <;> simp))
      · cases d
        · rcases List.mem_cons.1 (by simpa using hy : y ∈ x :: r) with rfl | hy
          · exact hx
          · exact hr y hy
        · rcases List.mem_cons.1 (by simpa using hy : y ∈ x :: r) with rfl | hy
          · exact hx
          · exact hr y hy
      · have := hRr p
        cases d
        · simp only [Bool.false_eq_true, if_false, List.map_cons, List.mem_cons, List.mem_append, List.mem_singleton, this, List.not_mem_nil, or_false]; exact or_comm
        · simp only [if_true, List.map_cons, List.mem_cons, List.mem_append, List.mem_singleton, this, List.not_mem_nil, or_false]
          constructor
          · intro h
            exact h.elim .inr (fun h => h.elim .inr .inl)
          · intro h
            exact h.elim (fun h => .inr (.inr h)) .inl
theorem bk_len (d : Bool) : ∀ (ws b r : List TX), (bk d ws b r).length ≤ b.length + r.length + (if d then 2 else 1) * ws.length
  | [], b, r => by unfold bk; simp
  | x :: ws, b, r => by
    unfold bk
    split
    · have := bk_len d ws (b ++ r ++ [[43]]) []
      cases d <;> simp at this ⊢ <;> omega
    · cases d
      · have := bk_len false ws b (x :: r)
        simp at this ⊢; omega
      · have := bk_len true ws b (x :: x :: r)
        simp at this ⊢; omega
theorem compM_bk {d : Bool} {ws : List TX} (h : FW ws) (hl : (if d then 2 else 1) * ws.length ≤ 32) : compM (bk d ws [] []) = compM ws := by
  have h1 := bk_len d ws [] []
  have h32 : ws.length ≤ 32 := by cases d <;> simp at hl <;> omega
  have h0 := comp_fine h h32
  unfold compM at h0 ⊢
  rw [if_neg (by omega)] at h0
  rw [if_neg (by simp at h1; omega), if_neg (by omega)]
  by_cases hw : ws = []
  · subst hw; rfl
  · refine comp_bk d ws [] [] [] [] (fun t _ => rfl) (fun _ h => by cases h) (fun x hx => ?_) (fun p => by simp) h0 (.inl hw)
    obtain ⟨i, hi, rfl⟩ := List.mem_iff_getElem.1 hx
    have h2 := h.1 i hi
    rw [getD_at hi] at h2
    rcases h2 with ⟨e, _⟩ | e
    · exact .inl e
    · exact .inr ⟨e.1, e.2.1⟩
theorem bk_all {d : Bool} {F : TX → Prop} (hp : F [43]) : ∀ (ws b r : List TX), (∀ x ∈ ws, F x) → (∀ x ∈ b, F x) → (∀ x ∈ r, F x) → ∀ x ∈ bk d ws b r, F x
  | [], b, r, _, hb, hr => fun x hx => by
    unfold bk at hx
    exact (List.mem_append.1 hx).elim (hb x) (hr x)
  | y :: ws, b, r, hw, hb, hr => fun x hx => by
    unfold bk at hx
    split at hx
    · refine bk_all hp ws _ [] (fun z hz => hw z (by simp [hz])) (fun z hz => ?_) (fun _ h => by cases h) x hx
      rcases List.mem_append.1 hz with h | h
      · exact (List.mem_append.1 h).elim (hb z) (hr z)
      · rw [List.mem_singleton.1 h]; exact hp
    · refine bk_all hp ws b _ (fun z hz => hw z (by simp [hz])) hb (fun z hz => ?_) x hx
      have : z = y ∨ z ∈ r := by
        cases d <;> simp at hz
        · exact hz
        · exact hz
      rcases this with rfl | h
      · exact hw z (by simp)
      · exact hr z h
end Go.Proofs.Ytpfkhcgeblihcaa.Qv

/-
  What a match holds of: the document's way.
-/
namespace Go.Proofs.Ytpfkhcgeblihcaa.Udf
open Go.ChangeShapes Go.WideShapes Go.ChangeAt Go.RowKit
open Bytes8 Blk8 Own8 OwnM OwnE OwnA Dc Fa Fb Fo Pr8 Pv8 Qa Qb Qd Qn Ude
set_option linter.unusedVariables false
set_option maxRecDepth 100000
set_option linter.unusedSimpArgs false

theorem all_more {l : List PR} {R : RW} {q : Nat} (hq : q < R.length) : (R.take (q + 1)).all (altB l) = ((R.take q).all (altB l) && altB l (R.getD q nilA)) := by
  rw [Udb.take_more hq (d := nilA), List.all_append]
  simp
theorem holdB_yes {l : List PR} {M : List RW} {i : Nat} (hi : i < M.length) (h : rowB l (M.getD i []) = true) : holdB l M = true := by
  unfold holdB
  rw [anyB_yes hi h, Bool.or_true]
theorem holdB_end {l : List PR} {M : List RW} (h : ∀ i, i < M.length → rowB l (M.getD i []) = false) : holdB l M = decide (M.length = 0) := by
  unfold holdB
  rw [anyB_no h, Bool.or_false]
  cases M <;> simp

set_option maxHeartbeats 8000000 in
theorem rholds_any (l : List PR) (b : Option Addr) (m d : Nat) (M : List RW) (A : Option Addr) (c : Nat) (w : World) (hP : Prs w b l) (hm : l.length = m) (hm2 : m ≤ 100000) (hT : Mts w A M) (hM : OkM M) :
    Calls Try.prog 15 #[mtV A M.length c, .slice b m d] w fun e w' => e = .returned (.bool (holdB l M)) ∧ Below w.heap.size w w' := by
  have hn := hM.2
  unfold maxLen at hn
  have HO := Lib.hid fun i hi => row_ok hM (i := i) hi
  have HY := Lib.hid fun i => holdB_yes (l := l) (M := M) (i := i)
  have HN := Lib.hid (holdB_end (l := l) (M := M))
  have b1 := (Below.refl w.heap.size w).alloc (Nat.le_refl _) (.cells #[.slice A M.length c] 25)
  have R1 := Lib.hid (Blk.new w [.slice A M.length c] 25)
  have HT := Lib.hid (hT.below b1)
  have HP := Lib.hid (hP.below b1)
  have HB1 := Lib.hid b1
  dsimp only [mtV] at *
  obtain ⟨n, hL⟩ : ∃ n, M.length = n := ⟨_, rfl⟩
  have HL := Lib.hid hL
  have HM := Lib.hid hm
  rw [hL] at hn R1 HB1 HT HP ⊢
  clear hT hM hP b1 hL hm
  go_enter Try.func15, Try.ntmps15
  go_upto_region 1 with fail
  change Hid (Blk (w.alloc (.cells #[.slice A n c] 25)) w.heap.size _ _) at R1
  generalize w.alloc (.cells #[.slice A n c] 25) = w1 at *
  have hlt1 := R1.out.lt
  go_wp2_with fail
  go_loopw [5] (fun i wr => ∃ j : Nat, j ≤ n ∧ i = .int .i64 (j : Int) ∧ Hid (∀ x, x < j → rowB l (M.getD x []) = false) ∧ Hid (Below w1.heap.size w1 wr)) (fun i _ => n - (intOf i).toNat)
  case atStart => exact ⟨0, by omega, rfl, Lib.hid (fun k hk => absurd hk (by omega)), Lib.hid (Below.refl _ _)⟩
  case round =>
    obtain ⟨j, hj, rfl, hall, hB⟩ := hrel
    have r0 := (R1.out.below hB.out R1.out.lt).cell (i := 0) rfl
    rcases Nat.lt_or_ge j n with hlt | hge
    · obtain ⟨b1, off1, A1, c1, rfl, hbl1, hc0, hT1⟩ := HT.out j (by have := HL.out; omega)
      have HC0 := Lib.hid hc0
      have hin : (j : Int) < (n : Int) := by omega
      have hrj := HO.out j (by have := HL.out; omega)
      have HYj := Lib.hid (HY.out j (by have := HL.out; omega))
      obtain ⟨R, hR⟩ : ∃ R, M.getD j [] = R := ⟨_, rfl⟩
      rw [hR] at HC0 hT1 hrj HYj
      have HRr := Lib.hid hR
      have hrl := hrj.2
      unfold maxLen at hrl
      have HTR := Lib.hid hT1
      have HOR := Lib.hid hrj
      obtain ⟨rl, hrle⟩ : ∃ k, R.length = k := ⟨_, rfl⟩
      have HRL := Lib.hid hrle
      rw [hrle] at HC0 hrl
      have hB' := hB.out
      clear hc0 hT1 hrj hR hrle
      go_wp2_with fail
      go_loopw [6, 7] (fun z k wx => ∃ (q : Nat) (zz : Bool), q ≤ rl ∧ k = .int .i64 (q : Int) ∧ z = .bool zz ∧ Hid (zz = (R.take q).all (altB l)) ∧ Hid (Below w1.heap.size w1 wx)) (fun _ k _ => rl - (intOf k).toNat)
      case atStart => exact ⟨0, true, by omega, rfl, rfl, Lib.hid rfl, Lib.hid hB'⟩
      case round =>
        clear r0 hB hB'
        obtain ⟨q, zz, hq, rfl, rfl, hzz, hB⟩ := hrel
        have r0 := (R1.out.below hB.out R1.out.lt).cell (i := 0) rfl
        have hc0 := (Below.cell (p := ⟨b1, off1 + j, none⟩) hB.out hbl1).trans HC0.out
        rcases Nat.lt_or_ge q rl with hlt2 | hge2
        · obtain ⟨b2, off2, A2, c2, rfl, hbl2, d0w, d1w, hT2⟩ := HTR.out q (by have := HRL.out; omega)
          have d0 := (Below.cell (p := ⟨b2, off2 + q * 2, none⟩) hB.out hbl2).trans d0w
          have d1 := (Below.cell (p := ⟨b2, off2 + q * 2 + 1, none⟩) hB.out hbl2).trans d1w
          have hin2 : (q : Int) < (rl : Int) := by omega
          have hoq := alt_ok HOR.out (i := q) (by have := HRL.out; omega)
          have hmore := all_more (l := l) (R := R) (q := q) (by have := HRL.out; omega)
          have HC := Lib.hid fun (W : World) (hW : Below w1.heap.size w1 W) => ralt_any l (R.getD q nilA) A2 c2 b m d W (hT2.below hW) hoq (HP.out.below hW) HM.out hm2
          obtain ⟨za, hza⟩ : ∃ z, altB l (R.getD q nilA) = z := ⟨_, rfl⟩
          rw [hza] at hmore HC
          rw [← hzz.out] at hmore
          have HMo := Lib.hid hmore
          dsimp only [alV] at HC
          obtain ⟨E1, hE1⟩ : ∃ E, T (R.getD q nilA).1 = E := ⟨_, rfl⟩
          obtain ⟨n1, hn1⟩ : ∃ k, (R.getD q nilA).2.length = k := ⟨_, rfl⟩
          rw [hE1, hn1] at HC
          rw [hE1] at d0
          rw [hn1] at d1
          clear d0w d1w hT2 hoq hmore hza hE1 hn1 hzz
          cases zz with
          | true =>
            rw [Bool.true_and] at HMo
            go_wp2_with (go_at_call 27; (with_reducible refine (HC.out _ hB.out).mono ?_); rintro e w3 ⟨rfl, hb3⟩)
            go_round
            case rel => exact ⟨q + 1, za, by omega, by go_num, rfl, Lib.hid HMo.out.symm, Lib.hid (hB.out.trans (hb3.mono hB.out.size))⟩
            case measure => simp [intOf]; omega
          | false =>
            rw [Bool.false_and] at HMo
            go_wp2_with fail
            go_round
            case rel => exact ⟨q + 1, false, by omega, by go_num, rfl, Lib.hid HMo.out.symm, hB⟩
            case measure => simp [intOf]; omega
        · have hge3 : ¬ ((q : Int) < (rl : Int)) := by omega
          have hz2 := hzz.out
          rw [List.take_of_length_le (by have := HRL.out; omega)] at hz2
          have HZ := Lib.hid (show rowB l R = zz from hz2.symm)
          clear hz2 hzz hge2
          cases zz with
          | true =>
            have HR := Lib.hid (HYj.out HZ.out)
            clear hall
            go_wp2_with fail
            go_ret
            exact ⟨by rw [HR.out]; rfl, HB1.out.trans (hB.out.mono (Nat.le_of_lt hlt1))⟩
          | false =>
            have hall2 := Lib.hid (fun x (hx : x < j + 1) => (by
              rcases Nat.lt_or_ge x j with h | h
              · exact hall.out x h
              · obtain rfl : x = j := by omega
                rw [HRr.out]; exact HZ.out : rowB l (M.getD x []) = false))
            clear hall
            go_wp2_with fail
            go_round
            case rel => exact ⟨j + 1, by omega, by go_num, hall2, hB⟩
            case measure => simp [intOf]; omega
    · have hge2 : ¬ ((j : Int) < (n : Int)) := by omega
      have hR := HN.out fun i hi => hall.out i (by have := HL.out; omega)
      rw [HL.out] at hR
      have HR := Lib.hid hR
      have hz : ((n : Int) == 0) = decide (n = 0) := by
        by_cases h : n = 0
        · subst h; rfl
        · rw [decide_eq_false h]; simp; omega
      have HZ := Lib.hid hz
      clear hall hge hR hz
      go_wp2_with fail
      go_ret
      exact ⟨by rw [HR.out, ← HZ.out]; rfl, HB1.out.trans (hB.out.mono (Nat.le_of_lt hlt1))⟩
end Go.Proofs.Ytpfkhcgeblihcaa.Udf
