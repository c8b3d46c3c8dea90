/-
  A file of sectors, the document's own: what Crash leaves.
-/
import Derived.Test.YtknkdppaalmknaaSrc
import Derived.Test.YtknkdppaalmknaaSrb
import Derived.Test.YtknkdppaalmknaaOwnS
namespace Go.Proofs.Ytknkdppaalmknaa.Srd
open Go.ChangeShapes Go.WideShapes Go.ChangeAt Go.RowKit
open Bytes8 Blk8 Own8 OwnM OwnA OwnE OwnS Kf Ta Fa Sfa Sfb Sfd Sra Srb Srq Rows2 Do8
set_option linter.unusedVariables false
set_option linter.unusedSimpArgs false

/-- Both fields laid anew. -/
theorem FileR.both {w W : World} {G : Nat → Prop} {g n c : Nat} {A : Option Addr} {now safe l : List Int} (h : FileR w G g now safe) (hb : Below w.heap.size w W) (ho : Own W w.heap.size A n c l) (hl : l.length ≤ 32768) :
    FileR ((W.setCell ⟨g, 0, none⟩ (.slice A n c)).setCell ⟨g, 1, none⟩ (.slice A n c)) (Ext G w ((W.setCell ⟨g, 0, none⟩ (.slice A n c)).setCell ⟨g, 1, none⟩ (.slice A n c))) g l l ∧ KeptF (One g) w ((W.setCell ⟨g, 0, none⟩ (.slice A n c)).setCell ⟨g, 1, none⟩ (.slice A n c)) := by
  obtain ⟨A0, n0, c0, B, m, d, ⟨v, hB⟩, _, _, _, _, h5, h6, h7, h8, _, h10, h11, h12, _⟩ := h
  have hlt := hB.lt
  have hcap := own_cap ho
  have hA : ∀ k, ownB A = some k → w.heap.size ≤ k ∧ k < W.heap.size := fun k hk => Kf.Own.block ho hk
  have K := (KeptF.set1 W g 0 (.slice A n c)).trans (KeptF.set1 (W.setCell ⟨g, 0, none⟩ (.slice A n c)) g 1 (.slice A n c)) fun _ _ h => h
  have hsz : ((W.setCell ⟨g, 0, none⟩ (.slice A n c)).setCell ⟨g, 1, none⟩ (.slice A n c)).heap.size = W.heap.size := by simp
  have hbs := hb.size
  have hb1 := (Kf.Own.keptF ho K fun k hk e => by
    have := hA k hk
    have e2 : k = g := e
    omega).bytes
  have hx : ∀ b off, A = some ⟨b, off, none⟩ → 0 < l.length → b ≠ g ∧ Ext G w ((W.setCell ⟨g, 0, none⟩ (.slice A n c)).setCell ⟨g, 1, none⟩ (.slice A n c)) b := fun b off e h0 => by
    subst e
    have := hA b rfl
    exact ⟨by omega, .inr ⟨this.1, by omega⟩⟩
  exact ⟨⟨A, n, c, A, n, c, ⟨v, ((hB.below hb hlt).set_ 0 _).set_ 1 _⟩, hb1, ho.2.1, hcap.1, hcap.2, hb1, ho.2.1, hcap.1, hcap.2, hx, hx, .inl h11, Ext.foot h12 (by omega), Nat.le_refl _, hl⟩, (KeptF.of_below hb).trans K fun _ _ h => h⟩

theorem T_empty {l : List Int} : (T l).toList.isEmpty = decide (l.length = 0) := by
  rw [T_toList]
  cases l <;> simp

set_option maxRecDepth 100000 in
set_option maxHeartbeats 4000000 in
theorem rcrash_any (w : World) (G : Nat → Prop) (g : Nat) (now safe : List Int) (a : Option Addr) (L cL : Nat) (K : Nat → Bool) (h : FileR w G g now safe) (hA1 : AllB now) (hA2 : AllB safe) (hk : InBools w a L K) (hL : L ≤ maxLen) :
    Calls Try.prog 14 #[.pointer (some ⟨g, 0, none⟩), .slice a L cL] w fun e w' => e = .returned (.tuple #[]) ∧ FileR w' (Ext G w w') g (crash now safe (kept L K)) (crash now safe (kept L K)) ∧ KeptF (One g) w w' := by
  have HF := Lib.hid h
  have HDi := Lib.hid (rdirty_any w G g now safe h hA1 hA2)
  unfold maxLen at hL
  obtain ⟨A, n, c, B, m, d, ⟨v, hB⟩, b1, hnL, hnc, hcm, b2, hmL, hmd, hdm, _, _, _, hfoot, hle, hmax⟩ := h
  have HB := Lib.hid hB
  have hn : n ≤ 32768 := by omega
  have hmn : m ≤ n := by omega
  have hsn : secs n ≤ 64 := by unfold secs; omega
  have HD := Lib.hid (show dirty now safe = dirtyTo now safe (secs n) by unfold dirty; rw [hnL]; congr 2; omega)
  have HC := Lib.hid (show crash now safe (kept L K) = lay (chosen now safe (kept L K)) (secs n) by unfold crash; rw [hnL]; congr 2; omega)
  have HS1 := Lib.hid fun (k : Nat) (W : World) (hW : Below w.heap.size w W) (hk : k ≤ 64) => part_any A n c k now W (b1.below hW (Nat.le_refl _)) hnL (by omega) (by omega) hnc hcm
  have HS2 := Lib.hid fun (k : Nat) (W : World) (hW : Below w.heap.size w W) (hk : k ≤ 64) => part_any B m d k safe W (b2.below hW (Nat.le_refl _)) hmL (by omega) (by omega) hmd hdm
  have HSn := Lib.hid fun k => secs_lt (n := n) (k := k)
  have HLL := Lib.hid fun k => lay_le (chosen_le now safe (kept L K)) k
  have Hcl := Lib.hid fun k => chosen_le now safe (kept L K) k
  have Hca := Lib.hid fun k => chosen_all hA1 hA2 (kept L K) k
  have HK := Lib.hid hk
  have HLd := Lib.hid (dirtyTo_le now safe (secs n))
  have Hcp := Lib.hid fun (k j : Nat) (hk : k < secs n) (hj : j = min (dirtyTo now safe (secs n)).length L) => chosen_pick now safe L K hk hj
  rw [HC.out]
  unfold Places at HDi
  rw [HD.out] at HDi
  have HDm := Lib.hid (show ∀ x ∈ dirtyTo now safe (secs n), x ≤ 64 from fun x hx => by have := (dirtyTo_lt hx).1; omega)
  clear hB b1 b2 hnL hmL hle hA1 hA2 hk hfoot
  generalize hDD : dirtyTo now safe (secs n) = D at *
  generalize secs n = N at *
  obtain ⟨Ld, hLd⟩ : ∃ x, x = D.length := ⟨_, rfl⟩
  have HLd2 := Lib.hid hLd
  rw [← hLd] at HDi HLd Hcp
  have hLd64 : Ld ≤ 64 := by have := HLd.out; omega
  clear hDD hLd
  go_enter Try.func14, Try.ntmps14
  go_wp2_with (go_at_call 25; (with_reducible refine HDi.out.mono ?_); rintro e w1 ⟨Ad, cd, rfl, hoD, hb1⟩; have HOd := Lib.hid hoD; have Hb1 := Lib.hid hb1; clear hoD)
  have HIn := Lib.hid (OwnI.ints HOd.out fun x hx => by have := HDm.out x hx; omega)
  have hs1 := hb1.size
  clear hb1
  go_loopw [5, 6] (fun s i wr => ∃ (k nn : Nat) (A1 : Option Addr) (c1 : Nat), k ≤ N ∧ i = .int .i64 (k : Int) ∧ s = .slice A1 nn c1 ∧ nn ≤ 512 * k ∧ Hid (Own wr w1.heap.size A1 nn c1 (lay (chosen now safe (kept L K)) k)) ∧ Hid (Below w1.heap.size w1 wr)) (fun _ i _ => N - (intOf i).toNat)
  case atStart => exact ⟨0, 0, none, 0, by omega, rfl, rfl, by omega, Lib.hid (Own.nil w1 _ (Nat.le_refl _)), Lib.hid (Below.refl _ _)⟩
  case round =>
    obtain ⟨k, nn, A1, c1, hk, rfl, rfl, hnk, hO, hBl⟩ := hrel
    have HBr := Lib.hid (HB.out.below (Hb1.out.trans (hBl.out.mono hs1)) HB.out.lt)
    have d0 := HBr.out.cell (i := 0) rfl
    have d1 := HBr.out.cell (i := 1) rfl
    have hkm : (k : Int) * 512 = ((512 * k : Nat) : Int) := by omega
    rcases Nat.lt_or_ge k N with hlt | hge
    · have hkn := (HSn.out k).1 hlt
      go_wp2_with fail
      go_quiet (fail)
      have HB1 := Lib.hid (HBr.out.drewN nq)
      have hB1 := Lib.hid (below_drewN hBl.out nq)
      have hO1 := Lib.hid (Own8.Own.kept hO.out (below_drewN (Below.refl wr.heap.size wr) nq) (Nat.le_refl _))
      clear d0 d1 HBr hBl hO
      generalize wr.drewN nq = W1 at *
      clear nq
      have d0 := HB1.out.cell (i := 0) rfl
      have d1 := HB1.out.cell (i := 1) rfl
      have hW1 := Lib.hid (Hb1.out.trans (hB1.out.mono hs1))
      have G1 := Lib.hid (HS1.out k W1 hW1.out (by omega))
      have G2 := Lib.hid (HS2.out k W1 hW1.out (by omega))
      go_wp2_with (go_at_call 32; (with_reducible refine G2.out.mono ?_); rintro e w2 ⟨rfl, rfl⟩)
      go_loop [7, 8] (fun s i => ∃ j : Nat, j ≤ Ld ∧ j ≤ L ∧ i = .int .i64 (j : Int) ∧ s = .string (T (if pick D K k j = true then sec now k else sec safe k))) (fun _ i => Ld - (intOf i).toNat)
      case atStart => exact ⟨0, by omega, by omega, rfl, rfl⟩
      case round =>
        obtain ⟨j, hj1, hj2, rfl, rfl⟩ := hrel
        by_cases hin : j < Ld ∧ j < L
        · obtain ⟨hjD, hjL⟩ := hin
          have q1 : decide ((j : Int) < (Ld : Int)) = true := by simp; omega
          have q2 : decide ((j : Int) < (L : Int)) = true := by simp; omega
          obtain ⟨bd, od, rfl, _, hcd, _⟩ := (HIn.out.below hB1.out) j hjD
          obtain ⟨bk, ok, rfl, _, hck⟩ := (HK.out.below hW1.out) j hjL
          have hcd2 : W1.cell? ⟨bd, od + j, none⟩ = some (.int .i64 ((D.getD j 0 : Nat) : Int)) := hcd
          clear hcd
          by_cases hdk : D.getD j 0 = k
          · rw [hdk] at hcd2
            cases hKj : K j with
            | true =>
              rw [hKj] at hck
              have HP := Lib.hid (pick_yes hdk hKj)
              clear hdk hKj
              go_wp2_with (go_at_call 32; (with_reducible refine G1.out.mono ?_); rintro e w2 ⟨rfl, rfl⟩)
              go_round
              case rel => exact ⟨j + 1, by omega, by omega, by go_num, by rw [HP.out]; rfl⟩
              case measure => simp [intOf]; omega
            | false =>
              rw [hKj] at hck
              have HP := Lib.hid (pick_no (d := D) (k := k) hKj)
              clear hdk hKj
              go_wp2
              go_round
              case rel => exact ⟨j + 1, by omega, by omega, by go_num, by rw [HP.out]⟩
              case measure => simp [intOf]; omega
          · have HP := Lib.hid (pick_other (B := K) hdk)
            generalize D.getD j 0 = x at *
            have q3 : ((x : Int) == (k : Int)) = false := by simp; omega
            go_wp2
            go_round
            case rel => exact ⟨j + 1, by omega, by omega, by go_num, by rw [HP.out]⟩
            case measure => simp [intOf]; omega
        · have hjm : j = min Ld L := by omega
          have hch := Hcp.out k j hlt hjm
          rw [hch]
          have Hcle := Lib.hid (Hcl.out k)
          have Hcal := Lib.hid (Hca.out k)
          have Hlk := Lib.hid (HLL.out k)
          have hE := T_empty (l := chosen now safe (kept L K) k)
          have q0 : (decide ((j : Int) < (Ld : Int)) && decide ((j : Int) < (L : Int))) = false := by
            simp; omega
          by_cases h0 : (chosen now safe (kept L K) k).length = 0
          · rw [decide_eq_true h0] at hE
            have HLs := Lib.hid (lay_skip h0)
            clear hch
            generalize T (chosen now safe (kept L K) k) = S at *
            rcases Nat.lt_or_ge j Ld with hq | hq
            · have q1 : decide ((j : Int) < (Ld : Int)) = true := by simp; omega
              have q2 : decide ((j : Int) < (L : Int)) = false := by simp; omega
              go_wp2
              go_round
              case rel => exact ⟨k + 1, nn, A1, c1, by omega, by go_num, rfl, by omega, by rw [HLs.out]; exact hO1, hB1⟩
              case measure => simp [intOf]; omega
            · have q1 : decide ((j : Int) < (Ld : Int)) = false := by simp; omega
              go_wp2
              go_round
              case rel => exact ⟨k + 1, nn, A1, c1, by omega, by go_num, rfl, by omega, by rw [HLs.out]; exact hO1, hB1⟩
              case measure => simp [intOf]; omega
          · rw [decide_eq_false h0] at hE
            have HLp := Lib.hid (lay_put h0)
            have HSt := Lib.hid (show (chosen now safe (kept L K) k).length = (chosen now safe (kept L K) k).length from rfl)
            clear hch
            obtain ⟨ch, hch⟩ : ∃ ch, chosen now safe (kept L K) k = ch := ⟨_, rfl⟩
            have Hch := Lib.hid hch
            rw [hch] at hE h0 ⊢ Hcle Hcal HLp
            clear hch HSt
            obtain ⟨S, hS⟩ : ∃ S, T ch = S := ⟨_, rfl⟩
            have HS := Lib.hid hS
            rw [hS] at hE ⊢
            clear hS
            rcases Nat.lt_or_ge j Ld with hq | hq
            · have q1 : decide ((j : Int) < (Ld : Int)) = true := by simp; omega
              have q2 : decide ((j : Int) < (L : Int)) = false := by simp; omega
              go_wp2
              go_loopw [5] (fun s wr' => ∃ (l : List Int) (n2 : Nat) (A2 : Option Addr) (c2 : Nat), s = .slice A2 n2 c2 ∧ n2 ≤ 512 * k ∧ Hid (pad l (512 * k) = pad (lay (chosen now safe (kept L K)) k) (512 * k)) ∧ Hid (Own wr' w1.heap.size A2 n2 c2 l) ∧ Hid (Below w1.heap.size w1 wr')) (fun s _ => match s with | .slice _ n2 _ => 512 * k - n2 | _ => 0)
              case atStart => exact ⟨_, nn, A1, c1, rfl, hnk, Lib.hid rfl, hO1, hB1⟩
              case round =>
                obtain ⟨l, n2, A2, c2, rfl, hn2, hpad, hO2, hB2⟩ := hrel
                rcases Nat.lt_or_ge n2 (512 * k) with hlt2 | hge2
                · have hin2 : (n2 : Int) < 512 * (k : Int) := by omega
                  go_wp2_with (at_builtin; refine wpList_append_bytes rfl (.tmp 70) (.tmp 71) rfl w1.heap.size A2 n2 c2 l rfl (hO2.out.alloc _) (some ⟨wr.heap.size, 0, none⟩) 1 1 [0] rfl (zero_elt wr _) rfl (by omega) ?_; intro A3 c3 w3 ho3 hbel3; have HO3 := Lib.hid ho3; have Hb3 := Lib.hid ((hB2.out.alloc hB2.out.size _).trans hbel3); clear ho3)
                  go_round
                  case rel => exact ⟨l ++ [0], n2 + 1, A3, c3, rfl, by omega, Lib.hid (by rw [pad_step (by rw [hO2.out.2.1]; exact hlt2)]; exact hpad.out), HO3, Hb3⟩
                  case measure => show 512 * k - (n2 + 1) < 512 * k - n2; omega
                · obtain rfl : n2 = 512 * k := by omega
                  obtain rfl : l = pad (lay (chosen now safe (kept L K)) k) (512 * k) := by rw [← hpad.out, pad_same (by rw [hO2.out.2.1]; exact hge2)]
                  have hin2 : ¬ (((512 * k : Nat) : Int) < 512 * (k : Int)) := by omega
                  go_wp2_with (at_builtin; refine wpList_append_text rfl (.tmp 73) (.tmp 74) rfl w1.heap.size A2 (512 * k) c2 _ rfl hO2.out ch ch.length (congrArg Value.string HS.out.symm) Hcal.out rfl (by have := Hcle.out; omega) ?_; intro A4 c4 w4 ho4 hbel4; have HO4 := Lib.hid ho4; have HB4 := Lib.hid (hB2.out.trans hbel4); clear ho4)
                  go_round
                  case rel => exact ⟨k + 1, 512 * k + ch.length, A4, c4, by omega, by go_num, rfl, by have := Hcle.out; omega, by rw [HLp.out]; exact HO4, HB4⟩
                  case measure => simp [intOf]; omega
            · have q1 : decide ((j : Int) < (Ld : Int)) = false := by simp; omega
              go_wp2
              go_loopw [5] (fun s wr' => ∃ (l : List Int) (n2 : Nat) (A2 : Option Addr) (c2 : Nat), s = .slice A2 n2 c2 ∧ n2 ≤ 512 * k ∧ Hid (pad l (512 * k) = pad (lay (chosen now safe (kept L K)) k) (512 * k)) ∧ Hid (Own wr' w1.heap.size A2 n2 c2 l) ∧ Hid (Below w1.heap.size w1 wr')) (fun s _ => match s with | .slice _ n2 _ => 512 * k - n2 | _ => 0)
              case atStart => exact ⟨_, nn, A1, c1, rfl, hnk, Lib.hid rfl, hO1, hB1⟩
              case round =>
                obtain ⟨l, n2, A2, c2, rfl, hn2, hpad, hO2, hB2⟩ := hrel
                rcases Nat.lt_or_ge n2 (512 * k) with hlt2 | hge2
                · have hin2 : (n2 : Int) < 512 * (k : Int) := by omega
                  go_wp2_with (at_builtin; refine wpList_append_bytes rfl (.tmp 70) (.tmp 71) rfl w1.heap.size A2 n2 c2 l rfl (hO2.out.alloc _) (some ⟨wr.heap.size, 0, none⟩) 1 1 [0] rfl (zero_elt wr _) rfl (by omega) ?_; intro A3 c3 w3 ho3 hbel3; have HO3 := Lib.hid ho3; have Hb3 := Lib.hid ((hB2.out.alloc hB2.out.size _).trans hbel3); clear ho3)
                  go_round
                  case rel => exact ⟨l ++ [0], n2 + 1, A3, c3, rfl, by omega, Lib.hid (by rw [pad_step (by rw [hO2.out.2.1]; exact hlt2)]; exact hpad.out), HO3, Hb3⟩
                  case measure => show 512 * k - (n2 + 1) < 512 * k - n2; omega
                · obtain rfl : n2 = 512 * k := by omega
                  obtain rfl : l = pad (lay (chosen now safe (kept L K)) k) (512 * k) := by rw [← hpad.out, pad_same (by rw [hO2.out.2.1]; exact hge2)]
                  have hin2 : ¬ (((512 * k : Nat) : Int) < 512 * (k : Int)) := by omega
                  go_wp2_with (at_builtin; refine wpList_append_text rfl (.tmp 73) (.tmp 74) rfl w1.heap.size A2 (512 * k) c2 _ rfl hO2.out ch ch.length (congrArg Value.string HS.out.symm) Hcal.out rfl (by have := Hcle.out; omega) ?_; intro A4 c4 w4 ho4 hbel4; have HO4 := Lib.hid ho4; have HB4 := Lib.hid (hB2.out.trans hbel4); clear ho4)
                  go_round
                  case rel => exact ⟨k + 1, 512 * k + ch.length, A4, c4, by omega, by go_num, rfl, by have := Hcle.out; omega, by rw [HLp.out]; exact HO4, HB4⟩
                  case measure => simp [intOf]; omega
    · obtain rfl : k = N := by omega
      have hkn : ¬ (512 * k < n) := fun h => absurd ((HSn.out k).2 h) (by omega)
      have hlt := HBr.out.lt
      have f0 := fun q => (HBr.out.drewN q).frozen 0
      have f1 := fun q => (HBr.out.drewN q).frozen 1
      go_wp2_with fail
      go_quiet (fail)
      go_wp2
      go_end0
      have hl := HLL.out k
      exact ⟨rfl, FileR.both HF.out (below_drewN (Hb1.out.trans (hBl.out.mono hs1)) nq) (Own.lower (Own8.Own.kept hO.out (below_drewN (Below.refl wr.heap.size wr) nq) (Nat.le_refl _)) hs1) (by omega)⟩
end Go.Proofs.Ytknkdppaalmknaa.Srd
