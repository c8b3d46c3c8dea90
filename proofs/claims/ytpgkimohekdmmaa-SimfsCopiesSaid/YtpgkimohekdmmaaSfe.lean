/-
  A file of sectors, the program's: what Crash leaves.
-/
import Derived.Test.YtpgkimohekdmmaaSfd
namespace Go.Proofs.Ytpgkimohekdmmaa.Sfe
open Go.ChangeShapes Go.WideShapes Go.ChangeAt Go.RowKit
open Bytes8 Blk8 Own8 OwnM OwnA OwnE Kf Ta Fa Sfa Sfb Sfc Sfd Rows2 Do8
set_option linter.unusedVariables false
set_option maxRecDepth 100000
set_option linter.unusedSimpArgs false

theorem FileP.laid {w W : World} {F : Nat → Prop} {g n c : Nat} {A : Option Addr} {now safe l : List Int} (h : FileP w F g now safe) (hb : Below w.heap.size w W) (ho : Own W w.heap.size A n c l) (hl : l.length ≤ 32768) :
    FileW (W.setCell ⟨g, 0, none⟩ (.slice A n c)) (Ext F w W) g l safe := by
  obtain ⟨A0, n0, c0, B, m, d, hB, _, hs, _, _, hD, hg, hfoot, _⟩ := h
  have hlt := hB.lt
  have hA : ∀ k, ownB A = some k → w.heap.size ≤ k ∧ k < W.heap.size := fun k hk => Kf.Own.block ho hk
  refine ⟨A, n, c, B, m, d, (hB.below hb hlt).set_ 0 _, Own.lower (Kf.Own.keptF ho (KeptF.set1 W g 0 _) fun k hk e => ?_) (Nat.zero_le _), Kf.Own.keptF (Own8.Own.kept hs hb (Nat.le_refl _)) (KeptF.set1 W g 0 _) (fun k hk e => (hD k hk).1 e), fun k hk hk2 => ?_, fun k hk => ⟨?_, .inr (hA k hk)⟩, fun k hk => ⟨(hD k hk).1, .inl (hD k hk).2⟩, .inl hg, ?_, hl⟩
  · have := hA k hk
    have e2 : k = g := e
    omega
  · have := hA k hk
    have := (Kf.Own.block hs hk2).2
    omega
  · have := hA k hk
    omega
  · exact (Ext.foot hfoot hb.size).kept (by simp)

theorem choose_now {now safe : List Int} {L k : Nat} {B : Nat → Bool} (h : dirt now safe k = true) (hL : (dirtyTo now safe k).length < L) (hB : B (dirtyTo now safe k).length = true) : chosen now safe (kept L B) k = sec now k := by
  unfold chosen stays kept
  rw [h, hB, decide_eq_true hL]; rfl
theorem choose_off {now safe : List Int} {L k : Nat} {B : Nat → Bool} (hB : B (dirtyTo now safe k).length = false) : chosen now safe (kept L B) k = sec safe k := by
  unfold chosen stays kept
  rw [hB, Bool.and_false, Bool.and_false]; rfl
theorem choose_out {now safe : List Int} {L k : Nat} {B : Nat → Bool} (hL : ¬ (dirtyTo now safe k).length < L) : chosen now safe (kept L B) k = sec safe k := by
  unfold chosen stays kept
  rw [decide_eq_false hL, Bool.false_and, Bool.and_false]; rfl
theorem choose_clean {now safe : List Int} {L k : Nat} {B : Nat → Bool} (h : dirt now safe k = false) : chosen now safe (kept L B) k = sec safe k := by
  unfold chosen stays
  rw [h, Bool.false_and]; rfl
theorem clean_same {now safe : List Int} {k : Nat} (h : dirt now safe k = false) : sec now k = sec safe k := by
  unfold dirt at h
  simpa using h

set_option maxRecDepth 100000 in
set_option maxHeartbeats 4000000 in
theorem crash_any (w : World) (F : Nat → Prop) (g : Nat) (now safe : List Int) (a : Option Addr) (L cL : Nat) (B : Nat → Bool) (h : FileP w F g now safe) (hk : InBools w a L B) (hL : L ≤ maxLen) :
    Calls Try.prog 44 #[.pointer (some ⟨g, 0, none⟩), .slice a L cL] w fun e w' => e = .returned (.tuple #[]) ∧ FileP w' (Ext F w w') g (crash now safe (kept L B)) (crash now safe (kept L B)) ∧ KeptF F w w' := by
  have hlen := h.len
  have HF := Lib.hid h
  unfold maxLen at hL
  obtain ⟨A, n, c, D, m, d, hB, ho, hs, _, _, _, hg, hfoot, _⟩ := h
  have c0 := hB.cell (i := 0) rfl
  have c1 := hB.cell (i := 1) rfl
  have hn0 := ho.2.1
  have hm0 := hs.2.1
  have hn : n ≤ 32768 := by omega
  have hm : m ≤ n := by omega
  have hcA := own_cap ho
  have hcD := own_cap hs
  have HC := Lib.hid (show crash now safe (kept L B) = lay (chosen now safe (kept L B)) (secs n) by unfold crash; rw [hn0]; congr 2; omega)
  have HSc := Lib.hid fun w => sectors_any A n c w (by omega)
  have hsn : secs n ≤ 64 := by unfold secs; omega
  have HSn := Lib.hid fun k => secs_lt (n := n) (k := k)
  have HLL := Lib.hid fun k => lay_le (chosen_le now safe (kept L B)) k
  have HBk := Lib.hid hB
  have HFo := Lib.hid hfoot
  have HA := Lib.hid fun k => sec_bytes (i := k) ho.bytes hn0 hcA.1
  have HD := Lib.hid fun k => sec_bytes (i := k) hs.bytes hm0 hcD.1
  have H1 := Lib.hid fun (k : Nat) (w : World) (hk : k ≤ 1000000) => sector_any A n c k w (by omega) hk hcA.1 hcA.2
  have H2 := Lib.hid fun (k : Nat) (w : World) (hk : k ≤ 1000000) => sector_any D m d k w (by omega) hk hcD.1 hcD.2
  have HK := Lib.hid hk
  rw [HC.out]
  clear hB ho hs hlen hn0 hm0 hk hcA hcD hfoot
  generalize secs n = N at *
  go_enter Try.func44, Try.ntmps44
  go_wp2_with (go_at_call 58; (with_reducible refine (HSc.out _).mono ?_); rintro e w' ⟨rfl, rfl⟩)
  go_loopw [4, 5, 13] (fun s x i wr => ∃ (k nn q : Nat) (A1 : Option Addr) (c1 : Nat), k ≤ N ∧ i = .int .i64 (k : Int) ∧ s = .slice A1 nn c1 ∧ nn ≤ 512 * k ∧ x = .int .i64 (q : Int) ∧ q ≤ k ∧ Hid (q = (dirtyTo now safe k).length) ∧ Hid (Own wr w.heap.size A1 nn c1 (lay (chosen now safe (kept L B)) k)) ∧ Hid (Below w.heap.size w wr)) (fun _ _ i _ => N - (intOf i).toNat)
  case atStart => exact ⟨0, 0, 0, none, 0, by omega, rfl, rfl, by omega, rfl, by omega, Lib.hid rfl, Lib.hid (Own.nil w _ (Nat.le_refl _)), Lib.hid (Below.refl _ _)⟩
  case round =>
    obtain ⟨k, nn, q, A1, cc1, hk, rfl, rfl, hnn, rfl, hqk, hq, hO, hBl⟩ := hrel
    rcases Nat.lt_or_ge k N with hlt | hge
    · have hin : (k : Int) < (N : Int) := by omega
      have hkn := (HSn.out k).1 hlt
      have hg1 := hBl.out
      have d0 := (hg1.cell (p := ⟨g, 0, none⟩) HBk.out.lt).trans c0
      have d1 := (hg1.cell (p := ⟨g, 1, none⟩) HBk.out.lt).trans c1
      clear hg1
      have HI := Lib.hid (isDirty_any wr F g now safe k (HF.out.below hBl.out) (by omega))
      have G1 := Lib.hid fun w => H1.out k w (by omega)
      have G2 := Lib.hid fun w => H2.out k w (by omega)
      have HFi := Lib.hid fun r => (show Calls Try.prog 53 #[.slice A1 nn cc1, .int .i64 ((k : Int) * 512)] (wr.drewN r) (Filled w.heap.size (wr.drewN r) A1 (512 * k) (pad (lay (chosen now safe (kept L B)) k) (512 * k))) by
        have e : ((k : Int) * 512) = ((512 * k : Nat) : Int) := by omega
        have h := filled_any w.heap.size A1 nn cc1 (512 * k) _ (wr.drewN r) (Own8.Own.kept hO.out (below_drewN (Below.refl _ _) r) (Nat.le_refl _)) (by omega) (by omega)
        rw [e]
        rwa [show max nn (512 * k) = 512 * k by omega] at h)
      have HcA := Lib.hid ((HA.out k).2)
      have HcD := Lib.hid ((HD.out k).2)
      have HbA := Lib.hid fun (W : World) (hW : Below w.heap.size w W) => ((HA.out k).1).below hW (Nat.le_refl _)
      have HbD := Lib.hid fun (W : World) (hW : Below w.heap.size w W) => ((HD.out k).1).below hW (Nat.le_refl _)
      unfold secV at G1 G2
      have hz1 : 0 < min 512 (n - 512 * k) := by omega
      have hz2 : min 512 (n - 512 * k) ≤ 512 := by omega
      have hz3 : min 512 (m - 512 * k) ≤ 512 := by omega
      generalize min 512 (n - 512 * k) = lA at *
      generalize hlD : min 512 (m - 512 * k) = lD at *
      have HlD := Lib.hid hlD
      clear hlD
      generalize cutA A c (min (512 * k) n) = SA at *
      generalize cutA D d (min (512 * k) m) = SD at *
      generalize c - min (512 * k) n = cA at *
      generalize d - min (512 * k) m = cD at *
      cases hd : dirt now safe k with
      | true =>
        rw [hd] at HI
        have HQ := Lib.hid (show q + 1 = (dirtyTo now safe (k + 1)).length by rw [dirtyTo_yes hd, List.length_append, ← hq.out]; rfl)
        by_cases hqL : q < L
        · have hql : (q : Int) < (L : Int) := by omega
          obtain ⟨b, off, rfl, hbl, hcl⟩ := (HK.out.below hBl.out) q hqL
          have hcl2 : ∀ r, (wr.drewN r).cell? ⟨b, off + q, none⟩ = some (.bool (B q)) := fun _ => hcl
          cases hBq : B q with
          | true =>
            rw [hBq] at hcl hcl2
            have HX := Lib.hid (choose_now (L := L) (B := B) hd (by rw [← hq.out]; exact hqL) (by rw [← hq.out]; exact hBq))
            clear hd hBq
            go_wp2_with (first
              | (go_at_call 59; (with_reducible refine HI.out.mono ?_); rintro e w2 ⟨rfl, r, rfl⟩)
              | (go_at_call 60; (with_reducible refine (G1.out _).mono ?_); rintro e w2 ⟨rfl, rfl⟩)
              | (go_at_call 60; (with_reducible refine (G2.out _).mono ?_); rintro e w2 ⟨rfl, rfl⟩)
              | (go_at_call 53; (with_reducible refine (HFi.out r).mono ?_); rintro e w3 ⟨A3, c3, rfl, ho3, hgr3, hat3⟩; have HO3 := Lib.hid ho3; have HB3 := Lib.hid ((below_drewN hBl.out r).trans (below_grown hgr3 hBl.out.size (fun k hk => (Kf.Own.block hO.out hk).1))); clear ho3)
              | (at_builtin; refine wpList_append_bytes rfl (.tmp 49) (.tmp 50) rfl w.heap.size A3 (512 * k) c3 _ rfl HO3.out SA lA cA _ rfl (HbA.out _ HB3.out) HcA.out (by omega) ?_; intro A4 c4 w4 ho4 hbel4; have HO4 := Lib.hid ho4; have HB4 := Lib.hid (HB3.out.trans hbel4); clear ho4))
            go_round
            case rel => exact ⟨k + 1, 512 * k + lA, q + 1, A4, c4, by omega, by go_num, rfl, by omega, (by go_num), by omega, HQ, Lib.hid (by rw [lay_put (by rw [HX.out, HcA.out]; omega), HX.out]; exact HO4.out), HB4⟩
            case measure => simp [intOf]; omega
          | false =>
            rw [hBq] at hcl hcl2
            have HX := Lib.hid (choose_off (now := now) (safe := safe) (L := L) (k := k) (B := B) (by rw [← hq.out]; exact hBq))
            clear hd hBq
            by_cases h0 : lD = 0
            · subst h0
              go_wp2_with (first
                | (go_at_call 59; (with_reducible refine HI.out.mono ?_); rintro e w2 ⟨rfl, r, rfl⟩)
                | (go_at_call 60; (with_reducible refine (G1.out _).mono ?_); rintro e w2 ⟨rfl, rfl⟩)
                | (go_at_call 60; (with_reducible refine (G2.out _).mono ?_); rintro e w2 ⟨rfl, rfl⟩))
              go_round
              case rel => exact ⟨k + 1, nn, q + 1, A1, cc1, by omega, by go_num, rfl, by omega, (by go_num), by omega, HQ, Lib.hid (by rw [lay_skip (by rw [HX.out, HcD.out])]; exact Own8.Own.kept hO.out (below_drewN (Below.refl _ _) r) (Nat.le_refl _)), Lib.hid (below_drewN hBl.out r)⟩
              case measure => simp [intOf]; omega
            · have h1 : 0 < lD := by omega
              clear h0
              go_wp2_with (first
                | (go_at_call 59; (with_reducible refine HI.out.mono ?_); rintro e w2 ⟨rfl, r, rfl⟩)
                | (go_at_call 60; (with_reducible refine (G1.out _).mono ?_); rintro e w2 ⟨rfl, rfl⟩)
                | (go_at_call 60; (with_reducible refine (G2.out _).mono ?_); rintro e w2 ⟨rfl, rfl⟩)
                | (go_at_call 53; (with_reducible refine (HFi.out r).mono ?_); rintro e w3 ⟨A3, c3, rfl, ho3, hgr3, hat3⟩; have HO3 := Lib.hid ho3; have HB3 := Lib.hid ((below_drewN hBl.out r).trans (below_grown hgr3 hBl.out.size (fun k hk => (Kf.Own.block hO.out hk).1))); clear ho3)
                | (at_builtin; refine wpList_append_bytes rfl (.tmp 49) (.tmp 50) rfl w.heap.size A3 (512 * k) c3 _ rfl HO3.out SD lD cD _ rfl (HbD.out _ HB3.out) HcD.out (by omega) ?_; intro A4 c4 w4 ho4 hbel4; have HO4 := Lib.hid ho4; have HB4 := Lib.hid (HB3.out.trans hbel4); clear ho4))
              go_round
              case rel => exact ⟨k + 1, 512 * k + lD, q + 1, A4, c4, by omega, by go_num, rfl, by omega, (by go_num), by omega, HQ, Lib.hid (by rw [lay_put (by rw [HX.out, HcD.out]; omega), HX.out]; exact HO4.out), HB4⟩
              case measure => simp [intOf]; omega
        · have hql : ¬ (q : Int) < (L : Int) := by omega
          have HX := Lib.hid (choose_out (now := now) (safe := safe) (L := L) (k := k) (B := B) (by rw [← hq.out]; exact hqL))
          clear hd
          by_cases h0 : lD = 0
          · subst h0
            go_wp2_with (first
              | (go_at_call 59; (with_reducible refine HI.out.mono ?_); rintro e w2 ⟨rfl, r, rfl⟩)
              | (go_at_call 60; (with_reducible refine (G1.out _).mono ?_); rintro e w2 ⟨rfl, rfl⟩)
              | (go_at_call 60; (with_reducible refine (G2.out _).mono ?_); rintro e w2 ⟨rfl, rfl⟩))
            go_round
            case rel => exact ⟨k + 1, nn, q + 1, A1, cc1, by omega, by go_num, rfl, by omega, (by go_num), by omega, HQ, Lib.hid (by rw [lay_skip (by rw [HX.out, HcD.out])]; exact Own8.Own.kept hO.out (below_drewN (Below.refl _ _) r) (Nat.le_refl _)), Lib.hid (below_drewN hBl.out r)⟩
            case measure => simp [intOf]; omega
          · have h1 : 0 < lD := by omega
            clear h0
            go_wp2_with (first
              | (go_at_call 59; (with_reducible refine HI.out.mono ?_); rintro e w2 ⟨rfl, r, rfl⟩)
              | (go_at_call 60; (with_reducible refine (G1.out _).mono ?_); rintro e w2 ⟨rfl, rfl⟩)
              | (go_at_call 60; (with_reducible refine (G2.out _).mono ?_); rintro e w2 ⟨rfl, rfl⟩)
              | (go_at_call 53; (with_reducible refine (HFi.out r).mono ?_); rintro e w3 ⟨A3, c3, rfl, ho3, hgr3, hat3⟩; have HO3 := Lib.hid ho3; have HB3 := Lib.hid ((below_drewN hBl.out r).trans (below_grown hgr3 hBl.out.size (fun k hk => (Kf.Own.block hO.out hk).1))); clear ho3)
              | (at_builtin; refine wpList_append_bytes rfl (.tmp 49) (.tmp 50) rfl w.heap.size A3 (512 * k) c3 _ rfl HO3.out SD lD cD _ rfl (HbD.out _ HB3.out) HcD.out (by omega) ?_; intro A4 c4 w4 ho4 hbel4; have HO4 := Lib.hid ho4; have HB4 := Lib.hid (HB3.out.trans hbel4); clear ho4))
            go_round
            case rel => exact ⟨k + 1, 512 * k + lD, q + 1, A4, c4, by omega, by go_num, rfl, by omega, (by go_num), by omega, HQ, Lib.hid (by rw [lay_put (by rw [HX.out, HcD.out]; omega), HX.out]; exact HO4.out), HB4⟩
            case measure => simp [intOf]; omega
      | false =>
        rw [hd] at HI
        have HQ := Lib.hid (show q = (dirtyTo now safe (k + 1)).length by rw [dirtyTo_no hd]; exact hq.out)
        have HX := Lib.hid (choose_clean (L := L) (B := B) hd)
        have h1 : 0 < lD := by
          have e := congrArg List.length (clean_same hd)
          rw [HcA.out, HcD.out] at e
          omega
        clear hd
        go_wp2_with (first
          | (go_at_call 59; (with_reducible refine HI.out.mono ?_); rintro e w2 ⟨rfl, r, rfl⟩)
          | (go_at_call 60; (with_reducible refine (G1.out _).mono ?_); rintro e w2 ⟨rfl, rfl⟩)
          | (go_at_call 60; (with_reducible refine (G2.out _).mono ?_); rintro e w2 ⟨rfl, rfl⟩)
          | (go_at_call 53; (with_reducible refine (HFi.out r).mono ?_); rintro e w3 ⟨A3, c3, rfl, ho3, hgr3, hat3⟩; have HO3 := Lib.hid ho3; have HB3 := Lib.hid ((below_drewN hBl.out r).trans (below_grown hgr3 hBl.out.size (fun k hk => (Kf.Own.block hO.out hk).1))); clear ho3)
          | (at_builtin; refine wpList_append_bytes rfl (.tmp 49) (.tmp 50) rfl w.heap.size A3 (512 * k) c3 _ rfl HO3.out SD lD cD _ rfl (HbD.out _ HB3.out) HcD.out (by omega) ?_; intro A4 c4 w4 ho4 hbel4; have HO4 := Lib.hid ho4; have HB4 := Lib.hid (HB3.out.trans hbel4); clear ho4))
        go_round
        case rel => exact ⟨k + 1, 512 * k + lD, q, A4, c4, by omega, by go_num, rfl, by omega, rfl, by omega, HQ, Lib.hid (by rw [lay_put (by rw [HX.out, HcD.out]; omega), HX.out]; exact HO4.out), HB4⟩
        case measure => simp [intOf]; omega
    · obtain rfl : k = N := by omega
      have hgl := HBk.out.lt
      have HB2 := Lib.hid (HBk.out.below hBl.out hgl)
      have f0 := HB2.out.frozen 0
      have d0 := HB2.out.cell (i := 0) rfl
      have hw1 := hBl.out.size
      have HLn := Lib.hid hO.out.2.1
      have HW := Lib.hid (FileP.laid HF.out hBl.out hO.out (by rw [HLn.out]; omega))
      have HSy := Lib.hid (sync_any _ _ g _ _ HW.out)
      have HK1 := Lib.hid ((KeptF.of_below (F := F) hBl.out).setCell (p := ⟨g, 0, none⟩) (fun _ => hg) (.slice A1 nn cc1))
      go_wp2_with (go_at_call 37; (with_reducible refine HSy.out.mono ?_); rintro e w3 ⟨rfl, hP3, hK3⟩)
      go_end0
      have hs3 := hK3.size
      have hsz : (wr.setCell ⟨g, 0, none⟩ (.slice A1 nn cc1)).heap.size = wr.heap.size := by simp
      refine ⟨rfl, hP3.more (Ext.ext hw1 hsz (by omega)) (Ext.foot HFo.out (by omega)), HK1.out.trans hK3 fun i hi hF => ?_⟩
      rcases hF with hF | hF
      · exact hF
      · omega
end Go.Proofs.Ytpgkimohekdmmaa.Sfe
