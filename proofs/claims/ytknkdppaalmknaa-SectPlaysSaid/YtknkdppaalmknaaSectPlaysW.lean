/-
  The walk of SectPlays: at any things that are done to a file the law returns true, and nothing that was there is written.
-/
import Derived.Test.YtknkdppaalmknaaSfg
import Derived.Test.YtknkdppaalmknaaSrd
import Derived.BigQuiet
import Derived.Deep.RegionHeld3
import Derived.Deep.CutBlock
import Derived.Deep.CutRange
namespace Go.Proofs.Ytknkdppaalmknaa.SectPlaysW
open Go.ChangeShapes Go.WideShapes Go.ChangeAt Go.RowKit
open Bytes8 Blk8 Own8 OwnM OwnA OwnE Kf Ta Fa Sfa Sfb Sfc Sfd Sfe Sfg Sra Srb Srq Srd Rows2 Do8 Numb
set_option linter.unusedVariables false
set_option linter.unusedSimpArgs false

/-- The two files, with the same bytes, apart from each other; all in blocks from B on. -/
def Both (w : World) (B gf gw : Nat) (now safe : List Int) : Prop :=
  ∃ F G, FileP w F gf now safe ∧ FileR w G gw now safe ∧ Off F G ∧ (∀ k, F k → B ≤ k) ∧ (∀ k, G k → B ≤ k)

theorem Both.below {w w' : World} {B gf gw : Nat} {now safe : List Int} (h : Both w B gf gw now safe) (hb : Below w.heap.size w w') : Both w' B gf gw now safe := by
  obtain ⟨F, G, h1, h2, h3⟩ := h
  exact ⟨F, G, h1.below hb, h2.below hb, h3⟩
/-- Behind a call of each. -/
theorem both_after {W W2 W3 : World} {B gf gw : Nat} {F G : Nat → Prop} {now safe : List Int} (hF : FileP W2 (Ext F W W2) gf now safe) (hG : FileR W3 (Ext G W2 W3) gw now safe) (hK : KeptF (One gw) W2 W3) (hg : G gw) (hoff : Off F G) (fF : Foot W F) (fG : Foot W G) (h1 : W.heap.size ≤ W2.heap.size) (lF : ∀ k, F k → B ≤ k) (lG : ∀ k, G k → B ≤ k) (hB : B ≤ W.heap.size) : Both W3 B gf gw now safe := by
  have hs := hK.size
  have h2 := fG gw hg
  refine ⟨_, _, hF.keptF hK (fun k h e => ?_), hG, fun k h h' => ?_, Ext.low hB lF, Ext.low (by omega) lG⟩
  · have e2 : k = gw := e
    subst e2
    rcases h with h | h
    · exact hoff _ h hg
    · omega
  · rcases h with h | h
    · have := fF k h
      rcases h' with h' | h'
      · exact hoff _ h h'
      · omega
    · rcases h' with h' | h'
      · have := fG k h'
        omega
      · omega
theorem FileR.here {w : World} {G : Nat → Prop} {g : Nat} {now safe : List Int} (h : FileR w G g now safe) : G g := by
  obtain ⟨A, n, c, B, m, d, _, _, _, _, _, _, _, _, _, _, _, h, _⟩ := h
  exact h
theorem more_ext {w w' : World} {G : Nat → Prop} {g : Nat} {now safe : List Int} (W : World) (h : FileR w' G g now safe) (hf : Foot w G) (hs : w.heap.size ≤ w'.heap.size) : FileR w' (Ext G w w') g now safe := h.more (fun _ => Or.inl) (Ext.foot hf hs)
/-- What stays of another block. -/
theorem blk_two {W W2 W3 : World} {gd gw : Nat} {F : Nat → Prop} {vs : List Value} {T : TypeId} (h : Blk W gd vs T) (h1 : KeptF F W W2) (h2 : KeptF (One gw) W2 W3) (hF : ¬ F gd) (hw : gd ≠ gw) : Blk W3 gd vs T := Kf.Blk.keptF (Kf.Blk.keptF h h1 hF) h2 hw

set_option maxRecDepth 100000 in
set_option maxHeartbeats 1000000 in
theorem walk_long (a : Option Addr) (len cap : Nat) (w : World) (h : 40 < len) (hl : len ≤ 9223372036854775807) :
    Calls Try.prog 3 #[.slice a len cap] w fun e w' => e = .returned (.bool true) ∧ Below w.heap.size w w' := by
  have hd1 : (40 : Int) < (len : Int) := by omega
  go_enter Try.func3, Try.ntmps3
  go_wp2_with (go_at_call 7; (with_reducible refine (first_any _).mono ?_); rintro e w1 ⟨rfl, hbel⟩)
  go_ret
  exact ⟨rfl, hbel⟩

set_option maxRecDepth 100000 in
set_option maxHeartbeats 8000000 in
theorem walk_in (a : Option Addr) (len cap : Nat) (D : Nat → DoV) (w : World) (hD : InDos w a len D) (h40 : len ≤ 40) :
    Calls Try.prog 3 #[.slice a len cap] w fun e w' => e = .returned (.bool true) ∧ Below w.heap.size w w' := by
  have HD := Lib.hid hD
  clear hD
  go_enter Try.func3, Try.ntmps3
  go_wp2_with (first
    | (go_at_call 7; (with_reducible refine (first_any _).mono ?_); rintro e w1 ⟨rfl, hb1⟩)
    | (go_at_call 8; (with_reducible refine (new_any w1).mono ?_); rintro e w2 ⟨rfl, hP, hb2⟩; have HP := Lib.hid hP; have hs1 := hb1.size; have Hb2 := Lib.hid (hb1.trans (hb2.mono hs1)); clear hP))
  have hs2 := hb2.size
  have HR := Lib.hid (FileR.new w2)
  have b3 := (Below.refl w2.heap.size w2).alloc (Nat.le_refl _) (.cells #[.slice none 0 0, .slice none 0 0, .int .i64 0] 29)
  have HB0 := Lib.hid (show Both _ w.heap.size w1.heap.size w2.heap.size [] [] from ⟨_, _, HP.out.below b3, HR.out, (fun k h1 h2 => by simp only [Ext, None', false_or] at h1 h2; omega), Ext.low hs1 (fun _ h => h.elim), Ext.low (Nat.le_trans hs1 hs2) (fun _ h => h.elim)⟩)
  have Hb3 := Lib.hid (Hb2.out.trans (b3.mono (Nat.le_trans hs1 hs2)))
  generalize w1.heap.size = gf0 at *
  generalize w2.heap.size = gw0 at *
  go_loopw [4, 5, 6] (fun f r i wr => ∃ (k gf gw : Nat) (now safe : List Int), k ≤ len ∧ i = .int .i64 (k : Int) ∧ f = .pointer (some ⟨gf, 0, none⟩) ∧ r = .pointer (some ⟨gw, 0, none⟩) ∧ Hid (Both wr w.heap.size gf gw now safe) ∧ Hid (Below w.heap.size w wr)) (fun _ _ i _ => len - (intOf i).toNat)
  case atStart => exact ⟨0, gf0, gw0, [], [], by omega, rfl, rfl, rfl, HB0, Hb3⟩
  case round =>
    obtain ⟨k, gf, gw, now, safe, hk, rfl, rfl, rfl, hB, hBl⟩ := hrel
    rcases Nat.lt_or_ge k len with hlt | hge
    · have hin : (k : Int) < (len : Int) := by omega
      have hok : DoOk w (D k) := by
        obtain ⟨_, _, _, _, _, _, _, _, _, h⟩ := HD.out k hlt
        exact h
      obtain ⟨b, off, rfl, hbl, c0, c1, c2, c3, c4, _⟩ := (HD.out.below hBl.out) k hlt
      generalize D k = d at *
      obtain ⟨kd, at_, dn, A1, L1, C1, Z1, A2, L2, C2, K⟩ := d
      obtain ⟨f0, f1, f2, hrow, hbools, hLC, hCm⟩ := hok
      simp only at c0 c1 c2 c3 c4 f0 f1 f2 hrow hbools hLC hCm
      obtain ⟨p0, p1⟩ := bounds_i64 f1
      obtain ⟨n0, n1⟩ := bounds_i64 f2
      go_upto_region 14 with fail
      obtain ⟨hb, hL, hcap1, hcap2, _⟩ := hrow.bytes
      generalize Z1.take L1 = b1 at hb hL
      have bd := (Below.refl wr.heap.size wr).alloc (Nat.le_refl _) (.cells #[.int .i64 kd, .int .i64 at_, .int .i64 dn, .slice A1 L1 C1, .slice A2 L2 C2] 32)
      have HBd := Lib.hid (Blk.new wr [.int .i64 kd, .int .i64 at_, .int .i64 dn, .slice A1 L1 C1, .slice A2 L2 C2] 32)
      obtain ⟨F, G, hF, hG, hoff, hlF, hlG⟩ := hB.out
      have hsr := hBl.out.size
      have hfF := hF.foot
      have hfG := hG.foot
      have HF := Lib.hid (hF.below bd)
      have HG := Lib.hid (hG.below bd)
      have Hbl := Lib.hid (hBl.out.trans (bd.mono hsr))
      have Hby := Lib.hid fun (W : World) (hW : Below w.heap.size w W) => hb.below hW (Nat.le_refl _)
      have Hbo := Lib.hid fun (W : World) (hW : Below w.heap.size w W) => hbools.below hW
      have HLb := Lib.hid hL
      have Hlow := Lib.hid (show ∀ k' off', A1 = some ⟨k', off', none⟩ → 0 < b1.length → k' < w.heap.size from fun k' off' e hl => by
        obtain ⟨b', off'', e', hlt, _⟩ := hb.2 0 hl
        rw [e] at e'; simp at e'; obtain ⟨rfl, rfl⟩ := e'; exact hlt)
      have hgd : ¬ F wr.heap.size ∧ ¬ G wr.heap.size ∧ w.heap.size ≤ wr.heap.size := ⟨fun h => by have := hfF _ h; omega, fun h => by have := hfG _ h; omega, hsr⟩
      clear hF hG c0 c1 c2 c3 c4 hb hbools hrow hL
      have hgdl := HBd.out.lt
      generalize (wr.alloc (.cells #[.int .i64 kd, .int .i64 at_, .int .i64 dn, .slice A1 L1 C1, .slice A2 L2 C2] 32)) = Wd at *
      generalize wr.heap.size = gd at *
      have c0 := HBd.out.cell (i := 0) rfl
      have c1 := HBd.out.cell (i := 1) rfl
      have c2 := HBd.out.cell (i := 2) rfl
      have c3 := HBd.out.cell (i := 3) rfl
      have c4 := HBd.out.cell (i := 4) rfl
      unfold maxLen at hcap2 hCm
      by_cases hbig : 1500 < L1
      · have q1 : decide ((1500 : Int) < (L1 : Int)) = true := by simp; omega
        go_wp2
        go_ret
        exact ⟨rfl, Hbl.out⟩
      by_cases hbig2 : 100 < L2
      · have q1 : decide ((1500 : Int) < (L1 : Int)) = false := by simp; omega
        have q2 : decide ((100 : Int) < (L2 : Int)) = true := by simp; omega
        go_wp2
        go_ret
        exact ⟨rfl, Hbl.out⟩
      have q1 : decide ((1500 : Int) < (L1 : Int)) = false := by simp; omega
      have q2 : decide ((100 : Int) < (L2 : Int)) = false := by simp; omega
      go_upto_block 2 with fail
      go_cut [4, 5] from 46 to 86 (fun f r wx => ∃ (gf gw : Nat) (now safe : List Int), f = .pointer (some ⟨gf, 0, none⟩) ∧ r = .pointer (some ⟨gw, 0, none⟩) ∧ Hid (Both wx w.heap.size gf gw now safe) ∧ Hid (Below w.heap.size w wx) ∧ Hid (Blk wx gd [.int .i64 kd, .int .i64 at_, .int .i64 dn, .slice A1 L1 C1, .slice A2 L2 C2] 32))
      case first =>
        have hgG := FileR.here HG.out
        have hne : gd ≠ gw := fun e => hgd.2.1 (e ▸ hgG)
        have fF := HF.out.foot
        have fG := HG.out.foot
        have hbd : Below Wd.heap.size Wd Wd.drew := below_drewN (Below.refl _ _) 1
        have hoffF : LiesOff A1 b1 F := fun b' off' e h0 hf => by
          have := Hlow.out b' off' e h0
          have := hlF b' hf
          omega
        have hoffG : LiesOff A1 b1 (One gw) := fun b' off' e h0 hf => by
          have := Hlow.out b' off' e h0
          have e2 : b' = gw := hf
          have := hlG gw hgG
          omega
        by_cases k0 : kd = 0
        · subst k0
          have HFd := Lib.hid (HF.out.below hbd)
          have HGd := Lib.hid (HG.out.below hbd)
          have Hbld := Lib.hid (Hbl.out.trans (hbd.mono Hbl.out.size))
          have HBdd := Lib.hid (HBd.out.below hbd hgdl)
          have g1 := HBdd.out.cell (i := 1) rfl
          have g3 := HBdd.out.cell (i := 3) rfl
          have HW1 := Lib.hid (write_any Wd.drew F gf now safe at_ A1 L1 C1 b1 HFd.out (Hby.out _ Hbld.out) HLb.out (by unfold maxLen; omega) hoffF (by omega) (by omega))
          have fF1 := HFd.out.foot
          have fG1 := HGd.out.foot
          go_upto_region 20 with fail
          go_region_held3 (fun w' => w'.cell? ⟨gd, 1, none⟩ = some (.int .i64 at_) ∧ w'.cell? ⟨gd, 3, none⟩ = some (.slice A1 L1 C1)) (first | (with_reducible exact ⟨g1, g3⟩) | (with_reducible exact ⟨r1, r3⟩) | (with_reducible exact ⟨s1, s3⟩) | go_keep)
            (first
              | (go_at_call 9; (with_reducible refine HW1.out.mono ?_); rintro e W2 ⟨rfl, hP2, hK2⟩; have HP2 := Lib.hid hP2; have HG2 := Lib.hid (HGd.out.keptF hK2 hoff.symm); have Hb2 := Lib.hid (below_then Hbld.out hK2 Hbld.out.size hlF); have HBd2 := Lib.hid (Kf.Blk.keptF HBdd.out hK2 hgd.1); have r1 := HBd2.out.cell (i := 1) rfl; have r3 := HBd2.out.cell (i := 3) rfl; have HW2 := Lib.hid (rwrite_any W2 G gw now safe at_ A1 L1 C1 b1 HG2.out (Hby.out _ Hb2.out) HLb.out (by unfold maxLen; omega) (by omega) (by omega)); clear hP2)
              | (go_at_call 10; (with_reducible refine HW2.out.mono ?_); rintro e W3 ⟨rfl, hR3, hK3⟩; have HR3 := Lib.hid hR3; have Hb3' := Lib.hid (below_then Hb2.out hK3 Hb2.out.size (fun k (e : k = gw) => e ▸ hlG gw hgG)); have HBd3 := Lib.hid (blk_two HBdd.out hK2 hK3 hgd.1 hne); have s1 := HBd3.out.cell (i := 1) rfl; have s3 := HBd3.out.cell (i := 3) rfl; clear hR3))
          all_goals
            go_wp2_with fail
            go_meet
            case rel => exact ⟨gf, gw, _, _, rfl, rfl, Lib.hid (both_after HP2.out HR3.out hK3 hgG hoff fF1 fG1 hK2.size hlF hlG Hbld.out.size), Hb3', HBd3⟩
        by_cases k0 : kd = 1
        · subst k0
          have HFd := Lib.hid (HF.out.below hbd)
          have HGd := Lib.hid (HG.out.below hbd)
          have Hbld := Lib.hid (Hbl.out.trans (hbd.mono Hbl.out.size))
          have HBdd := Lib.hid (HBd.out.below hbd hgdl)
          have g1 := HBdd.out.cell (i := 1) rfl
          have g3 := HBdd.out.cell (i := 3) rfl
          have HW1 := Lib.hid (write_any Wd.drew F gf now safe at_ A1 L1 C1 b1 HFd.out (Hby.out _ Hbld.out) HLb.out (by unfold maxLen; omega) hoffF (by omega) (by omega))
          have fF1 := HFd.out.foot
          have fG1 := HGd.out.foot
          go_upto_region 20 with fail
          go_region_held3 (fun w' => w'.cell? ⟨gd, 1, none⟩ = some (.int .i64 at_) ∧ w'.cell? ⟨gd, 3, none⟩ = some (.slice A1 L1 C1)) (first | (with_reducible exact ⟨g1, g3⟩) | (with_reducible exact ⟨r1, r3⟩) | (with_reducible exact ⟨s1, s3⟩) | go_keep)
            (first
              | (go_at_call 9; (with_reducible refine HW1.out.mono ?_); rintro e W2 ⟨rfl, hP2, hK2⟩; have HP2 := Lib.hid hP2; have HG2 := Lib.hid (HGd.out.keptF hK2 hoff.symm); have Hb2 := Lib.hid (below_then Hbld.out hK2 Hbld.out.size hlF); have HBd2 := Lib.hid (Kf.Blk.keptF HBdd.out hK2 hgd.1); have r1 := HBd2.out.cell (i := 1) rfl; have r3 := HBd2.out.cell (i := 3) rfl; have HW2 := Lib.hid (rwrite_any W2 G gw now safe at_ A1 L1 C1 b1 HG2.out (Hby.out _ Hb2.out) HLb.out (by unfold maxLen; omega) (by omega) (by omega)); clear hP2)
              | (go_at_call 10; (with_reducible refine HW2.out.mono ?_); rintro e W3 ⟨rfl, hR3, hK3⟩; have HR3 := Lib.hid hR3; have Hb3' := Lib.hid (below_then Hb2.out hK3 Hb2.out.size (fun k (e : k = gw) => e ▸ hlG gw hgG)); have HBd3 := Lib.hid (blk_two HBdd.out hK2 hK3 hgd.1 hne); have s1 := HBd3.out.cell (i := 1) rfl; have s3 := HBd3.out.cell (i := 3) rfl; clear hR3))
          all_goals
            go_wp2_with fail
            go_meet
            case rel => exact ⟨gf, gw, _, _, rfl, rfl, Lib.hid (both_after HP2.out HR3.out hK3 hgG hoff fF1 fG1 hK2.size hlF hlG Hbld.out.size), Hb3', HBd3⟩
        by_cases k0 : kd = 2
        · subst k0
          have HFd := Lib.hid (HF.out.below hbd)
          have HGd := Lib.hid (HG.out.below hbd)
          have Hbld := Lib.hid (Hbl.out.trans (hbd.mono Hbl.out.size))
          have HBdd := Lib.hid (HBd.out.below hbd hgdl)
          have g1 := HBdd.out.cell (i := 1) rfl
          have g3 := HBdd.out.cell (i := 3) rfl
          have HW1 := Lib.hid (write_any Wd.drew F gf now safe at_ A1 L1 C1 b1 HFd.out (Hby.out _ Hbld.out) HLb.out (by unfold maxLen; omega) hoffF (by omega) (by omega))
          have fF1 := HFd.out.foot
          have fG1 := HGd.out.foot
          go_upto_region 20 with fail
          go_region_held3 (fun w' => w'.cell? ⟨gd, 1, none⟩ = some (.int .i64 at_) ∧ w'.cell? ⟨gd, 3, none⟩ = some (.slice A1 L1 C1)) (first | (with_reducible exact ⟨g1, g3⟩) | (with_reducible exact ⟨r1, r3⟩) | (with_reducible exact ⟨s1, s3⟩) | go_keep)
            (first
              | (go_at_call 9; (with_reducible refine HW1.out.mono ?_); rintro e W2 ⟨rfl, hP2, hK2⟩; have HP2 := Lib.hid hP2; have HG2 := Lib.hid (HGd.out.keptF hK2 hoff.symm); have Hb2 := Lib.hid (below_then Hbld.out hK2 Hbld.out.size hlF); have HBd2 := Lib.hid (Kf.Blk.keptF HBdd.out hK2 hgd.1); have r1 := HBd2.out.cell (i := 1) rfl; have r3 := HBd2.out.cell (i := 3) rfl; have HW2 := Lib.hid (rwrite_any W2 G gw now safe at_ A1 L1 C1 b1 HG2.out (Hby.out _ Hb2.out) HLb.out (by unfold maxLen; omega) (by omega) (by omega)); clear hP2)
              | (go_at_call 10; (with_reducible refine HW2.out.mono ?_); rintro e W3 ⟨rfl, hR3, hK3⟩; have HR3 := Lib.hid hR3; have Hb3' := Lib.hid (below_then Hb2.out hK3 Hb2.out.size (fun k (e : k = gw) => e ▸ hlG gw hgG)); have HBd3 := Lib.hid (blk_two HBdd.out hK2 hK3 hgd.1 hne); have s1 := HBd3.out.cell (i := 1) rfl; have s3 := HBd3.out.cell (i := 3) rfl; clear hR3))
          all_goals
            go_wp2_with fail
            go_meet
            case rel => exact ⟨gf, gw, _, _, rfl, rfl, Lib.hid (both_after HP2.out HR3.out hK3 hgG hoff fF1 fG1 hK2.size hlF hlG Hbld.out.size), Hb3', HBd3⟩
        by_cases k3 : kd = 3
        · subst k3
          go_wp2_with (first
            | (go_at_call 11; (with_reducible refine (sync_any Wd F gf now safe HF.out.wide).mono ?_); rintro e W2 ⟨rfl, hP2, hK2⟩; have HP2 := Lib.hid hP2; have HG2 := Lib.hid (HG.out.keptF hK2 hoff.symm); have Hb2 := Lib.hid (below_then Hbl.out hK2 Hbl.out.size hlF); clear hP2)
            | (go_at_call 12; (with_reducible refine (rsync_any W2 G gw now safe HG2.out).mono ?_); rintro e W3 ⟨rfl, hR3, hK3⟩; have HR3 := Lib.hid hR3; have Hb3' := Lib.hid (below_then Hb2.out hK3 Hb2.out.size (fun k (e : k = gw) => e ▸ hlG gw hgG)); clear hR3))
          go_meet
          case rel => exact ⟨gf, gw, now, now, rfl, rfl, Lib.hid (both_after HP2.out (more_ext W2 HR3.out (fG.kept hK2.size) hK3.size) hK3 hgG hoff fF fG hK2.size hlF hlG Hbl.out.size), Hb3', Lib.hid (blk_two HBd.out hK2 hK3 hgd.1 hne)⟩
        by_cases k4 : kd = 4
        · subst k4
          go_wp2_with (first
            | (go_at_call 13; (with_reducible refine (crash_any Wd F gf now safe A2 L2 C2 K HF.out (Hbo.out _ Hbl.out) (by unfold maxLen; omega)).mono ?_); rintro e W2 ⟨rfl, hP2, hK2⟩; have HP2 := Lib.hid hP2; have HG2 := Lib.hid (HG.out.keptF hK2 hoff.symm); have Hb2 := Lib.hid (below_then Hbl.out hK2 Hbl.out.size hlF); have HBd2 := Lib.hid (Kf.Blk.keptF HBd.out hK2 hgd.1); have e4 := HBd2.out.cell (i := 4) rfl; clear hP2)
            | (go_at_call 14; (with_reducible refine (rcrash_any W2 G gw now safe A2 L2 C2 K HG2.out HF.out.len.2.2.1 HF.out.len.2.2.2 (Hbo.out _ Hb2.out) (by unfold maxLen; omega)).mono ?_); rintro e W3 ⟨rfl, hR3, hK3⟩; have HR3 := Lib.hid hR3; have Hb3' := Lib.hid (below_then Hb2.out hK3 Hb2.out.size (fun k (e : k = gw) => e ▸ hlG gw hgG)); clear hR3))
          go_meet
          case rel => exact ⟨gf, gw, _, _, rfl, rfl, Lib.hid (both_after HP2.out HR3.out hK3 hgG hoff fF fG hK2.size hlF hlG Hbl.out.size), Hb3', Lib.hid (blk_two HBd.out hK2 hK3 hgd.1 hne)⟩
        by_cases k5 : kd = 5
        · subst k5
          go_wp2_with (first
            | (go_at_call 15; (with_reducible refine (copy_any Wd F gf now safe HF.out).mono ?_); rintro e W2 ⟨gf2, rfl, hP2, hb2'⟩; have HP2 := Lib.hid hP2; have HG2 := Lib.hid (HG.out.below hb2'); have Hb2 := Lib.hid (Hbl.out.trans (hb2'.mono Hbl.out.size)); clear hP2)
            | (go_at_call 16; (with_reducible refine (rcopy_any W2 G gw now safe HG2.out).mono ?_); rintro e W3 ⟨gw2, rfl, hR3, hb3'⟩; have HR3 := Lib.hid hR3; have Hb3' := Lib.hid (Hb2.out.trans (hb3'.mono Hb2.out.size)); clear hR3))
          go_meet
          case rel =>
            have hz2 := hb2'.size
            have hz3 := hb3'.size
            refine ⟨gf2, gw2, now, safe, rfl, rfl, Lib.hid ⟨_, _, HP2.out.below hb3', HR3.out, fun k h h' => ?_, Ext.low Hbl.out.size (fun _ h => h.elim), Ext.low Hb2.out.size hlG⟩, Hb3', Lib.hid ((HBd.out.below hb2' hgdl).below hb3' (by omega))⟩
            simp only [Ext, None', false_or] at h
            rcases h' with h' | h'
            · have := fG k h'
              omega
            · omega
        · have z0 : (kd == (0 : Int)) = false := by simp; omega
          have z1 : (kd == (1 : Int)) = false := by simp; omega
          have z2 : (kd == (2 : Int)) = false := by simp; omega
          have z3 : (kd == (3 : Int)) = false := by simp; omega
          have z4 : (kd == (4 : Int)) = false := by simp; omega
          have z5 : (kd == (5 : Int)) = false := by simp; omega
          go_wp2_with fail
          go_meet
          case rel => exact ⟨gf, gw, now, safe, rfl, rfl, Lib.hid ⟨F, G, HF.out, HG.out, hoff, hlF, hlG⟩, Hbl, HBd⟩
      case rest =>
        obtain ⟨gf2, gw2, now2, safe2, rfl, rfl, hBo, hBw, hBk⟩ := hcut
        clear HF HG Hby Hbo HLb Hlow hgd hgdl hoff hlF hlG hfF hfG c0 c1 c2 c3 c4 HBd Hbl hB hBl HB0 Hb3
        obtain ⟨F2, G2, hP, hR, hoff2, hlF2, hlG2⟩ := hBo.out
        have hlens := hP.len
        have hlenr := hR.len
        have hg2 := hBk.out.lt
        have c1 := hBk.out.cell (i := 1) rfl
        have c2 := hBk.out.cell (i := 2) rfl
        have hBs := hBw.out.size
        have HRd := Lib.hid (read_any wc F2 gf2 now2 safe2 at_ dn hP (by omega) (by omega) (by omega) (by omega))
        have HRr := Lib.hid fun (W : World) (hW : Below wc.heap.size wc W) => rread_any W G2 gw2 now2 safe2 at_ dn (hR.below hW) (by omega) (by omega) (by omega) (by omega)
        have HPb := Lib.hid fun (W : World) (hW : Below wc.heap.size wc W) => hP.below hW
        have HRb := Lib.hid fun (W : World) (hW : Below wc.heap.size wc W) => hR.below hW
        have HBkb := Lib.hid fun (W : World) (hW : Below wc.heap.size wc W) => hBk.out.below hW hg2
        obtain ⟨An, ln, cn, As, ls, cs, ⟨v, hBr⟩, hbn, hLn, _, _, hbs, hLs, _, _, _, _, _, _, _, _⟩ := hR
        have HBr := Lib.hid fun (W : World) (hW : Below wc.heap.size wc W) => hBr.below hW hBr.lt
        have Hbn := Lib.hid fun (W : World) (hW : Below wc.heap.size wc W) => hbn.below hW (Nat.le_refl _)
        have Hbs := Lib.hid fun (W : World) (hW : Below wc.heap.size wc W) => hbs.below hW (Nat.le_refl _)
        have HLn := Lib.hid hLn
        have HLs := Lib.hid hLs
        have hlnb : ln ≤ 32768 := by omega
        clear hP hBr hbn hbs hLn hLs
        obtain ⟨R, hR⟩ : ∃ R, rdL now2 at_ dn = R := ⟨_, rfl⟩
        obtain ⟨E, hE⟩ : ∃ E, rdE now2.length at_ dn = E := ⟨_, rfl⟩
        rw [hR, hE] at HRd HRr
        obtain ⟨lr, hlr⟩ : ∃ lr, R.length = lr := ⟨_, rfl⟩
        have HLr := Lib.hid hlr
        unfold Got at HRd HRr
        rw [hlr] at HRd HRr
        clear hR hE hlr
        go_wp2_with (first
          | (go_at_call 17; (with_reducible refine HRd.out.mono ?_); rintro e W1 ⟨A8, m8, rfl, hx, hbx⟩; have HX := Lib.hid hx; have Hb1 := Lib.hid hbx; have e1 := (HBkb.out _ hbx).cell (i := 1) rfl; have e2 := (HBkb.out _ hbx).cell (i := 2) rfl; clear hx hbx)
          | (go_at_call 18; (with_reducible refine (HRr.out W1 Hb1.out).mono ?_); rintro e W2 ⟨A9, m9, rfl, hy, hby⟩; have HY := Lib.hid hy; have Hb2 := Lib.hid (Hb1.out.trans (hby.mono Hb1.out.size)); have HX2 := Lib.hid (HX.out.below hby (Nat.le_refl _)); clear hy hby))
        have Hb2d := Lib.hid (show Below wc.heap.size wc W2.drew from below_drewN Hb2.out 1)
        have t0 := (HBr.out _ Hb2d.out).cell (i := 0) rfl
        have t1 := (HBr.out _ Hb2d.out).cell (i := 1) rfl
        have Q1 := Lib.hid (same_self A8 A9 R lr m8 lr m9 W2.drew HX2.out.drew HY.out.drew HLr.out HLr.out)
        have Q2 := Lib.hid (len_any W2.drew F2 gf2 now2 safe2 (HPb.out _ Hb2d.out))
        have Q3 := Lib.hid (all_any W2.drew F2 gf2 now2 safe2 (HPb.out _ Hb2d.out))
        rw [HLn.out] at Q2 Q3
        unfold Fresh at Q3
        have Q5 := Lib.hid fun (W : World) (hW : Below wc.heap.size wc W) => safe_any W F2 gf2 now2 safe2 (HPb.out _ hW)
        rw [HLs.out] at Q5
        unfold Fresh at Q5
        have Q7 := Lib.hid fun (W : World) (hW : Below wc.heap.size wc W) => dirty_any W F2 gf2 now2 safe2 (HPb.out _ hW)
        have Q8 := Lib.hid fun (W : World) (hW : Below wc.heap.size wc W) => rdirty_any W G2 gw2 now2 safe2 (HRb.out _ hW) hlens.2.2.1 hlens.2.2.2
        have HDm := Lib.hid (show ∀ x ∈ dirty now2 safe2, x ≤ 1000000 from fun x hx => by
          have h1 := (dirtyTo_lt hx).1
          have h2 := secs_lt.1 h1
          omega)
        have hDn : (dirty now2 safe2).length ≤ 64 := dirty_few (by omega)
        unfold Places at Q7 Q8
        generalize dirty now2 safe2 = DD at *
        obtain ⟨ld, hld⟩ : ∃ ld, DD.length = ld := ⟨_, rfl⟩
        rw [hld] at Q7 Q8 hDn
        clear hld
        go_region_held3 (fun w' => w'.cell? ⟨gw2, 0, none⟩ = some (.slice An ln cn) ∧ w'.cell? ⟨gw2, 1, none⟩ = some (.slice As ls cs)) (first | (with_reducible exact ⟨t0, t1⟩) | (with_reducible exact ⟨u0, u1⟩) | (with_reducible exact ⟨x0, x1⟩) | (with_reducible exact ⟨y0, y1⟩) | (with_reducible exact ⟨z0, z1⟩) | (with_reducible exact ⟨fun _ => z0, fun _ => z1⟩) | go_keep)
          (first
            | (go_at_call 19; (with_reducible refine Q1.out.mono ?_); rintro e w' ⟨rfl, rfl⟩)
            | (go_at_call 20; (with_reducible refine Q2.out.mono ?_); rintro e w' ⟨rfl, rfl⟩)
            | (go_at_call 21; (with_reducible refine Q3.out.mono ?_); rintro e W3 ⟨A10, c10, rfl, ho3, hb3'⟩; have Hb3' := Lib.hid (Hb2d.out.trans (hb3'.mono Hb2d.out.size)); have u0 := (HBr.out _ Hb3'.out).cell (i := 0) rfl; have u1 := (HBr.out _ Hb3'.out).cell (i := 1) rfl; have Q4 := Lib.hid (same_self A10 An now2 ln c10 ln cn W3 ho3.bytes (Hbn.out _ Hb3'.out) HLn.out HLn.out); clear ho3 hb3')
            | (go_at_call 19; (with_reducible refine Q4.out.mono ?_); rintro e w' ⟨rfl, rfl⟩)
            | (go_at_call 22; (with_reducible refine (Q5.out W3 Hb3'.out).mono ?_); rintro e W4 ⟨A11, c11, rfl, ho4, hb4'⟩; have Hb4' := Lib.hid (Hb3'.out.trans (hb4'.mono Hb3'.out.size)); have x0 := (HBr.out _ Hb4'.out).cell (i := 0) rfl; have x1 := (HBr.out _ Hb4'.out).cell (i := 1) rfl; have Q6 := Lib.hid (same_self A11 As safe2 ls c11 ls cs W4 ho4.bytes (Hbs.out _ Hb4'.out) HLs.out HLs.out); clear ho4 hb4')
            | (go_at_call 19; (with_reducible refine Q6.out.mono ?_); rintro e w' ⟨rfl, rfl⟩)
            | (go_at_call 24; (with_reducible refine (Q7.out W4 Hb4'.out).mono ?_); rintro e W5 ⟨A12, c12, rfl, ho5, hb5'⟩; have HO5 := Lib.hid ho5; have hz4 := hb5'.size; have Hb5' := Lib.hid (Hb4'.out.trans (hb5'.mono Hb4'.out.size)); have y0 := (HBr.out _ Hb5'.out).cell (i := 0) rfl; have y1 := (HBr.out _ Hb5'.out).cell (i := 1) rfl; clear ho5 hb5')
            | (go_at_call 25; (with_reducible refine (Q8.out W5 Hb5'.out).mono ?_); rintro e W6 ⟨A13, c13, rfl, ho6, hb6'⟩; have Q9 := Lib.hid (same_ints A12 A13 (fun i => ((DD.getD i 0 : Nat) : Int)) ld c12 c13 W6 (OwnI.ints (w := W6) ⟨HO5.out.1, HO5.out.2.kept hb6' (Nat.le_refl _)⟩ HDm.out) (OwnI.ints ho6 HDm.out) (by omega)); have Hb6' := Lib.hid (Hb5'.out.trans (hb6'.mono Hb5'.out.size)); have z0 := (HBr.out _ Hb6'.out).cell (i := 0) rfl; have z1 := (HBr.out _ Hb6'.out).cell (i := 1) rfl; clear ho6 hb6')
            | (go_at_call 23; (with_reducible refine Q9.out.mono ?_); rintro e w' ⟨rfl, q, rfl⟩))
        all_goals
          go_wp2
          go_round
          case rel => exact ⟨k + 1, gf2, gw2, now2, safe2, by omega, by go_num, rfl, rfl, Lib.hid (hBo.out.below (below_drewN Hb6'.out q)), Lib.hid (below_drewN (hBw.out.trans (Hb6'.out.mono hBs)) q)⟩
          case measure => simp [intOf]; omega
    · obtain rfl : k = len := by omega
      go_wp2
      go_ret
      exact ⟨rfl, hBl.out⟩

theorem walk (a0 : Option Addr) (len0 cap0 : Nat) (D0 : Nat → DoV) (w : World) (w0 : InDos w a0 len0 D0 ∧ len0 ≤ cap0 ∧ cap0 ≤ maxLen) :
    Calls Try.prog 3 #[.slice a0 len0 cap0] w fun e w' => e = .returned (.bool true) ∧ Below w.heap.size w w' := by
  obtain ⟨h1, h2, h3⟩ := w0
  unfold maxLen at h3
  by_cases h : 40 < len0
  · exact walk_long a0 len0 cap0 w h (by omega)
  · exact walk_in a0 len0 cap0 D0 w h1 (by omega)
end Go.Proofs.Ytknkdppaalmknaa.SectPlaysW
