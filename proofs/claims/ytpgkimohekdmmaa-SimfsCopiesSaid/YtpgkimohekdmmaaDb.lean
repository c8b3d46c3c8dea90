/-
  The program's directory: the fuse; one name set.
-/
import Derived.Test.YtpgkimohekdmmaaDa
import Derived.Deep.RegionLaw
namespace Go.Proofs.Ytpgkimohekdmmaa.Db
open Go.ChangeShapes Go.WideShapes Go.ChangeAt Go.RowKit
open Bytes8 Blk8 Own8 OwnA OwnM OwnE Fa Fo Ta Ua Kf Dm Dp Da Sfb Go.Maps
set_option linter.unusedVariables false
set_option linter.unusedSimpArgs false
set_option maxRecDepth 100000

theorem burn_any (w : World) (own : Nat → Nat) (g : Nat) (d : Dir) (h : DirP w own g d) :
    Calls Try.prog 30 #[.pointer (some ⟨g, 0, none⟩)] w fun e w' => e = .returned (.int .i64 (if d.burns = true then 18 else 0)) ∧ DirP w' own g d.burnt ∧ KeptF (Mine own) w w' ∧ w'.heap.size = w.heap.size := by
  obtain ⟨fz, Mf, Mn, Df, Dn, A, n, c, us, S, gs, hc, hg, hf, hr⟩ := h
  have HG := Lib.hid (good_burnt hg)
  have HC := Lib.hid hc
  have HR := Lib.hid hr
  have c5 := hc.blk.cell (i := 5) rfl
  have f5 := hc.blk.frozen 5
  have f6 := hc.blk.frozen 6
  have c6 := hc.blk.cell (i := 6) rfl
  have hfz := hc.fz64
  unfold Dir.burns
  have HE := Lib.hid (show d.burnt = if d.fuse < 0 then d else if d.fuse = 0 then { d with off := true } else { d with fuse := d.fuse - 1 } from rfl)
  rcases Int.lt_trichotomy fz 0 with h0 | h0 | h0
  · have e : d.fuse = -1 := by omega
    have hne : (fz == 0) = false := beq_eq_false_iff_ne.2 (by omega)
    have hng : ¬ 0 < fz := by omega
    rw [e]
    have HF := Lib.hid hf
    clear hc hg hr f5 f6 hf
    go_enter Try.func30, Try.ntmps30
    go_wp2
    go_ret
    refine ⟨rfl, ?_, KeptF.refl _ _, rfl⟩
    have hb := HE.out
    have hg := HG.out
    rw [if_pos (by omega)] at hb
    rw [hb] at hg ⊢
    exact ⟨fz, Mf, Mn, Df, Dn, A, n, c, us, S, gs, HC.out, hg, HF.out, HR.out⟩
  · have e : d.fuse = 0 := by omega
    rw [e]
    subst h0
    have HF := Lib.hid hf
    clear hc hg hr f5 hf
    go_enter Try.func30, Try.ntmps30
    go_wp2
    go_ret
    refine ⟨rfl, ?_, HC.out.set_ _ _, by simp [World.setCell]⟩
    have hb := HE.out
    have hg := HG.out
    rw [if_neg (by omega), if_pos e] at hb
    rw [hb] at hg ⊢
    exact ⟨0, Mf, Mn, Df, Dn, A, n, c, us, S, gs, HC.out.offBlk 6 (.bool true) rfl HC.out.pend HC.out.each HC.out.tA HC.out.fz64 ⟨Nat.le_refl _, HC.out.mmax⟩ HC.out.pmax rfl, hg, HF.out, HR.out⟩
  · have e : d.fuse = fz := by omega
    have hne : (fz == 0) = false := beq_eq_false_iff_ne.2 (by omega)
    have hne2 : ¬ d.fuse = 0 := by omega
    rw [decide_eq_false hne2]
    have HF := Lib.hid hf
    have hw : IntKind.i64.wrap (fz - 1) = fz - 1 := by rw [IntKind.wrap_i64]; omega
    clear hc hg hr f6 hf
    go_enter Try.func30, Try.ntmps30
    go_wp2
    go_ret
    refine ⟨rfl, ?_, HC.out.set_ _ _, by simp [World.setCell]⟩
    have hb := HE.out
    have hg := HG.out
    rw [if_neg (by omega), if_neg hne2] at hb
    rw [hb] at hg ⊢
    exact ⟨fz - 1, Mf, Mn, Df, Dn, A, n, c, us, S, gs, HC.out.offBlk 5 (.int .i64 (fz - 1)) rfl HC.out.pend HC.out.each HC.out.tA ⟨by omega, by omega⟩ ⟨Nat.le_refl _, HC.out.mmax⟩ HC.out.pmax rfl, hg, by show d.fuse - 1 = _; omega, HR.out⟩

theorem set_any (w : World) (own : Nat → Nat) (g room made : Nat) (row : RowD) (fl : Nat → Fl) (fz : Int) (off : Bool) (Mf Mn : Nat) (Df Dn : DU) (A : Option Addr) (n c : Nat) (us : List Und) (S : Nat → Bool) (gs : Nat → Nat)
    (h : Core w own g room made row fl fz off Mf Mn Df Dn A n c us S gs) (hr : Rises row) (hrl : row.length ≤ 100000000) (b : Bd) (hb : nmOk b.1 = true) (hb2 : b.2 ≤ made) :
    Calls Try.prog 40 #[.pointer (some ⟨g, 0, none⟩), .agg #[.string (T b.1), .int .i64 (b.2 : Int)]] w fun e w' => e = .returned (.tuple #[]) ∧ (∃ Dn', Core w' own g room made (setRow row b) fl fz off Mf Mn Df Dn' A n c us S gs) ∧ KeptF (One Mn) w w' := by
  obtain ⟨s, k⟩ := b
  obtain ⟨hA, hl1, hl2⟩ := nmOk_all hb
  have h1 := h.alloc (.cells #[.string (T s), .int .i64 (k : Int)] 62)
  have hB := Blk.new w [.string (T s), .int .i64 (k : Int)] 62
  have q0 := hB.cell (i := 0) rfl
  have q1 := hB.cell (i := 1) rfl
  have c3 := h1.blk.cell (i := 3) rfl
  have hmm := h1.mmax
  have hsz : Maps.size Dn ≤ 100000000 := by rw [h1.vn.size]; exact hrl
  have hmx : s.length ≤ maxLen := by unfold maxLen; simp only at hl2; omega
  have hk0 : KeptF (One Mn) w (w.alloc (.cells #[.string (T s), .int .i64 (k : Int)] 62)).drew := ((KeptF.refl _ _).alloc _).drew
  have h2 := h1.drew
  unfold setRow
  simp only
  by_cases h0 : k = 0
  · subst h0
    rw [if_pos rfl]
    have e0 : ((0 : Nat) : Int) = 0 := rfl
    rw [e0] at h1 h2 q0 q1 c3 hk0 ⊢
    obtain ⟨w2, D', hrun, hm, hv, ht⟩ := del_name h2.mn h2.vn hr hA hmx 0
    have H1 := Lib.hid h2
    have HK := Lib.hid hk0
    have HM := Lib.hid hm
    have HV := Lib.hid hv
    have HT := Lib.hid ht
    clear h h1 h2 hB hm hv ht hk0
    generalize T s = X at *
    go_enter Try.func40, Try.ntmps40
    go_wp2
    go_region
    go_wp2
    refine bodyPost_ret (results_none rfl _ _ _) rfl ?_
    exact ⟨rfl, ⟨D', H1.out.names HT.out HM.out HV.out⟩, HK.out.trans (turned_keptF HT.out) fun _ _ h => h⟩
  · rw [if_neg h0]
    have hne : ((k : Int) == 0) = false := beq_eq_false_iff_ne.2 (by omega)
    obtain ⟨w2, D', hrun, hm, hv, ht⟩ := put_name h2.mn (by unfold maxLen; omega) h2.vn hr hA hmx (i := k) (by simp only at hb2; omega)
    have H1 := Lib.hid h2
    have HK := Lib.hid hk0
    have HM := Lib.hid hm
    have HV := Lib.hid hv
    have HT := Lib.hid ht
    clear h h1 h2 hB hm hv ht hk0
    generalize T s = X at *
    go_enter Try.func40, Try.ntmps40
    go_wp2
    go_region
    go_wp2
    go_end0
    exact ⟨rfl, ⟨D', H1.out.names HT.out HM.out HV.out⟩, HK.out.trans (turned_keptF HT.out) fun _ _ h => h⟩
end Go.Proofs.Ytpgkimohekdmmaa.Db
