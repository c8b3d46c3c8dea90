/-
  The program's directory: SyncDir, Drop, Sync, All, Fuse, Off.
-/
import Derived.Test.YtpgkimohekdmmaaDl
import Derived.Test.YtpgkimohekdmmaaDf
namespace Go.Proofs.Ytpgkimohekdmmaa.Dg
open Go.ChangeShapes Go.WideShapes Go.ChangeAt Go.RowKit
open Bytes8 Blk8 Own8 OwnA OwnM OwnE Fa Fo Ta Ua Kf Dm Dp Da Db Dc Dd Ds Dk Dl Df Sfa Sfb Pv8 Go.Maps
set_option linter.unusedVariables false
set_option linter.unusedSimpArgs false
set_option maxRecDepth 100000

theorem binds_mem {r : RowD} {bs : List Bd} {p : List Int × Nat} (h : p ∈ (binds r bs).1) : p ∈ r ∨ ∃ b ∈ bs, b.2 ≠ 0 ∧ p.2 = b.2 := by
  unfold binds at h
  suffices ∀ q : RowD × List Bd, p ∈ (bs.foldl bstep q).1 → p ∈ q.1 ∨ ∃ b ∈ bs, b.2 ≠ 0 ∧ p.2 = b.2 from this _ h
  clear h
  induction bs with
  | nil => intro q h; exact .inl h
  | cons b bs ih =>
    intro q h
    rcases ih _ h with h1 | ⟨b2, h2, h3⟩
    · have h1 : p ∈ setRow q.1 b := h1
      unfold setRow at h1
      split at h1
      · exact .inl (List.mem_filter.1 h1).1
      · rename_i h0
        rcases put_mem h1 with h4 | h4
        · exact .inr ⟨b, List.mem_cons_self .., h0, by rw [h4]⟩
        · exact .inl h4
    · exact .inr ⟨b2, List.mem_cons_of_mem _ h2, h3⟩

theorem bindDir_any (w : World) (own : Nat → Nat) (g : Nat) (d : Dir) (h : DirP w own g d) (hp : d.past.length < 1000000) (a : Option Addr) (m ca : Nat) (bs : List Bd) (hm : bs.length = m) (hm2 : m ≤ 2) (hB : InB w own a bs)
    (hok : ∀ b ∈ bs, nmOk b.1 = true ∧ (b.2 = 0 ∨ ∃ p ∈ d.row, p.2 = b.2)) (hu : undo (binds d.row bs).1 (binds d.row bs).2 = d.row) (hg : Ua.Good (d.step (binds d.row bs).1)) :
    Calls Try.prog 32 #[.pointer (some ⟨g, 0, none⟩), .slice a m ca] w fun e w' => e = .returned (.tuple #[]) ∧ Did w own g (d.step (binds d.row bs).1) w' := by
  obtain ⟨fz, Mf, Mn, Df, Dn, A, n, c, us, S, gs, hc, hgd, hf, hl, hch, hcov⟩ := h
  have hn : n < 2000000 := by have := hc.pend.len; rw [List.length_map] at this; omega
  refine (bind_any w own g _ _ _ _ _ _ _ _ _ _ _ _ _ _ _ _ hc (BOk.of_good hgd.row) hn a m ca bs hm hm2 hB (fun b hb => ⟨(hok b hb).1, ?_⟩)).mono ?_
  · rcases (hok b hb).2 with h0 | ⟨p, hp, e⟩
    · omega
    · rw [← e]; exact (hgd.row.ids p hp).2
  · rintro e w' ⟨rfl, own', Dn', A', n', c', u, hc', hu', hk, ho⟩
    refine ⟨rfl, own', ⟨fz, Mf, Mn, Df, Dn', A', n', c', us ++ [u], S, gs, hc', hg, hf, ?_, chain_snoc hl hch (by rw [hu']; exact hu), ?_⟩, hk, ho⟩
    · show (us ++ [u]).length = (d.past ++ [d.row]).length
      simp [hl]
    · intro r hr p hp
      have hr : r ∈ (d.past ++ [d.row]) ++ [(binds d.row bs).1] := hr
      rcases List.mem_append.1 hr with h1 | h1
      · exact hcov r h1 p hp
      · simp only [List.mem_cons, List.not_mem_nil, or_false] at h1
        subst h1
        rcases binds_mem hp with h2 | ⟨b, h2, h3, h4⟩
        · exact hcov _ (by simp) p h2
        · rcases (hok b h2).2 with h5 | ⟨p2, h6, h7⟩
          · exact absurd h5 h3
          · rw [h4, ← h7]; exact hcov _ (by simp) p2 h6

theorem settleDir_any (w : World) (own : Nat → Nat) (g : Nat) (d : Dir) (h : DirP w own g d) :
    Calls Try.prog 38 #[.pointer (some ⟨g, 0, none⟩)] w fun e w' => e = .returned (.tuple #[]) ∧ Did w own g { d with past := [] } w' := by
  obtain ⟨fz, Mf, Mn, Df, Dn, A, n, c, us, S, gs, hc, hgd, hf, hl, hch, hcov⟩ := h
  refine (settle_any w own g _ _ _ _ _ _ _ _ _ _ _ _ _ _ _ _ hc hgd.row.rises (fun p hp => (nmOk_all (hgd.row.names p hp)).1) hgd.row.few (fun p hp => hcov _ (by simp) p hp)).mono ?_
  rintro e w' ⟨rfl, own', Mf', Df', hc', hk, ho⟩
  refine ⟨rfl, own', ⟨fz, Mf', Mn, Df', Dn, none, 0, 0, [], _, gs, hc', ⟨hgd.row, (fun r h => by cases h), hgd.fl⟩, hf, rfl, (fun j hj => absurd hj (by simp)), ?_⟩, hk, ho⟩
  intro r hr p hp
  have hr : r ∈ ([] : List RowD) ++ [d.row] := hr
  simp only [List.nil_append, List.mem_cons, List.not_mem_nil, or_false] at hr
  subst hr
  simp only [List.contains_eq_mem, decide_eq_true_eq]
  exact List.mem_map.2 ⟨p, hp, rfl⟩

theorem syncDir_any (w : World) (own : Nat → Nat) (g : Nat) (d : Dir) (h : DirP w own g d) :
    Calls Try.prog 17 #[.pointer (some ⟨g, 0, none⟩)] w fun e w' => e = .returned (.int .i64 d.syncDir.1) ∧ Did w own g d.syncDir.2 w' := by
  have HA := Lib.hid (amiss_any w own g d h none 0 0 [] rfl (fun i hi => absurd hi (by simp)) (fun l hl => by cases hl) (by omega))
  rw [askL_nil] at HA
  have HB := Lib.hid (burn_any w own g d h)
  have H := Lib.hid h
  unfold Dir.syncDir
  cases hoff : d.off with
  | true =>
    rw [hoff, if_pos rfl] at HA
    rw [if_pos rfl]
    clear h HB
    go_enter Try.func17, Try.ntmps17
    go_wp2_with (go_at_call 29; (with_reducible refine HA.out.mono ?_); rintro e w' ⟨rfl, rfl⟩)
    go_ret
    exact ⟨rfl, Did.refl H.out (Below.refl _ _)⟩
  | false =>
    rw [hoff, if_neg (by simp)] at HA
    rw [if_neg (by simp)]
    unfold Dir.fine
    cases hb : d.burns with
    | true =>
      rw [hb, if_pos rfl] at HB
      rw [if_pos rfl]
      clear h
      go_enter Try.func17, Try.ntmps17
      go_wp2_with (first
        | (go_at_call 29; (with_reducible refine HA.out.mono ?_); rintro e w' ⟨rfl, rfl⟩)
        | (go_at_call 30; (with_reducible refine HB.out.mono ?_); rintro e w2 ⟨rfl, hD2, hk2, hs2⟩))
      go_ret
      exact ⟨rfl, own, hD2, hk2, fun _ _ => rfl⟩
    | false =>
      rw [hb, if_neg (by simp)] at HB
      rw [if_neg (by simp)]
      clear h
      go_enter Try.func17, Try.ntmps17
      go_wp2_with (first
        | (go_at_call 29; (with_reducible refine HA.out.mono ?_); rintro e w' ⟨rfl, rfl⟩)
        | (go_at_call 30; (with_reducible refine HB.out.mono ?_); rintro e w2 ⟨rfl, hD2, hk2, hs2⟩; have HS := Lib.hid (settleDir_any w2 own g _ hD2); clear hD2)
        | (go_at_call 38; (with_reducible refine HS.out.mono ?_); rintro e w3 ⟨rfl, hD3⟩))
      go_ret
      exact ⟨rfl, Did.trans hk2 (fun _ _ => rfl) hD3⟩

theorem fuse_any (w : World) (own : Nat → Nat) (g : Nat) (d : Dir) (h : DirP w own g d) (n : Int) (h1 : -9223372036854775808 ≤ n) (h2 : n ≤ 9223372036854775807) :
    Calls Try.prog 24 #[.pointer (some ⟨g, 0, none⟩), .int .i64 n] w fun e w' => e = .returned (.tuple #[]) ∧ Did w own g (d.setFuse n) w' := by
  have H := Lib.hid h
  obtain ⟨fz, Mf, Mn, Df, Dn, A, pn, c, us, S, gs, hc, hgd, hf, hr⟩ := h
  have c5 := hc.blk.cell (i := 5) rfl
  have f5 := hc.blk.frozen 5
  have HC := Lib.hid hc
  have HG := Lib.hid hgd
  have HR := Lib.hid hr
  clear hc hgd hf hr
  go_enter Try.func24, Try.ntmps24
  go_wp2
  go_end0
  refine ⟨rfl, own, ⟨n, Mf, Mn, Df, Dn, A, pn, c, us, S, gs, HC.out.offBlk 5 (.int .i64 n) (made' := d.made) (off' := d.off) rfl HC.out.pend HC.out.each HC.out.tA ⟨h1, h2⟩ ⟨Nat.le_refl _, HC.out.mmax⟩ HC.out.pmax rfl, good_setFuse HG.out n, rfl, HR.out⟩, HC.out.set_ _ _, fun _ _ => rfl⟩
theorem off_any (w : World) (own : Nat → Nat) (g : Nat) (d : Dir) (h : DirP w own g d) :
    Calls Try.prog 25 #[.pointer (some ⟨g, 0, none⟩)] w fun e w' => e = .returned (.bool d.off) ∧ w = w' := by
  obtain ⟨fz, Mf, Mn, Df, Dn, A, n, c, us, S, gs, hc, _⟩ := h
  have c6 := hc.blk.cell (i := 6) rfl
  clear hc
  go_enter Try.func25, Try.ntmps25
  go_wp2
  go_ret
  exact ⟨rfl, rfl⟩

theorem file_code {d : Dir} {n : List Int} (h : (d.file n).1 = 0) : d.ask n = 0 ∧ at_ d.row n = some (d.file n).2 ∧ nmOk n = true := by
  unfold Dir.file at h ⊢
  by_cases hq : d.ask n ≠ 0
  · rw [if_pos hq] at h; exact absurd h hq
  · rw [if_neg hq] at h ⊢
    have hq : d.ask n = 0 := by omega
    refine ⟨hq, ?_, ?_⟩
    · cases ha : at_ d.row n with
      | none => rw [ha] at h; simp at h
      | some b => rfl
    · unfold Dir.ask at hq
      cases hk : nmOk n with
      | true => rfl
      | false => rw [hk] at hq; split at hq <;> simp at hq

/-- A file by its name, there: its place, what is known of it. -/
theorem file_at {w : World} {own : Nat → Nat} {g : Nat} {d : Dir} (h : DirP w own g d) {n : List Int} (hc : (d.file n).1 = 0) :
    ∃ Mf q, w.cell? ⟨g, 2, none⟩ = some (.map (some Mf)) ∧ (Instr.lookup 52 (.map (some Mf)) (.int .i64 (((d.file n).2 : Nat) : Int)) false).run Try.prog w = .ok (.pointer (some ⟨q, 0, none⟩)) w ∧ FileP w (fun k => own k = (d.file n).2 + 2) q (d.fl (d.file n).2).now (d.fl (d.file n).2).safe ∧
      ∀ (w' : World) (x : Fl), Ua.GoodFl x → FileP w' (Ext (fun k => own k = (d.file n).2 + 2) w w') q x.now x.safe → KeptF (fun k => own k = (d.file n).2 + 2) w w' → Did w own g (d.lay (d.file n).2 x) w' := by
  obtain ⟨hq, hat, hk⟩ := file_code hc
  obtain ⟨fz, Mf, Mn, Df, Dn, A, pn, c, us, S, gs, hcr, hgd, hf, hl, hch, hcov⟩ := h
  have hS : S (d.file n).2 = true := hcov _ (by simp) _ (at_some hat)
  have hfi := hcr.file _ hS
  have hmm := hcr.mmax
  refine ⟨Mf, gs (d.file n).2, hcr.blk.cell rfl, look_file hcr.mf hcr.vf hS (by omega), hfi.2, fun w' x hx h1 h2 => ?_⟩
  obtain ⟨own', h3, h4, h5⟩ := Core.fileTurn hcr hS h1 h2
  exact ⟨own', ⟨fz, Mf, Mn, Df, Dn, A, pn, c, us, S, gs, h3, good_lay hgd hx, hf, hl, hch, hcov⟩, h4, h5⟩

theorem drop_any (w : World) (own : Nat → Nat) (g : Nat) (d : Dir) (h : DirP w own g d) (n : List Int) (hA : AllB n) (hl : n.length ≤ maxLen) (hp : d.past.length < 1000000) :
    Calls Try.prog 13 #[.pointer (some ⟨g, 0, none⟩), .string (T n)] w fun e w' => e = .returned (.int .i64 (d.drop n).1) ∧ Did w own g (d.drop n).2 w' := by
  have HFd := Lib.hid (find_any w own g d h n hA hl)
  have H := Lib.hid h
  have hgood := h.good
  have hgd2 := good_drop hgood n
  unfold Dir.drop at hgd2 ⊢
  by_cases hc : (d.file n).1 = 0
  · obtain ⟨hq, hat, hk⟩ := file_code hc
    rw [if_neg (by simpa using hc)] at hgd2 ⊢
    rw [hc] at HFd
    unfold Dir.fine at hgd2 ⊢
    have HBu := Lib.hid fun w1 (h1 : DirP w1 own g d) => burn_any w1 own g d h1
    cases hb : d.burns with
    | true =>
      rw [hb] at HBu
      rw [if_pos rfl]
      clear h hgd2 hat hc
      generalize T n = X at *
      generalize (d.file n).2 = id at *
      go_enter Try.func13, Try.ntmps13
      go_wp2_with (first
        | (go_at_call 33; (with_reducible refine HFd.out.mono ?_); rintro e w1 ⟨rfl, hb1⟩; have HB1 := Lib.hid hb1)
        | (go_at_call 30; refine (HBu.out w1 (H.out.below HB1.out)).mono ?_; rintro e w2 ⟨rfl, hD2, hk2, hs2⟩))
      go_ret
      exact ⟨rfl, own, hD2, (KeptF.of_below HB1.out).trans hk2 fun _ _ e => e, fun _ _ => rfl⟩
    | false =>
      rw [hb] at HBu hgd2
      rw [if_neg (by simp)] at hgd2 ⊢
      obtain ⟨_, e2, e3, e4, e5⟩ := d.burnt_same
      have hset : (binds d.burnt.row [(n, 0)]).1 = out d.row n := by rw [binds_one, e2]; rfl
      have HGd := Lib.hid hgd2
      have HSet := Lib.hid hset
      have HU := Lib.hid (undo_one (good_burnt hgood).row (n, 0))
      have hp2 : d.burnt.past.length < 1000000 := by rw [e3]; exact hp
      clear h hgd2 hat hc hset hgood e2 e3 e4 e5
      obtain ⟨X, hX⟩ : ∃ X, X = T n := ⟨_, rfl⟩
      rw [← hX] at HFd ⊢
      have HX := Lib.hid hX
      clear hX
      generalize (d.file n).2 = id at *
      go_enter Try.func13, Try.ntmps13
      go_wp2_with (first
        | (go_at_call 33; (with_reducible refine HFd.out.mono ?_); rintro e w1 ⟨rfl, hb1⟩; have HB1 := Lib.hid hb1)
        | (go_at_call 30; refine (HBu.out w1 (H.out.below HB1.out)).mono ?_; rintro e w2 ⟨rfl, hD2, hk2, hs2⟩
           have hD3 := hD2.below ((Below.refl w2.heap.size w2).alloc (Nat.le_refl _) (.cells #[.string (T n), .int .i64 ((0 : Nat) : Int)] 62))
           have HBi := Lib.hid (bindDir_any _ own g _ hD3 hp2 (some ⟨w2.heap.size, 0, none⟩) 1 1 [(n, 0)] rfl (by omega) (inB_one w2 own n 0 (own_new hD2.foot (Nat.le_refl _))) (fun b hb => by simp at hb; subst hb; exact ⟨hk, .inl rfl⟩) HU.out (by rw [HSet.out]; exact HGd.out))
           have hTX := HX.out
           rw [← hTX] at HBi
           have e0 : ((0 : Nat) : Int) = 0 := rfl
           rw [e0] at HBi
           clear hD3 hTX e0 hs2)
        | (go_at_call 32; (with_reducible refine HBi.out.mono ?_); rintro e w4 ⟨rfl, hD4⟩))
      go_ret
      rw [HSet.out] at hD4
      have k2 : KeptF (Mine own) w (w2.alloc (.cells #[.string X, .int .i64 0] 62)) := ((KeptF.of_below HB1.out).trans hk2 fun _ _ e => e).alloc _
      exact ⟨rfl, Did.trans k2 (fun _ _ => rfl) hD4⟩
  · rw [if_pos (by simpa using hc)] at hgd2 ⊢
    have hne : ((d.file n).1 != 0) = true := by simp [hc]
    have hne2 : ((d.file n).1 == 0) = false := beq_eq_false_iff_ne.2 hc
    clear h hgd2
    generalize T n = X at *
    generalize (d.file n).2 = id at *
    generalize (d.file n).1 = cd at *
    go_enter Try.func13, Try.ntmps13
    go_wp2_with (go_at_call 33; (with_reducible refine HFd.out.mono ?_); rintro e w1 ⟨rfl, hb1⟩; have HB1 := Lib.hid hb1)
    go_ret
    exact ⟨rfl, Did.refl H.out HB1.out⟩
end Go.Proofs.Ytpgkimohekdmmaa.Dg
