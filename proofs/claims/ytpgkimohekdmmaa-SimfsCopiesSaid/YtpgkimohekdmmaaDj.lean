/-
  The program's directory: Rename.
-/
import Derived.Test.YtpgkimohekdmmaaDg
import Derived.Test.YtpgkimohekdmmaaDw
namespace Go.Proofs.Ytpgkimohekdmmaa.Dj
open Go.ChangeShapes Go.WideShapes Go.ChangeAt Go.RowKit
open Bytes8 Blk8 Own8 OwnA OwnM OwnE Fa Fo Ta Ua Kf Dm Dp Da Db Dc Dd Ds Dk Dl Df Dg Dw Sfa Sfb Pv8 Go.Maps
set_option linter.unusedVariables false
set_option linter.unusedSimpArgs false
set_option maxRecDepth 100000

theorem askL_two (d : Dir) (o n : List Int) : askL d.off [o, n] = if d.ask o ≠ 0 then d.ask o else if nmOk n ≠ true then 1 else 0 := by
  unfold askL Dir.ask
  simp only [List.all_cons, List.all_nil, Bool.and_true]
  cases d.off <;> cases nmOk o <;> cases nmOk n <;> simp
theorem ask_ok {d : Dir} {n : List Int} (h : d.ask n = 0) : nmOk n = true := by
  unfold Dir.ask at h
  cases hk : nmOk n with
  | true => rfl
  | false => rw [hk] at h; split at h <;> simp at h

set_option maxHeartbeats 4000000 in
theorem rename_any (w : World) (own : Nat → Nat) (g : Nat) (d : Dir) (h : DirP w own g d) (o n : List Int) (hA : AllB o) (hl : o.length ≤ maxLen) (hA2 : AllB n) (hl2 : n.length ≤ maxLen) (hp : d.past.length < 1000000) :
    Calls Try.prog 19 #[.pointer (some ⟨g, 0, none⟩), .string (T o), .string (T n)] w fun e w' => e = .returned (.int .i64 (d.rename o n).1) ∧ Did w own g (d.rename o n).2 w' := by
  have b1 := (Below.refl w.heap.size w).alloc (Nat.le_refl _) (.cells #[.string (T o), .string (T n)] 9)
  have h1 := h.below b1
  have HAm := Lib.hid (amiss_any _ own g d h1 (some ⟨w.heap.size, 0, none⟩) 2 2 [o, n] rfl (txt_two w o n) (fun l hl => by simp at hl; rcases hl with rfl | rfl <;> assumption) (by omega))
  rw [askL_two] at HAm
  have HBu := Lib.hid (burn_any _ own g d h1)
  have H := Lib.hid h
  have HB1 := Lib.hid b1
  have hgood := h.good
  obtain ⟨fz, Mf, Mn, Df, Dn, A, pn, pc, us, S, gs, hc, _⟩ := h1
  have c3 := hc.blk.cell (i := 3) rfl
  have hlk := look_name hc.mn hc.vn hA hl
  have hmm := hc.mmax
  have hids := fun b (hb : at_ d.row o = some b) => hgood.row.ids _ (at_some hb)
  have HG := Lib.hid hgood
  have hgr := good_rename hgood o n
  have hbq := T_beq hA hA2
  clear hc h b1 hgood
  by_cases hq : d.ask o = 0
  · by_cases hk : nmOk n = true
    · rw [if_neg (by simpa using hq), if_neg (by simpa using hk)] at HAm
      cases hat : at_ d.row o with
      | none =>
        have HE := Lib.hid (show d.rename o n = (16, d) by
          have e : d.file o = (16, 0) := by unfold Dir.file; rw [if_neg (by simpa using hq), hat]
          unfold Dir.rename; rw [if_neg (by simpa using hq), if_neg (by simpa using hk), e, if_pos (by simp)])
        rw [HE.out]
        rw [hat] at hlk
        have hlk : (Instr.lookup 53 (.map (some Mn)) (.string (T o)) false).run Try.prog (w.alloc (.cells #[.string (T o), .string (T n)] 9)) = .ok (.int .i64 0) (w.alloc (.cells #[.string (T o), .string (T n)] 9)) := hlk
        clear hids HBu hq hk hat hgr hbq
        generalize T o = X at *
        generalize T n = Y at *
        go_enter Try.func19, Try.ntmps19
        go_wp2_with (go_at_call 29; (with_reducible refine HAm.out.mono ?_); rintro e w' ⟨rfl, rfl⟩)
        go_ret
        exact ⟨rfl, Did.refl H.out HB1.out⟩
      | some b =>
        have hfile : d.file o = (0, b) := by unfold Dir.file; rw [if_neg (by simpa using hq), hat]
        rw [hat] at hlk
        simp only [Option.getD_some] at hlk
        have hid := hids b hat
        simp only at hid
        have hne2 : ((b : Int) == 0) = false := beq_eq_false_iff_ne.2 (by omega)
        have hr1 : d.rename o n = if d.burns = true then (18, d.burnt) else (0, if o = n then d.burnt else d.burnt.step (put (out d.row o) n b)) := by
          unfold Dir.rename; rw [if_neg (by simpa using hq), if_neg (by simpa using hk), hfile, if_neg (by simp)]; rfl
        rw [hr1] at hgr ⊢
        cases hbn : d.burns with
        | true =>
          rw [if_pos rfl]
          rw [hbn, if_pos rfl] at HBu
          clear hids hq hk hat hbn hgr hbq hr1 hfile
          generalize T o = X at *
          generalize T n = Y at *
          go_enter Try.func19, Try.ntmps19
          go_wp2_with (first
            | (go_at_call 29; (with_reducible refine HAm.out.mono ?_); rintro e w' ⟨rfl, rfl⟩)
            | (go_at_call 30; (with_reducible refine HBu.out.mono ?_); rintro e w2 ⟨rfl, hD2, hk2, hs2⟩; have HS2 := Lib.hid hs2; clear hs2))
          go_ret
          exact ⟨rfl, own, hD2, (KeptF.of_below HB1.out).trans hk2 fun _ _ e => e, fun _ _ => rfl⟩
        | false =>
          rw [if_neg (by simp)]
          rw [hbn, if_neg (by simp)] at HBu hgr
          by_cases hon : o = n
          · rw [if_pos hon]
            rw [decide_eq_true hon] at hbq
            clear hids hq hk hat hbn hgr hr1 hfile hon
            generalize T o = X at *
            generalize T n = Y at *
            go_enter Try.func19, Try.ntmps19
            go_wp2_with (first
              | (go_at_call 29; (with_reducible refine HAm.out.mono ?_); rintro e w' ⟨rfl, rfl⟩)
              | (go_at_call 30; (with_reducible refine HBu.out.mono ?_); rintro e w2 ⟨rfl, hD2, hk2, hs2⟩; have HS2 := Lib.hid hs2; clear hs2))
            go_ret
            exact ⟨rfl, own, hD2, (KeptF.of_below HB1.out).trans hk2 fun _ _ e => e, fun _ _ => rfl⟩
          · rw [if_neg hon]
            rw [if_neg hon] at hgr
            rw [decide_eq_false hon] at hbq
            obtain ⟨_, e2, e3, e4, e5⟩ := d.burnt_same
            have hset : (binds d.burnt.row [(o, 0), (n, b)]).1 = put (out d.row o) n b := by
              rw [binds_two, e2]
              show setRow (setRow d.row (o, 0)) (n, b) = _
              unfold setRow
              rw [if_pos rfl, if_neg (by simp only; omega)]
            have HGd := Lib.hid hgr
            have HSet := Lib.hid hset
            have HU := Lib.hid (undo_two (good_burnt HG.out).row (o, 0) (n, b) hon)
            have HOk := Lib.hid (show ∀ c ∈ [(o, 0), (n, b)], nmOk c.1 = true ∧ (c.2 = 0 ∨ ∃ p ∈ d.burnt.row, p.2 = c.2) from fun c hc => by
              simp only [List.mem_cons, List.not_mem_nil, or_false] at hc
              rcases hc with rfl | rfl
              · exact ⟨ask_ok hq, .inl rfl⟩
              · exact ⟨hk, .inr ⟨(o, b), by rw [e2]; exact at_some hat, rfl⟩⟩)
            have hp2 : d.burnt.past.length < 1000000 := by rw [e3]; exact hp
            clear hids hq hk hat hbn hgr hr1 hfile hon hset e2 e3 e4 e5
            obtain ⟨X, hX⟩ : ∃ X, X = T o := ⟨_, rfl⟩
            obtain ⟨Y, hY⟩ : ∃ Y, Y = T n := ⟨_, rfl⟩
            rw [← hX, ← hY] at HAm HBu HB1 c3 hlk hbq ⊢
            have HX := Lib.hid hX
            have HY := Lib.hid hY
            clear hX hY
            go_enter Try.func19, Try.ntmps19
            go_wp2_with (first
              | (go_at_call 29; (with_reducible refine HAm.out.mono ?_); rintro e w' ⟨rfl, rfl⟩)
              | (go_at_call 30; (with_reducible refine HBu.out.mono ?_); rintro e w2 ⟨rfl, hD2, hk2, hs2⟩
                 have hD3 := hD2.below ((Below.refl w2.heap.size w2).alloc (Nat.le_refl _) (.cells #[.string (T o), .int .i64 ((0 : Nat) : Int), .string (T n), .int .i64 (b : Int)] 62))
                 have HBi := Lib.hid (bindDir_any _ own g _ hD3 hp2 (some ⟨w2.heap.size, 0, none⟩) 2 2 [(o, 0), (n, b)] rfl (by omega) (inB_two w2 own o n 0 b (own_new hD2.foot (Nat.le_refl _))) HOk.out HU.out (by rw [HSet.out]; exact HGd.out))
                 have hTX := HX.out
                 have hTY := HY.out
                 rw [← hTX, ← hTY] at HBi
                 have e0 : ((0 : Nat) : Int) = 0 := rfl
                 rw [e0] at HBi
                 clear hD3 hTX hTY e0 hs2)
              | (go_at_call 32; (with_reducible refine HBi.out.mono ?_); rintro e w4 ⟨rfl, hD4⟩))
            go_ret
            rw [HSet.out] at hD4
            exact ⟨rfl, Did.trans (((KeptF.of_below HB1.out).trans hk2 fun _ _ e => e).alloc _) (fun _ _ => rfl) hD4⟩
    · have HE := Lib.hid (show d.rename o n = (1, d) by unfold Dir.rename; rw [if_neg (by simpa using hq), if_pos hk])
      rw [HE.out]
      rw [if_neg (by simpa using hq), if_pos hk] at HAm
      clear hids HBu hq hk hgr hbq hlk c3
      generalize T o = X at *
      generalize T n = Y at *
      go_enter Try.func19, Try.ntmps19
      go_wp2_with (go_at_call 29; (with_reducible refine HAm.out.mono ?_); rintro e w' ⟨rfl, rfl⟩)
      go_ret
      exact ⟨rfl, Did.refl H.out HB1.out⟩
  · have HE := Lib.hid (show d.rename o n = (d.ask o, d) by unfold Dir.rename; rw [if_pos hq])
    rw [HE.out]
    rw [if_pos hq] at HAm
    have hne : ((d.ask o : Int) != 0) = true := by simp [hq]
    have hne2 : ((d.ask o : Int) == 0) = false := beq_eq_false_iff_ne.2 hq
    clear hids HBu hgr hbq hlk c3
    generalize d.ask o = q at *
    generalize T o = X at *
    generalize T n = Y at *
    go_enter Try.func19, Try.ntmps19
    go_wp2_with (go_at_call 29; (with_reducible refine HAm.out.mono ?_); rintro e w' ⟨rfl, rfl⟩)
    go_ret
    exact ⟨rfl, Did.refl H.out HB1.out⟩
end Go.Proofs.Ytpgkimohekdmmaa.Dj
