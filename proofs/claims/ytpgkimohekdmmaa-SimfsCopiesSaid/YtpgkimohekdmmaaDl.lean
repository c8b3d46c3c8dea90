/-
  The program's directory: Make, walked.
-/
import Derived.Test.YtpgkimohekdmmaaDk
namespace Go.Proofs.Ytpgkimohekdmmaa.Dl
open Go.ChangeShapes Go.WideShapes Go.ChangeAt Go.RowKit
open Bytes8 Blk8 Own8 OwnA OwnM OwnE Fa Fo Ta Ua Kf Dm Dp Da Db Dc Dd Ds Dk Sfb Pv8 Go.Maps
set_option linter.unusedVariables false
set_option linter.unusedSimpArgs false
set_option maxRecDepth 100000

theorem txt_one (w : World) (n : List Int) : Txts (w.alloc (.cells #[.string (T n)] 9)) (some ⟨w.heap.size, 0, none⟩) [n] := fun i hi => by
  obtain rfl : i = 0 := by simpa using hi
  exact ⟨w.heap.size, 0, rfl, by simp, (Blk.new w [.string (T n)] 9).cell rfl⟩
theorem inB_one (w : World) (own : Nat → Nat) (n : List Int) (i : Nat) (h : own w.heap.size = 0) : InB (w.alloc (.cells #[.string (T n), .int .i64 (i : Int)] 62)) own (some ⟨w.heap.size, 0, none⟩) [(n, i)] := fun j hj => by
  obtain rfl : j = 0 := by simpa using hj
  have hB := Blk.new w [.string (T n), .int .i64 (i : Int)] 62
  exact ⟨w.heap.size, 0, rfl, h, by simp, hB.cell rfl, hB.cell rfl⟩
theorem own_new {w : World} {own : Nat → Nat} (h : ∀ k, own k ≠ 0 → k < w.heap.size) {k : Nat} (hk : w.heap.size ≤ k) : own k = 0 := by
  rcases Nat.eq_zero_or_pos (own k) with e | e
  · exact e
  · have := h k (by omega); omega
/-- The end of Make. -/
theorem make_end {w6 : World} {own6 : Nat → Nat} {g : Nat} {d : Dir} {n : List Int} {fz : Int} {Mf Mn : Nat} {D5 Dn' : DU} {A' : Option Addr} {n' c' : Nat} {us : List Und} {u : Und} {S : Nat → Bool} {gs' : Nat → Nat}
    (hg : Ua.Good d) (hf : d.burnt.fuse = max fz (-1)) (hul : us.length = d.burnt.past.length) (hch : ∀ j, j < us.length → undo ((d.burnt.past ++ [d.burnt.row]).getD (j + 1) []) (us.getD j default).cs = d.burnt.past.getD j []) (hcov : ∀ r ∈ d.burnt.past ++ [d.burnt.row], ∀ p ∈ r, S p.2 = true)
    (hq : d.ask n = 0) (hat : at_ d.row n = none) (hlen : d.row.length < 24) (hb : d.burns = false)
    (hc : Core w6 own6 g d.burnt.room (d.burnt.made + 1) (binds d.burnt.row [(n, d.burnt.made + 1)]).1 (fun j => if j = d.burnt.made + 1 then default else d.burnt.fl j) fz d.burnt.off Mf Mn D5 Dn' A' n' c' (us ++ [u]) (fun j => S j || j == d.burnt.made + 1) gs') (hu : u.cs = (binds d.burnt.row [(n, d.burnt.made + 1)]).2) :
    (d.make n).1 = 0 ∧ DirP w6 own6 g (d.make n).2 := by
  obtain ⟨_, e2, e3, e4, e5⟩ := d.burnt_same
  have hm : d.make n = (0, ({ d.burnt with made := d.burnt.made + 1 }.step (put d.burnt.row n (d.burnt.made + 1))).lay (d.burnt.made + 1) default) := by
    unfold Dir.make Dir.fine
    rw [hq, if_neg (by simp), hat, if_neg (by simp), if_neg (by omega), hb, if_neg (by simp)]
    try simp only [e2]
  have hgm := good_make hg n
  rw [hm] at hgm ⊢
  refine ⟨rfl, fz, Mf, Mn, D5, Dn', A', n', c', us ++ [u], fun j => S j || j == d.burnt.made + 1, gs', hc, hgm, hf, ?_, ?_, ?_⟩
  · show (us ++ [u]).length = (d.burnt.past ++ [d.burnt.row]).length
    simp [hul]
  · have hgr : GoodRow d.burnt.made d.burnt.row := (good_burnt hg).row
    exact chain_snoc hul hch (by rw [hu]; exact undo_one hgr _)
  · intro r hr p hp
    have hr : r ∈ (d.burnt.past ++ [d.burnt.row]) ++ [put d.burnt.row n (d.burnt.made + 1)] := hr
    rcases List.mem_append.1 hr with h1 | h1
    · simp [hcov r h1 p hp]
    · simp only [List.mem_cons, List.not_mem_nil, or_false] at h1
      subst h1
      rcases put_mem hp with h2 | h2
      · rw [h2]; simp
      · simp [hcov _ (by simp) p h2]

set_option maxHeartbeats 4000000 in
theorem make_any (w : World) (own : Nat → Nat) (g : Nat) (d : Dir) (h : DirP w own g d) (n : List Int) (hA : AllB n) (hl : n.length ≤ maxLen) (hm : d.made < 1000000) (hp : d.past.length < 1000000) :
    Calls Try.prog 12 #[.pointer (some ⟨g, 0, none⟩), .string (T n)] w fun e w' => e = .returned (.int .i64 (d.make n).1) ∧ Did w own g (d.make n).2 w' := by
  have b1 := (Below.refl w.heap.size w).alloc (Nat.le_refl _) (.cells #[.string (T n)] 9)
  have h1 := h.below b1
  have HAm := Lib.hid (amiss_any _ own g d h1 (some ⟨w.heap.size, 0, none⟩) 1 1 [n] rfl (txt_one w n) (fun l hl => by simp at hl; subst hl; exact hA) (by omega))
  rw [askL_one] at HAm
  have HBu := Lib.hid (burn_any _ own g d h1)
  have H := Lib.hid h
  have HB1 := Lib.hid b1
  have hgood := h.good
  obtain ⟨fz, Mf, Mn, Df, Dn, A, pn, pc, us, S, gs, hc, _⟩ := h1
  have c3 := hc.blk.cell (i := 3) rfl
  have hlk := look_name hc.mn hc.vn hA hl
  have hlen := fun ty => hc.mn.len Try.underlying53 ty
  rw [hc.vn.size] at hlen
  have hmm := hc.mmax
  have hids := fun b (hb : at_ d.row n = some b) => hgood.row.ids _ (at_some hb)
  have HG := Lib.hid hgood
  clear hc h b1 hgood
  by_cases hq : d.ask n = 0
  · rw [hq] at HAm
    cases hat : at_ d.row n with
    | some b =>
      rw [hat] at hlk
      simp only [Option.getD_some] at hlk
      have hid := hids b hat
      simp only at hid
      have hne : ((b : Int) != 0) = true := by simp; omega
      have hne2 : ((b : Int) == 0) = false := beq_eq_false_iff_ne.2 (by omega)
      have HE := Lib.hid (show d.make n = (17, d) by unfold Dir.make; rw [hq, if_neg (by simp), hat, if_pos (by rfl)])
      rw [HE.out]
      clear hids hlen HBu hq hat
      generalize T n = X at *
      go_enter Try.func12, Try.ntmps12
      go_wp2_with (go_at_call 29; (with_reducible refine HAm.out.mono ?_); rintro e w' ⟨rfl, rfl⟩)
      go_ret
      exact ⟨rfl, Did.refl H.out HB1.out⟩
    | none =>
      rw [hat] at hlk
      have hlk : (Instr.lookup 53 (.map (some Mn)) (.string (T n)) false).run Try.prog (w.alloc (.cells #[.string (T n)] 9)) = .ok (.int .i64 0) (w.alloc (.cells #[.string (T n)] 9)) := hlk
      by_cases h24 : 24 ≤ d.row.length
      · have HE := Lib.hid (show d.make n = (15, d) by unfold Dir.make; rw [hq, if_neg (by simp), hat, if_neg (by simp), if_pos h24])
        rw [HE.out]
        have hdec : (24 : Int) ≤ (d.row.length : Int) := by omega
        clear hids HBu hq hat
        generalize T n = X at *
        generalize d.row.length = rl at *
        go_enter Try.func12, Try.ntmps12
        go_wp2_with (go_at_call 29; (with_reducible refine HAm.out.mono ?_); rintro e w' ⟨rfl, rfl⟩)
        go_ret
        exact ⟨rfl, Did.refl H.out HB1.out⟩
      · have hdec : ¬ (24 : Int) ≤ (d.row.length : Int) := by omega
        cases hbn : d.burns with
        | true =>
          have HE := Lib.hid (show d.make n = (18, d.burnt) by unfold Dir.make Dir.fine; rw [hq, if_neg (by simp), hat, if_neg (by simp), if_neg h24, hbn, if_pos rfl])
          rw [HE.out]
          rw [hbn, if_pos rfl] at HBu
          clear hids hq hat hbn
          generalize T n = X at *
          generalize d.row.length = rl at *
          go_enter Try.func12, Try.ntmps12
          go_wp2_with (first
            | (go_at_call 29; (with_reducible refine HAm.out.mono ?_); rintro e w' ⟨rfl, rfl⟩)
            | (go_at_call 30; (with_reducible refine HBu.out.mono ?_); rintro e w2 ⟨rfl, hD2, hk2, hs2⟩))
          go_ret
          exact ⟨rfl, own, hD2, (KeptF.of_below HB1.out).trans hk2 fun _ _ e => e, fun _ _ => rfl⟩
        | false =>
          rw [hbn, if_neg (by simp)] at HBu
          have HQ := Lib.hid hq
          have HAt := Lib.hid hat
          have HBn := Lib.hid hbn
          have HYn := Lib.hid (rfl : T n = T n)
          clear hids hq hat hbn
          obtain ⟨X, hX⟩ : ∃ X, X = T n := ⟨_, rfl⟩
          rw [← hX] at HAm HBu HB1 c3 hlk hlen ⊢
          have HX := Lib.hid hX
          clear hX HYn
          generalize hrl : d.row.length = rl at *
          have HRL := Lib.hid hrl
          clear hrl
          go_enter Try.func12, Try.ntmps12
          go_wp2_with (first
            | (go_at_call 29; (with_reducible refine HAm.out.mono ?_); rintro e w' ⟨rfl, rfl⟩)
            | (go_at_call 30; (with_reducible refine HBu.out.mono ?_); rintro e w2 ⟨rfl, ⟨fz2, Mf2, Mn2, Df2, Dn2, A2, n2, cc2, us2, S2, gs2, hc2, _, hf2, hl2, hch2, hcov2⟩, hk2, hs2⟩
               have HC2 := Lib.hid hc2
               have hmade : d.burnt.made = d.made := d.burnt_same.2.2.2.2
               have q1 := hc2.blk.cell (i := 1) rfl
               have p1 := hc2.blk.frozen 1
               have HF2 := Lib.hid hf2
               have HL2 := Lib.hid hl2
               have HCh2 := Lib.hid hch2
               have HCov2 := Lib.hid hcov2
               clear hc2 hf2 hl2 hch2 hcov2
               rw [hmade] at q1 HC2
               obtain ⟨M, hM⟩ : ∃ M, M = d.made + 1 := ⟨_, rfl⟩
               have HMi := Lib.hid (show (d.made : Int) + 1 = (M : Int) by omega)
               have HK2 := Lib.hid hk2
               have hs2 : w2.heap.size = w.heap.size + 1 := by rw [hs2]; simp
               clear hk2))
          have hC3 := HC2.out.offBlk 1 (.int .i64 (M : Int)) (made' := M) rfl HC2.out.pend (fun u hu => ⟨(HC2.out.each u hu).1, (HC2.out.each u hu).2.1, (fun b hb => ⟨((HC2.out.each u hu).2.2.1 b hb).1, by have := ((HC2.out.each u hu).2.2.1 b hb).2; omega⟩), (HC2.out.each u hu).2.2.2⟩) HC2.out.tA HC2.out.fz64 ⟨by omega, by omega⟩ HC2.out.pmax rfl
          have hK3 := HK2.out.trans (HC2.out.set_ 1 (.int .i64 (M : Int))) fun _ _ e => e
          have hs3 : (w2.setCell ⟨g, 1, none⟩ (.int .i64 (M : Int))).heap.size = w.heap.size + 1 := by simp [World.setCell]; exact hs2
          rw [← HMi.out] at hC3 hK3 hs3
          generalize w2.setCell ⟨g, 1, none⟩ (.int .i64 ((d.made : Int) + 1)) = w3 at *
          have HS3 := Lib.hid hs3
          have hM1 : 1 ≤ M := by omega
          have hM2 : M ≤ 1000000 := by omega
          have HSz := Lib.hid (show Maps.size Df2 + 1 ≤ M + 24 by have := HC2.out.szf; omega)
          have HM := Lib.hid hM
          clear hs3 hs2 hM
          have r1 := hC3.blk.cell (i := 1) rfl
          have r2 := hC3.blk.cell (i := 2) rfl
          have HC3 := Lib.hid hC3
          have HK3 := Lib.hid hK3
          clear hC3 hK3
          go_region_law (go_simp; go_at_call 31; (with_reducible refine (Sfb.new_any _).mono ?_); rintro e w4 ⟨rfl, hFP, hb4⟩; have HFP := Lib.hid hFP; have HB4 := Lib.hid hb4; have hC4 := HC3.out.drew.below hb4; have r14 := hC4.blk.cell (i := 1) rfl; have r24 := hC4.blk.cell (i := 2) rfl; obtain ⟨w5, D5, hrun, hm5, hv5, ht5⟩ := put_file hC4.mf (by have := HSz.out; unfold maxLen; omega) hC4.vf (i := M) (by omega) w3.heap.size; have HM5 := Lib.hid hm5; have HV5 := Lib.hid hv5; have HT5 := Lib.hid ht5; clear hFP hb4 hC4 hm5 hv5 ht5)
          all_goals
            obtain ⟨own5, hC5, hk5, ho5⟩ := Core.newfile HC3.out.drew (fun i hi => by have := (HC2.out.file i hi).1.2; have := HM.out; omega) hM1 HB4.out HFP.out HT5.out HM5.out HSz.out HV5.out
            have r15 := hC5.blk.cell (i := 1) rfl
            have hn2 : n2 ≤ 1000000 := by
              have h1 := HC2.out.pend.len
              have h2 := HL2.out
              have h3 := d.burnt_same.2.2.1
              rw [List.length_map] at h1
              rw [h3] at h2
              omega
            have hnm : nmOk n = true := by
              have := HQ.out
              unfold Dir.ask at this
              cases hk : nmOk n with
              | true => rfl
              | false =>
                rw [hk] at this
                split at this <;> simp at this
            have hfo : own5 w5.heap.size = 0 := own_new hC5.foot (Nat.le_refl _)
            have HBind := Lib.hid (bind_any (w5.alloc (.cells #[.string (T n), .int .i64 (M : Int)] 62)) own5 g _ M _ _ _ _ _ _ _ _ _ _ _ _ _ _ (hC5.alloc _) (BOk.of_good ((good_burnt HG.out).row.more (by have := HM.out; omega))) (by omega) (some ⟨w5.heap.size, 0, none⟩) 1 1 [(n, M)] rfl (by omega) (inB_one w5 own5 n M hfo) (fun b hb => by simp at hb; subst hb; exact ⟨hnm, Nat.le_refl _⟩))
            have hTX := HX.out
            rw [← hTX] at HBind
            have HK5 := Lib.hid hk5
            have HO5 := Lib.hid ho5
            clear hC5 hfo hTX hk5 ho5 hnm hn2
            go_wp2_with (go_at_call 32; (with_reducible refine HBind.out.mono ?_); rintro e w6 ⟨rfl, own6, Dn6, A6, n6, c6, u6, hC6, hu6, hk6, ho6⟩)
            go_ret
            have eM : M = d.burnt.made + 1 := by rw [hmade]; exact HM.out
            rw [eM] at hC6 hu6
            obtain ⟨z1, z2⟩ := make_end HG.out HF2.out HL2.out HCh2.out HCov2.out HQ.out HAt.out (by have := HRL.out; omega) HBn.out hC6 hu6
            rw [z1]
            have s5 := HK5.out.size
            have s3 := HS3.out
            have k1 : KeptF (Mine own) w w3 := (KeptF.of_below HB1.out).trans HK3.out fun _ _ e => e
            have k2 : KeptF (Mine own) w w5 := k1.drew.trans HK5.out fun _ _ e => e
            have k3 : KeptF (Mine own) w (w5.alloc (.cells #[.string X, .int .i64 (M : Int)] 62)) := k2.alloc _
            have hs5 : w.heap.size ≤ w5.heap.size := k2.size
            refine ⟨rfl, own6, z2, keptF_mine (own1 := own5) k3 hk6 (fun k hk => HO5.out k (by show k < w3.heap.size; omega)), fun k hk => (ho6 k (by simp; omega)).trans (HO5.out k (by show k < w3.heap.size; omega))⟩
  · have HE := Lib.hid (show d.make n = (d.ask n, d) by unfold Dir.make; rw [if_pos hq])
    rw [HE.out]
    have hne : ((d.ask n : Int) != 0) = true := by simp [hq]
    have hne2 : ((d.ask n : Int) == 0) = false := beq_eq_false_iff_ne.2 hq
    clear hids hlen HBu hlk
    generalize d.ask n = q at *
    generalize T n = X at *
    go_enter Try.func12, Try.ntmps12
    go_wp2_with (go_at_call 29; (with_reducible refine HAm.out.mono ?_); rintro e w' ⟨rfl, rfl⟩)
    go_ret
    exact ⟨rfl, Did.refl H.out HB1.out⟩
end Go.Proofs.Ytpgkimohekdmmaa.Dl
