/-
  The program's directory: what 'bind' leaves.
-/
import Derived.Test.YtpgkimohekdmmaaDc
namespace Go.Proofs.Ytpgkimohekdmmaa.Dd
open Go.ChangeShapes Go.WideShapes Go.ChangeAt Go.RowKit
open Bytes8 Blk8 Own8 OwnA OwnM OwnE Fa Fo Ta Ua Kf Dm Dp Da Db Dc Sfb Go.Maps
set_option linter.unusedVariables false
set_option linter.unusedSimpArgs false
set_option maxRecDepth 100000

theorem keptF_from {B : Nat} {w w' : World} (h : Below B w w') : KeptF (fun k => B ≤ k) w w' := ⟨h.os, h.tape, h.output, h.size, fun k _ hn => h.block k (by omega)⟩

set_option maxHeartbeats 2000000 in
theorem bind_any (w : World) (own : Nat → Nat) (g room made : Nat) (row : RowD) (fl : Nat → Fl) (fz : Int) (off : Bool) (Mf Mn : Nat) (Df Dn : DU) (A : Option Addr) (n c : Nat) (us : List Und) (S : Nat → Bool) (gs : Nat → Nat)
    (h : Core w own g room made row fl fz off Mf Mn Df Dn A n c us S gs) (hq : BOk made 100 (row, [])) (hn : n < 2000000) (a : Option Addr) (m ca : Nat) (bs : List Bd) (hm : bs.length = m) (hm2 : m ≤ 2) (hB : InB w own a bs) (hok : ∀ b ∈ bs, nmOk b.1 = true ∧ b.2 ≤ made) :
    Calls Try.prog 32 #[.pointer (some ⟨g, 0, none⟩), .slice a m ca] w fun e w' => e = .returned (.tuple #[]) ∧ ∃ own' Dn' A' n' c' u, Core w' own' g room made (binds row bs).1 fl fz off Mf Mn Df Dn' A' n' c' (us ++ [u]) S gs ∧ u.cs = (binds row bs).2 ∧ KeptF (Mine own) w w' ∧ ∀ k, k < w.heap.size → own' k = own k := by
  have HS := Lib.hid h
  have HB := Lib.hid hB
  have HQ := Lib.hid fun k (hk : k ≤ m) => hq.all (bs.take k) (fun b hb => hok b (List.mem_of_mem_take hb))
  have HM := Lib.hid hm
  have HOK := Lib.hid hok
  have HMn := Lib.hid (h.foot Mn (by rw [h.tMn]; decide))
  have HF := Lib.hid h.foot
  clear h hB hok hm
  go_enter Try.func32, Try.ntmps32
  go_wp2
  go_loopw [4, 9] (fun s i wr => ∃ (k : Nat) (Ab : Option Addr) (cb : Nat) (D' : DU), k ≤ m ∧ i = .int .i64 (k : Int) ∧ s = .slice Ab k cb ∧ Hid (OwnE 62 2 wr w.heap.size Ab k cb (cellsB (binds row (bs.take k)).2)) ∧ Hid (Core wr own g room made (binds row (bs.take k)).1 fl fz off Mf Mn Df D' A n c us S gs) ∧ Hid (KeptF (One Mn) w wr)) (fun _ i _ => m - (intOf i).toNat)
  case atStart => exact ⟨0, none, 0, Dn, by omega, rfl, rfl, Lib.hid (OwnE.nil _ _ (Nat.le_refl _)), HS, Lib.hid (KeptF.refl _ _)⟩
  case round =>
    obtain ⟨k, Ab, cb, D', hk, rfl, rfl, hO, hC, hK⟩ := hrel
    rcases Nat.lt_or_ge k m with hlt | hge
    · have hin : (k : Int) < (m : Int) := by omega
      have hkb : k < bs.length := by rw [HM.out]; exact hlt
      obtain ⟨b, boff, rfl, hb0, hbl, q0, q1⟩ := HB.out k hkb
      have hbMn : b ≠ Mn := fun e => by rw [e, HS.out.tMn] at hb0; omega
      have q0 := (World.cell?_of_block (hK.out.block b hbl hbMn)).trans q0
      have q1 := (World.cell?_of_block (hK.out.block b hbl hbMn)).trans q1
      have hmem : bs.getD k ([], 0) ∈ bs := by rw [List.getD_eq_getElem?_getD, List.getElem?_eq_getElem hkb]; exact List.getElem_mem hkb
      obtain ⟨o1, o2⟩ := HOK.out _ hmem
      obtain ⟨oA, ol1, ol2⟩ := nmOk_all o1
      have hstep := Lib.hid (binds_step row bs hkb)
      have hmk := HS.out.mmax
      have hbo := HQ.out k (by omega)
      have hbo2 := HQ.out (k + 1) (by omega)
      generalize hX : bs.getD k ([], 0) = X at *
      obtain ⟨s, id⟩ := X
      simp only at o1 o2 oA ol1 ol2 q0 q1
      generalize hQk : binds row (bs.take k) = Q at *
      obtain ⟨row1, cs⟩ := Q
      have h1 := hC.out.alloc (.cells #[.string (T s), .int .i64 (id : Int)] 62)
      have HB6 := Lib.hid (Blk.new wr [.string (T s), .int .i64 (id : Int)] 62)
      have t0 := HB6.out.cell (i := 0) rfl
      have t1 := HB6.out.cell (i := 1) rfl
      have c3 := h1.blk.cell (i := 3) rfl
      have hlk := look_name h1.drew.mn h1.drew.vn oA (by unfold maxLen; omega)
      have hmax : (cellsB cs).length = k * 2 := hO.out.len
      obtain ⟨old, hold⟩ : ∃ old, old = (at_ row1 s).getD 0 := ⟨_, rfl⟩
      rw [← hold] at hlk
      have HOld := Lib.hid hold
      clear hold
      have HO := Lib.hid (((hO.out.alloc (.cells #[.string (T s), .int .i64 (id : Int)] 62)).alloc (.cells #[.string (T s), .int .i64 (old : Int)] 62)).drew)
      have HN := Lib.hid (Blk.news (Blk.new (wr.alloc (.cells #[.string (T s), .int .i64 (id : Int)] 62)) [.string (T s), .int .i64 (old : Int)] 62).drew)
      have hkm : k ≤ 1 := by omega
      have H1 := Lib.hid h1
      have hwk := hK.out.size
      have hMw := HMn.out
      have HF := HF.out
      clear hC h1
      obtain ⟨Y, hY⟩ : ∃ Y, Y = T s := ⟨_, rfl⟩
      have HYs := Lib.hid hY
      rw [← hY] at q0 HB6 t0 t1 c3 hlk HO HN H1
      clear hY
      go_wp2_with fail
      go_region_law (refine step_append_elt_at bindElt (o := ⟨some 25, _, _, _, _, _⟩) rfl (.tmp 13) (.tmp 24) rfl w.heap.size Ab k cb (cellsB cs) rfl HO.out ⟨wr.heap.size + 1, 0, none⟩ 1 1 [.string Y, .int .i64 (old : Int)] rfl rfl (by simpa using HN.out) (by intro u hu; simp at hu; rcases hu with rfl | rfl <;> rfl) (by omega) (by omega) (by unfold maxLen; omega) ?_; intro A2 c2 w3 ho2 hg2 hat2; have HO2 := Lib.hid ho2; have HG2 := Lib.hid hg2; clear ho2 hg2)
      all_goals
        have hAlt : ∀ j, ownB Ab = some j → w.heap.size ≤ j ∧ j < wr.heap.size := fun j e => OwnE.blk hO.out e
        have HB3 := Lib.hid (show Blk w3 wr.heap.size [.string Y, .int .i64 (id : Int)] 62 from (HG2.out.block wr.heap.size (by simp <;> omega) (fun e => by have := hAlt _ e.symm; omega)).trans ((HB6.out.alloc _).drew))
        have t30 := HB3.out.cell (i := 0) rfl
        have t31 := HB3.out.cell (i := 1) rfl
        have hK3 : KeptF (fun j => ownB Ab = some j) wr w3 := (((KeptF.refl _ wr).alloc (.cells #[.string Y, .int .i64 (id : Int)] 62)).alloc (.cells #[.string Y, .int .i64 (old : Int)] 62)).drew.grown HG2.out fun j e _ => e
        have H3 := (((H1.out.alloc (.cells #[.string Y, .int .i64 (old : Int)] 62)).drew).keptF (G := fun j => ownB Ab = some j) (KeptF.grow _ HG2.out) (fun j h0 e => by have := HF j h0; have := hAlt j e; omega))
        have hsY : Y = T s := HYs.out
        have HSet := Lib.hid (set_any w3 own g room made row1 fl fz off Mf Mn Df D' A n c us S gs H3 hbo.rises (by have := hbo.len; simp at this; omega) (s, id) o1 o2)
        simp only [← hsY] at HSet
        clear H3 hsY
        go_wp2_with (go_at_call 40; (with_reducible refine HSet.out.mono ?_); rintro e w4 ⟨rfl, ⟨D4, hC4⟩, hk4⟩; have HC4 := Lib.hid hC4; clear hC4)
        go_round
        case rel =>
          have hst := hstep.out
          refine ⟨k + 1, A2, c2, D4, by omega, by go_num, rfl, Lib.hid ?_, Lib.hid ?_, Lib.hid ?_⟩
          · rw [hst]
            unfold bstep
            simp only
            rw [cellsB_app, ← HOld.out]
            refine OwnE.keptF ?_ hk4 (fun j e e2 => ?_)
            · show OwnE _ _ _ _ _ _ _ (cellsB cs ++ [.string (T s), .int .i64 (old : Int)])
              rw [← HYs.out]
              exact HO2.out
            · have := OwnE.blk HO2.out e
              rw [show j = Mn from e2] at this
              omega
          · rw [hst]; exact HC4.out
          · exact (hK.out.trans hK3 (fun i hi e => by have := hAlt i e; omega)).trans hk4 fun _ _ e => e
        case measure => simp [intOf]; omega
    · obtain rfl : k = m := by omega
      have hin : ¬ ((k : Int) < (k : Int)) := by omega
      have htk : bs.take k = bs := by rw [List.take_of_length_le]; rw [HM.out]; exact Nat.le_refl _
      rw [htk] at hO hC
      have hbo := HQ.out k (by omega)
      rw [htk] at hbo
      have c4 := hC.out.blk.cell (i := 4) rfl
      have hpend := hC.out.pend
      have HP := Lib.hid (hpend.alloc (.cells #[.slice Ab k cb] 73))
      have HN := Lib.hid (cell_one_new wr (.slice Ab k cb) 73)
      have HBk := Lib.hid hC.out.blk
      have HtA := Lib.hid (fun e : ownB A = some g => (HS.out.tA g e).2.1 rfl)
      clear hpend
      have c4a : (wr.alloc (.cells #[.slice Ab k cb] 73)).cell? ⟨g, 4, none⟩ = some (.slice A n c) := (HBk.out.alloc _).cell (i := 4) rfl
      go_wp2_with (at_builtin; refine wpList_append_elt_at pendElt rfl (.tmp 34) (.tmp 36) rfl 0 A n c (us.map Und.val) rfl HP.out ⟨wr.heap.size, 0, none⟩ 1 1 [.slice Ab k cb] rfl rfl HN.out (by intro u hu; simp at hu; subst hu; rfl) (by omega) (by omega) (by unfold maxLen; omega) ?_; intro A' c' w3 ho3 hg3 hat3; have HO3 := Lib.hid ho3; have HG3 := Lib.hid hg3; have hB3 := Lib.hid (show Blk w3 g _ _ from (hg3.block g (by have := HBk.out.lt; simp; omega) (fun e => HtA.out e.symm)).trans (HBk.out.alloc _)); have b4 := hB3.out.cell (i := 4) rfl; have bf4 := hB3.out.frozen 4; clear ho3 hg3)
      go_end0
      obtain ⟨own', u, e1, e2, e3, e4⟩ := bind_end HS.out hC.out hK.out hO.out hbo.cs hn hm2 HO3.out HG3.out hat3
      exact ⟨rfl, own', _, _, _, _, u, e1, e2, e3, e4⟩
end Go.Proofs.Ytpgkimohekdmmaa.Dd
