/-
  What the document reads of arrays.
-/
import Derived.Test.YtoklhjooldfcfaaYl
namespace Go.Proofs.Ytoklhjooldfcfaa.Ym
open Go.ChangeShapes Go.WideShapes Go.ChangeAt Go.RowKit
open Bytes8 Blk8 Own8 OwnM OwnE OwnA Dc LeA LeAl LeNum LeB LeP RefA RefB Ob Oc Od Oe Og Oi Rows2 Kf Yc Yp Yd Ye Yg Yh Yj Yi Yl
set_option linter.unusedVariables false
set_option linter.unusedSimpArgs false
set_option maxRecDepth 100000

theorem wordElt : Elt 23 37 1 8 (.int .u64 0) := ⟨Try.underlying37, by kernel_rfl, rfl, by decide⟩
theorem rarrInfo : (Try.prog.info? 42).map (·.size) = some 2 := by kernel_rfl
def wds (f : Nat → Int) (k : Nat) : List Value := (ints f k).map (Value.int .u64)
theorem wds_succ (f : Nat → Int) (k : Nat) : wds f (k + 1) = wds f k ++ [.int .u64 (f k)] := by unfold wds; rw [ints_succ]; simp
theorem own_ints {E : TypeId} {w : World} {base c k : Nat} {A : Option Addr} {f : Nat → Int} (h : OwnE E 1 w base A k c (wds f k)) (hf : Wd f k) : InInts .u64 w A k f := fun i hi => by
  have hl : (wds f k).length = k := by unfold wds; rw [List.length_map, ints_len]
  obtain ⟨b, rfl, _, hlt, c1⟩ := h.cell (i := i) (by omega)
  refine ⟨b, 0, rfl, hlt, ?_, ?_⟩
  · rw [Nat.zero_add, c1]; unfold wds ints; simp [hi]
  · have := hf i hi
    simp [Lit.wf, IntKind.min, IntKind.max, IntKind.signed, IntKind.bits]
    omega
set_option maxHeartbeats 8000000 in
theorem rreadArray_any (A : Option Addr) (l : List Int) (n cap a : Nat) (w : World) (hb : Bytes w A l) (hL : l.length = n) (hn : n ≤ 1000000) (hc : n ≤ cap) (hcm : cap ≤ maxLen) (ha : a ≤ 18446744073709551615) :
    Calls Try.prog 12 #[.slice A n cap, .int .u64 (a : Int)] w (ArrTold l a w) := by
  have b0 := Lib.hid ((Below.refl w.heap.size w).alloc (Nat.le_refl _) (arrC 42 0 none 0 0))
  have R0 := Lib.hid (show Blk (w.alloc (arrC 42 0 none 0 0)) w.heap.size (aL 0 none 0 0) 42 from Blk.new w _ _)
  have HBo := Lib.hid (rbody_r A l n cap a 6 (w.alloc (arrC 42 0 none 0 0)) (hb.below b0.out (Nat.le_refl _)) hL hn hc hcm ha)
  unfold Rbodied at HBo
  have HAb := Lib.hid (body_all (a := a) hb.1)
  have hno : ecode l a 6 8 8 ≠ 0 → arX l a = 0 ∧ arM l a = 0 := fun h => ⟨if_neg h, if_neg h⟩
  have hyes : ecode l a 6 8 8 = 0 → arX l a = u8 (bodyL l a) 0 ∧ arM l a = arN (bodyL l a) := fun h => ⟨if_pos h, if_pos h⟩
  have hr := ecode_r l a 6 8 8
  by_cases h1 : rcode l a 6 ≠ 0
  · rw [if_pos h1] at hr
    have HCe := Lib.hid hr
    have HF := Lib.hid (hno (by rw [hr]; exact h1))
    clear hno hyes hb hL hr
    generalize rcode l a 6 = cdd at *
    go_enter Try.func12, Try.ntmps12
    go_wp2_with (first
      | (go_at_call 33; (with_reducible refine HBo.out.mono ?_); rintro e w2 ⟨B, m, cb, rfl, hbel, _⟩; have R2 := Lib.hid (R0.out.below hbel R0.out.lt); have HB2 := Lib.hid (b0.out.trans (hbel.mono b0.out.size)); clear hbel)
      | (refine wpList_store_row rfl 42 (.tmp 4) (.tmp 18) rfl w.heap.size _ rfl rfl 42 _ R2.out rarrInfo rfl (by simp [Value.oneCell']) ?_))
    refine bodyPost_ret (v := .tuple #[arrV 0 none 0 0, .int .i64 cdd]) (by exact res_row Try.results12 _ _ w.heap.size 42 _ (0, 0) _ _ rfl rfl (Blk.setRow R2.out (aL 0 none 0 0)) Try.underlying42 rfl rarrInfo) rfl ?_
    unfold ArrTold
    rw [HF.out.1, HF.out.2, HCe.out]
    exact ⟨none, 0, rfl, setRow_keepB HB2.out (Nat.le_refl _) _, fun i hi => absurd hi (by omega)⟩
  have h0 : rcode l a 6 = 0 := by omega
  rw [if_neg h1] at hr
  rw [h0] at HBo
  have HNu := Lib.hid fun (i : Nat) (z : Int) (B : Option Addr) (m cb : Nat) (W : World) (hB : Bytes W B (bodyL l a)) (hm : (bodyL l a).length = m) (hm2 : m ≤ 1000000) (hz : z = (i : Int)) (hi : i + 8 ≤ m) => ru_z B (bodyL l a) m cb i z W hB hm hm2 hi hz
  have HCd := Lib.hid hr
  have HNo := Lib.hid hno
  have HYe := Lib.hid hyes
  have HTn := Lib.hid (show arN (bodyL l a) = ((bodyL l a).length - 8) / 8 from rfl)
  clear hno hyes hb hL h1 h0 hr
  generalize hbd0 : bodyL l a = bd at *
  have HBD := Lib.hid hbd0
  clear hbd0
  go_enter Try.func12, Try.ntmps12
  go_upto_region 4 with (go_at_call 33; (with_reducible refine HBo.out.mono ?_); rintro e w2 ⟨B, m, cb, rfl, hbel, hbd⟩)
  obtain ⟨d1, d2, d5⟩ := hbd (by first | rfl | trivial)
  have R2 := Lib.hid (R0.out.below hbel R0.out.lt)
  have HB2 := Lib.hid (b0.out.trans (hbel.mono b0.out.size))
  have D1 := Lib.hid d1
  have D2 := Lib.hid d2
  clear d1 d2 hbel hbd
  have hsz := D2.out
  by_cases hbad : m < 16 ∨ m % 8 ≠ 0
  · have HCe := Lib.hid (HCd.out.trans (if_pos (by rw [D2.out]; omega)))
    have HF := Lib.hid (HNo.out (by rw [HCe.out]; decide))
    by_cases hb1 : m < 16
    · have e1 : (m : Int) < 16 := by omega
      clear hsz hbad
      go_wp2_with (refine wpList_store_row rfl 42 (.tmp 4) (.tmp 29) rfl w.heap.size _ rfl rfl 42 _ R2.out rarrInfo rfl (by simp [Value.oneCell']) ?_)
      refine bodyPost_ret (v := .tuple #[arrV 0 none 0 0, .int .i64 5]) (by exact res_row Try.results12 _ _ w.heap.size 42 _ (0, 0) _ _ rfl rfl (Blk.setRow R2.out (aL 0 none 0 0)) Try.underlying42 rfl rarrInfo) rfl ?_
      unfold ArrTold
      rw [HF.out.1, HF.out.2, HCe.out]
      exact ⟨none, 0, rfl, setRow_keepB HB2.out (Nat.le_refl _) _, fun i hi => absurd hi (by omega)⟩
    · have e1 : ¬ (m : Int) < 16 := by omega
      obtain ⟨R, hR⟩ : ∃ R : Int, R = ((m % 8 : Nat) : Int) := ⟨_, rfl⟩
      have e2 : (m : Int).tmod 8 = R := by rw [Int.tmod_eq_emod_of_nonneg (by omega), hR]; omega
      have e2' : (m : Int) % 8 = R := by rw [hR]; omega
      have e3 : (R == 0) = false := by simp; omega
      have e4 : (R != 0) = true := by simp; omega
      have e5 : ¬ R = 0 := by omega
      clear hsz hbad hR
      go_wp2_with (refine wpList_store_row rfl 42 (.tmp 4) (.tmp 29) rfl w.heap.size _ rfl rfl 42 _ R2.out rarrInfo rfl (by simp [Value.oneCell']) ?_)
      refine bodyPost_ret (v := .tuple #[arrV 0 none 0 0, .int .i64 5]) (by exact res_row Try.results12 _ _ w.heap.size 42 _ (0, 0) _ _ rfl rfl (Blk.setRow R2.out (aL 0 none 0 0)) Try.underlying42 rfl rarrInfo) rfl ?_
      unfold ArrTold
      rw [HF.out.1, HF.out.2, HCe.out]
      exact ⟨none, 0, rfl, setRow_keepB HB2.out (Nat.le_refl _) _, fun i hi => absurd hi (by omega)⟩
  · have HCe := Lib.hid (HCd.out.trans (if_neg (by rw [D2.out]; omega)))
    have HF := Lib.hid (HYe.out HCe.out)
    obtain ⟨t, ht⟩ : ∃ t, m = 8 + 8 * t := ⟨(m - 8) / 8, by omega⟩
    subst ht
    have htn : arN bd = t := by rw [HTn.out, D2.out]; omega
    have HTN := Lib.hid htn
    have e1 : ¬ ((8 + 8 * t : Nat) : Int) < 16 := by omega
    have e2 : ((8 + 8 * t : Nat) : Int).tmod 8 = 0 := by rw [Int.tmod_eq_emod_of_nonneg (by omega)]; omega
    have e2' : ((8 + 8 * t : Nat) : Int) % 8 = 0 := by omega
    have X0 := Lib.hid (Blk.new w2 (aL (u8 bd 0) none 0 0) 42)
    have BX := Lib.hid ((Below.refl w2.heap.size w2).alloc (Nat.le_refl _) (.cells (aL (u8 bd 0) none 0 0).toArray 42))
    clear hsz hbad htn
    go_wp2_with (go_at_call 34; (with_reducible refine (HNu.out 0 0 _ _ _ _ D1.out D2.out (by omega) rfl (by omega)).mono ?_); rintro e w' ⟨rfl, rfl⟩)
    go_loopw [9] (fun i wr => ∃ (k : Nat) (A' : Option Addr) (c' : Nat), k ≤ t ∧ i = .int .i64 ((8 + 8 * k : Nat) : Int) ∧ Hid (Blk wr w2.heap.size (aL (u8 bd 0) A' k c') 42) ∧ Hid (OwnE 23 1 wr (w2.heap.size + 1) A' k c' (wds (arF bd) k)) ∧ Hid (Below w2.heap.size w2 wr)) (fun i _ => 8 + 8 * t - (intOf i).toNat)
    case atStart => exact ⟨0, none, 0, Nat.zero_le _, rfl, X0, OwnE.nil _ _ (by simp), BX⟩
    case round =>
      obtain ⟨k, A', c', hk, rfl, he, ho, hb⟩ := hrel
      have e0 := he.out.cell (i := 0) rfl
      have e1c := he.out.cell (i := 1) rfl
      by_cases hlt : k < t
      · have Dr := Lib.hid (D1.out.below hb.out (Nat.le_refl _)).drew
        have HWs := Lib.hid (wds_succ (arF bd) k)
        have HAf := Lib.hid (show arF bd k = u8 bd (8 + 8 * k) from rfl)
        have hbo := Lib.hid (show Blk (wr.alloc (.cells #[.int .u64 (u8 bd (8 + 8 * k))] 23)).drew wr.heap.size [.int .u64 (u8 bd (8 + 8 * k))] 23 from Blk.new wr _ _)
        have hgw := he.out.lt
        have Na := Lib.hid ((Below.refl wr.heap.size wr).alloc (Nat.le_refl _) (.cells #[.int .u64 (u8 bd (8 + 8 * k))] 23)).drew
        have u1 : wr.drew.cell? ⟨w2.heap.size, 1, none⟩ = some (.slice A' k c') := e1c
        have v1 := (Na.out.cell (p := ⟨w2.heap.size, 1, none⟩) hgw).trans e1c
        have hlt' : ((8 + 8 * k : Nat) : Int) < ((8 + 8 * t : Nat) : Int) := by omega
        have hwu : IntKind.u64.wrap (8 + 8 * (k : Int)) = 8 + 8 * (k : Int) := by rw [IntKind.wrap_u64]; omega
        go_wp2_with fail
        go_region_law (first
          | (refine step_append_elt wordElt (o := ⟨some 46, _, _, _, _, _⟩) rfl (.tmp 40) (.tmp 45) rfl (w2.heap.size + 1) A' k c' _ rfl ((ho.out.alloc (.cells #[.int .u64 (u8 bd (8 + 8 * k))] 23)).drew) ⟨wr.heap.size, 0, none⟩ 1 1 [.int .u64 (u8 bd (8 + 8 * k))] rfl rfl (Blk.news hbo.out) (by intro u hu; simp at hu; subst hu; rfl) (by omega) (by omega) ?_; intro A2 c2 w4 ho4 hb4; rw [← HAf.out, ← HWs.out] at ho4; have HO4 := Lib.hid ho4; have hb5 := ((Below.refl wr.heap.size wr).alloc (Nat.le_refl _) (.cells #[.int .u64 (u8 bd (8 + 8 * k))] 23)).drew; have hb6 := Below.trans (hb5.mono (by omega : w2.heap.size + 1 ≤ wr.heap.size)) hb4; have HB4 := Lib.hid (hb.out.trans (hb6.mono (Nat.le_succ _))); have E4 := Lib.hid (he.out.below hb6 (Nat.lt_succ_self _)); have x1 := E4.out.cell (i := 1) rfl; have y1 := E4.out.frozen 1; clear ho4 hb4 hb5 hb6)
          | (go_simp; go_at_call 34; (with_reducible refine (HNu.out (8 + 8 * k) _ _ _ _ _ Dr.out D2.out (by omega) (by omega) (by omega)).mono ?_); rintro e w' ⟨rfl, rfl⟩))
        all_goals
          go_wp2
          go_roundw
          case rel => exact ⟨k + 1, A2, c2, by omega, by go_num, Lib.hid (E4.out.set_ 1 _), Lib.hid (OwnE.farE HO4.out (by simp) _), Lib.hid (HB4.out.setCell (Nat.le_refl _) _)⟩
          case measure => simp [intOf]; omega
      · obtain rfl : k = t := by omega
        have HI := Lib.hid (own_ints ho.out (fun i _ => u8_bd HAb.out _))
        have R3 := Lib.hid (R2.out.below hb.out R2.out.lt)
        have W3 := Lib.hid (HB2.out.trans (hb.out.mono HB2.out.size))
        have HNe := Lib.hid (fun b off (e : A' = some ⟨b, off, none⟩) => show b ≠ w.heap.size by
          have h1 := Dc.OwnE.ltB ho.out b (by rw [e]; rfl)
          have h2 := R2.out.lt
          omega)
        go_wp2_with (first
          | (refine wpList_load_row rfl 42 (.tmp 8) rfl w2.heap.size rfl 42 (aL (u8 bd 0) A' k c').toArray (0, 0) _ he.out Try.underlying42 rfl rarrInfo ?_)
          | (refine wpList_store_row rfl 42 (.tmp 4) (.tmp 48) rfl w.heap.size (aL (u8 bd 0) A' k c').toArray rfl rfl 42 _ R3.out rarrInfo rfl (by simp [Value.oneCell']) ?_))
        refine bodyPost_ret (v := .tuple #[arrV (u8 bd 0) A' k c', .int .i64 0]) (by exact res_row Try.results12 _ _ w.heap.size 42 _ (0, 0) _ _ rfl rfl (Blk.setRow R3.out (aL (u8 bd 0) A' k c')) Try.underlying42 rfl rarrInfo) rfl ?_
        unfold ArrTold
        rw [HCe.out, HF.out.1, HF.out.2, HTN.out, HBD.out]
        exact ⟨_, c', rfl, setRow_keepB W3.out (Nat.le_refl _) _, InInts.setRow HI.out (fun b off e => HNe.out b off e) _⟩
end Go.Proofs.Ytoklhjooldfcfaa.Ym
