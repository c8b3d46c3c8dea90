/-
  What the document reads of tables and arrays.
-/
import Derived.Test.YtoklhjooldfcfaaYh
import Derived.Test.YtoklhjooldfcfaaYk
import Derived.Test.YtoklhjooldfcfaaYi
namespace Go.Proofs.Ytoklhjooldfcfaa.Yl
open Go.ChangeShapes Go.WideShapes Go.ChangeAt Go.RowKit
open Bytes8 Blk8 Own8 OwnM OwnE OwnA LeA LeAl LeNum LeB LeP RefA RefB Ob Oc Od Oe Og Oi Rows2 Kf Yc Yp Yd Ye Yg Yh Yj Yi
set_option linter.unusedVariables false
set_option linter.unusedSimpArgs false
set_option maxRecDepth 100000

theorem rslotElt : Elt 60 48 2 16 (.agg #[.int .u64 0, .int .u64 0]) := ⟨Try.underlying48, by kernel_rfl, rfl, by decide⟩
theorem ru_z (A : Option Addr) (l : List Int) (n cap i : Nat) (z : Int) (w : World) (hb : Bytes w A l) (hL : l.length = n) (hn : n ≤ 1000000) (hi : i + 8 ≤ n) (hz : z = (i : Int)) :
    Calls Try.prog 34 #[.slice A n cap, .int .u64 z] w fun e w' => e = .returned (.int .u64 (u8 l i)) ∧ w = w' := by
  subst hz; exact ru_any A l n cap i w hb hL hn hi
/-- The code that the document's body tells. -/
def rcode (l : List Int) (a : Nat) (k : Int) : Int := if code l a ≠ 0 then code l a else if kindL l a ≠ k then 4 else 0
theorem ecode_r (l : List Int) (a : Nat) (k : Int) (ah ea : Nat) : ecode l a k ah ea = if rcode l a k ≠ 0 then rcode l a k else if (bodyL l a).length < ah + ea ∨ (bodyL l a).length % ea ≠ 0 then 5 else 0 := by
  unfold ecode rcode
  by_cases h1 : code l a ≠ 0
  · rw [if_pos h1, if_pos h1, if_pos h1]
  · rw [if_neg h1, if_neg h1]
    by_cases h2 : kindL l a ≠ k
    · rw [if_pos h2, if_pos h2, if_pos (by decide)]
    · rw [if_neg h2, if_neg h2]; rfl
def Rbodied (l : List Int) (a : Nat) (k : Int) (w : World) (e : Ending) (w' : World) : Prop :=
  ∃ B m cb, e = .returned (.tuple #[.slice B m cb, .int .i64 (rcode l a k)]) ∧ Below w.heap.size w w' ∧ (rcode l a k = 0 → Bytes w' B (bodyL l a) ∧ (bodyL l a).length = m ∧ m ≤ 1000000)
theorem rbody_r (A : Option Addr) (l : List Int) (n cap a : Nat) (k : Int) (w : World) (hb : Bytes w A l) (hL : l.length = n) (hn : n ≤ 1000000) (hc : n ≤ cap) (hcm : cap ≤ maxLen) (ha : a ≤ 18446744073709551615) :
    Calls Try.prog 33 #[.slice A n cap, .int .u64 (a : Int), .int .i64 k] w (Rbodied l a k w) := by
  refine (rbody_new A l n cap a k w hb hL hn hc hcm ha).mono fun e w' ⟨B, m, cb, h1, h2, h3⟩ => ⟨B, m, cb, h1, h2, fun h => ?_⟩
  unfold rcode at h
  by_cases h4 : code l a = 0
  · rw [if_neg (by omega)] at h
    by_cases h5 : kindL l a = k
    · obtain ⟨q1, q2, _, _, q5, _⟩ := h3 h4 h5
      exact ⟨q1, q2, q5⟩
    · rw [if_pos h5] at h; omega
  · rw [if_pos h4] at h; exact absurd h h4

set_option maxHeartbeats 8000000 in
theorem rreadTable_at (A : Option Addr) (l : List Int) (n cap a : Nat) (kd : Int) (w : World) (hb : Bytes w A l) (hL : l.length = n) (hn : n ≤ 1000000) (hc : n ≤ cap) (hcm : cap ≤ maxLen) (ha : a ≤ 18446744073709551615) (h45 : kd = 4 ∨ kd = 5) :
    Calls Try.prog 14 #[.slice A n cap, .int .u64 (a : Int), .int .i64 kd] w (TabTold l a kd w) := by
  have HBo := Lib.hid (rbody_r A l n cap a kd w hb hL hn hc hcm ha)
  unfold Rbodied at HBo
  have HAb := Lib.hid (body_all (a := a) hb.1)
  have htk : isTab kd = true := by rcases h45 with rfl | rfl <;> rfl
  have hcd : tabC l a kd = ecode l a kd 0 16 := by unfold tabC; rw [if_pos htk]
  have hno : tabC l a kd ≠ 0 → taNum l a kd = 0 := fun h => if_neg h
  have hyes : tabC l a kd = 0 → taNum l a kd = taN (bodyL l a) := fun h => if_pos h
  have hr := ecode_r l a kd 0 16
  by_cases h1 : rcode l a kd ≠ 0
  · rw [if_pos h1] at hr
    have HCe := Lib.hid (hcd.trans hr)
    have HF := Lib.hid (hno (by rw [HCe.out]; exact h1))
    clear hcd hno hyes hb hL hr
    generalize rcode l a kd = cdd at *
    rcases h45 with rfl | rfl
    all_goals
      go_enter Try.func14, Try.ntmps14
      go_wp2_with (go_at_call 33; (with_reducible refine HBo.out.mono ?_); rintro e w2 ⟨B, m, cb, rfl, hbel, _⟩; have HB2 := Lib.hid hbel; clear hbel)
      refine bodyPost_ret (v := .tuple #[.slice none 0 0, .int .i64 cdd]) (by simp [results, Try.results14, go_sem, Result.andThen]) rfl ?_
      unfold TabTold
      rw [HCe.out, HF.out]
      exact ⟨none, 0, rfl, HB2.out, in2_none _ _ _ _⟩
  have h0 : rcode l a kd = 0 := by omega
  rw [if_neg h1] at hr
  rw [h0] at HBo
  have HNu := Lib.hid fun (i : Nat) (z : Int) (B : Option Addr) (m cb : Nat) (W : World) (hB : Bytes W B (bodyL l a)) (hm : (bodyL l a).length = m) (hm2 : m ≤ 1000000) (hz : z = (i : Int)) (hi : i + 8 ≤ m) => ru_z B (bodyL l a) m cb i z W hB hm hm2 hi hz
  have HCd := Lib.hid (hcd.trans hr)
  have HNo := Lib.hid hno
  have HYe := Lib.hid hyes
  have HTn := Lib.hid (show taN (bodyL l a) = (bodyL l a).length / 16 from rfl)
  clear hcd hno hyes hb hL h1 h0 hr
  generalize hbd0 : bodyL l a = bd at *
  have HBD := Lib.hid hbd0
  clear hbd0
  rcases h45 with rfl | rfl
  all_goals
    go_enter Try.func14, Try.ntmps14
    go_upto_region 6 with (go_at_call 33; (with_reducible refine HBo.out.mono ?_); rintro e w2 ⟨B, m, cb, rfl, hbel, hbd⟩)
    obtain ⟨d1, d2, d5⟩ := hbd (by first | rfl | trivial)
    have HB2 := Lib.hid hbel
    have D1 := Lib.hid d1
    have D2 := Lib.hid d2
    clear d1 d2 hbel hbd
    have hsz := D2.out
    by_cases hbad : m < 16 ∨ m % 16 ≠ 0
    · have HCe := Lib.hid (HCd.out.trans (if_pos (by rw [D2.out]; omega)))
      have HF := Lib.hid (HNo.out (by rw [HCe.out]; decide))
      by_cases hb1 : m < 16
      · have e1 : (m : Int) < 16 := by omega
        clear hsz hbad
        go_wp2
        refine bodyPost_ret (v := .tuple #[.slice none 0 0, .int .i64 5]) (by simp [results, Try.results14, go_sem, Result.andThen]) rfl ?_
        unfold TabTold
        rw [HCe.out, HF.out]
        exact ⟨none, 0, rfl, HB2.out, in2_none _ _ _ _⟩
      · have e1 : ¬ (m : Int) < 16 := by omega
        obtain ⟨R, hR⟩ : ∃ R : Int, R = ((m % 16 : Nat) : Int) := ⟨_, rfl⟩
        have e2 : (m : Int).tmod 16 = R := by rw [Int.tmod_eq_emod_of_nonneg (by omega), hR]; omega
        have e2' : (m : Int) % 16 = R := by rw [hR]; omega
        have e3 : (R == 0) = false := by simp; omega
        have e4 : (R != 0) = true := by simp; omega
        have e5 : ¬ R = 0 := by omega
        clear hsz hbad hR
        go_wp2
        refine bodyPost_ret (v := .tuple #[.slice none 0 0, .int .i64 5]) (by simp [results, Try.results14, go_sem, Result.andThen]) rfl ?_
        unfold TabTold
        rw [HCe.out, HF.out]
        exact ⟨none, 0, rfl, HB2.out, in2_none _ _ _ _⟩
    · have HCe := Lib.hid (HCd.out.trans (if_neg (by rw [D2.out]; omega)))
      have HF := Lib.hid (HYe.out HCe.out)
      obtain ⟨t, ht⟩ : ∃ t, m = 16 * t := ⟨m / 16, by omega⟩
      subst ht
      have htn : taN bd = t := by rw [HTn.out, D2.out]; omega
      have HTN := Lib.hid htn
      have e1 : ¬ ((16 * t : Nat) : Int) < 16 := by omega
      have e2 : ((16 * t : Nat) : Int).tmod 16 = 0 := by rw [Int.tmod_eq_emod_of_nonneg (by omega)]; omega
      have e2' : ((16 * t : Nat) : Int) % 16 = 0 := by omega
      clear hsz hbad htn
      go_wp2_with fail
      go_loopw [10, 11] (fun z i wr => ∃ (k : Nat) (A' : Option Addr) (c' : Nat), k ≤ t ∧ z = .slice A' k c' ∧ i = .int .i64 ((16 * k : Nat) : Int) ∧ Hid (OwnE 60 2 wr w2.heap.size A' k c' (two (taA bd) (taB bd) k)) ∧ Hid (Below w2.heap.size w2 wr)) (fun _ i _ => 16 * t - (intOf i).toNat)
      case atStart => exact ⟨0, none, 0, Nat.zero_le _, rfl, rfl, OwnE.nil _ _ (Nat.le_refl _), Lib.hid (Below.refl _ _)⟩
      case round =>
        obtain ⟨k, A', c', hk, rfl, rfl, ho, hb⟩ := hrel
        by_cases hlt : k < t
        · have Dr := Lib.hid (D1.out.below hb.out (Nat.le_refl _))
          have hV := two_succ (taA bd) (taB bd) k
          have hp1 : taA bd k = u8 bd (16 * k) := rfl
          have hp2 : taB bd k = u8 bd (16 * k + 8) := rfl
          rw [hp1, hp2] at hV
          have HV := Lib.hid hV
          have hlt' : ((16 * k : Nat) : Int) < ((16 * t : Nat) : Int) := by omega
          have hsz2 := hb.out.size
          clear hV hp1 hp2
          go_wp2_with (first
            | (go_at_call 34; (with_reducible refine (HNu.out (16 * k) _ _ _ _ _ Dr.out D2.out (by omega) (by omega) (by omega)).mono ?_); rintro e w' ⟨rfl, rfl⟩)
            | (go_at_call 34; (with_reducible refine (HNu.out (16 * k + 8) _ _ _ _ _ Dr.out D2.out (by omega) (by omega) (by omega)).mono ?_); rintro e w' ⟨rfl, rfl⟩)
            | (at_builtin; refine wpList_append_elt rslotElt rfl (.tmp 43) (.tmp 54) rfl w2.heap.size A' k c' _ rfl (ho.out.alloc _) ⟨wr.heap.size, 0, none⟩ 1 1 [.int .u64 (u8 bd (16 * k)), .int .u64 (u8 bd (16 * k + 8))] rfl rfl (Blk.news (Blk.new wr [.int .u64 (u8 bd (16 * k)), .int .u64 (u8 bd (16 * k + 8))] 60)) (by intro u hu; simp at hu; rcases hu with rfl | rfl <;> rfl) (by omega) (by omega) ?_; intro A2 c2 w4 ho4 hb4; have HO4 := Lib.hid ho4; have HB4 := Lib.hid hb4; clear ho4 hb4))
          go_roundw
          case rel =>
            refine ⟨k + 1, A2, c2, by omega, rfl, by go_num, ?_, Lib.hid ((hb.out.alloc hsz2 _).trans HB4.out)⟩
            rw [HV.out]
            exact HO4
          case measure => simp [intOf]; omega
        · obtain rfl : k = t := by omega
          have HI := Lib.hid (own_in2 ho.out (fun i _ => u8_bd HAb.out _) (fun i _ => u8_bd HAb.out _))
          go_wp2
          refine bodyPost_ret (v := .tuple #[.slice A' k c', .int .i64 0]) (by simp [results, Try.results14, go_sem, Result.andThen]) rfl ?_
          unfold TabTold
          rw [HCe.out, HF.out, HTN.out, HBD.out]
          exact ⟨_, c', rfl, HB2.out.trans (hb.out.mono HB2.out.size), HI.out⟩

theorem OwnE.farE {E : TypeId} {size : Nat} {w : World} {base : Nat} {A : Option Addr} {n c : Nat} {xs : List Value} (h : OwnE E size w base A n c xs) {a : Addr} (ha : a.block < base) (u : Value) : OwnE E size (w.setCell a u) base A n c xs :=
  ⟨by simpa using h.1, ownsRow_setCell_below h.2 ha u⟩
theorem rreadTable_any (A : Option Addr) (l : List Int) (n cap a : Nat) (kd : Int) (w : World) (hb : Bytes w A l) (hL : l.length = n) (hn : n ≤ 1000000) (hc : n ≤ cap) (hcm : cap ≤ maxLen) (ha : a ≤ 18446744073709551615) :
    Calls Try.prog 14 #[.slice A n cap, .int .u64 (a : Int), .int .i64 kd] w (TabTold l a kd w) := by
  by_cases h45 : kd = 4 ∨ kd = 5
  · exact rreadTable_at A l n cap a kd w hb hL hn hc hcm ha h45
  have h2 : ¬ kd = 4 := fun h => h45 (.inl h)
  have h3 : ¬ kd = 5 := fun h => h45 (.inr h)
  have h4 : (kd != 4) = true := by simpa using h2
  have h5 : (kd != 5) = true := by simpa using h3
  have htk : isTab kd = false := by unfold isTab; simp; exact ⟨h2, h3⟩
  have hcd : tabC l a kd = 1 := by unfold tabC; rw [htk]; rfl
  have HCe := Lib.hid hcd
  have HF := Lib.hid (show taNum l a kd = 0 from if_neg (by rw [hcd]; decide))
  clear hb hL h45 htk hcd
  go_enter Try.func14, Try.ntmps14
  go_wp2
  refine bodyPost_ret (v := .tuple #[.slice none 0 0, .int .i64 1]) (by simp [results, Try.results14, go_sem, Result.andThen]) rfl ?_
  unfold TabTold
  rw [HCe.out, HF.out]
  exact ⟨none, 0, rfl, Below.refl _ _, in2_none _ _ _ _⟩
end Go.Proofs.Ytoklhjooldfcfaa.Yl
