/-
  Texts beneath the proof, one behind the other.
-/
import Derived.DeepKeys4
import Derived.Test.YtkdbgilnehjpmaaGreatQl12
import Derived.Test.YtkdbgilnehjpmaaGreatQl5
import Derived.Test.YtkdbgilnehjpmaaGreatQl1
import Derived.Test.YtkdbgilnehjpmaaGreatQl11
import Derived.Test.YtkdbgilnehjpmaaGreatQl6
import Derived.Test.YtkdbgilnehjpmaaGreatQl10
/-
  Rows of numbers held against each other; slots that a statement gathers.
-/
namespace Go.Proofs.YtkdbgilnehjpmaaGreat.Yi
open Go.ChangeShapes Go.WideShapes Go.ChangeAt Go.RowKit
open Bytes8 Blk8 Own8 OwnM OwnE OwnA LeNum Ob Rows2 Dc Yc Yp Yd Yg Yh Yj
set_option linter.unusedVariables false
set_option linter.unusedSimpArgs false
set_option maxRecDepth 100000
set_option maxHeartbeats 1000000 in
theorem samePlaces_yes (A B : Option Addr) (n c d : Nat) (f : Nat → Int) (w : World) (h1 : InInts .u64 w A n f) (h2 : InInts .u64 w B n f) (hn : n ≤ 1000000) :
    Calls Tryz.prog 33 #[.slice A n c, .slice B n d] w fun e w' => e = .returned (.bool true) ∧ Below w.heap.size w w' := by
  have HA := Lib.hid h1
  have HB := Lib.hid h2
  clear h1 h2
  go_enter Tryz.func33, Tryz.ntmps33
  go_wp2
  go_loopw [5] (fun i wr => ∃ k : Nat, k ≤ n ∧ i = .int .i64 (k : Int) ∧ Hid (Below w.heap.size w wr)) (fun i _ => n - (intOf i).toNat)
  case atStart => exact ⟨0, Nat.zero_le _, rfl, Lib.hid (Below.refl _ _)⟩
  case round =>
    obtain ⟨k, hk, rfl, hb⟩ := hrel
    by_cases hlt : k < n
    · obtain ⟨b1, o1, rfl, _, c1, _⟩ := (HA.out.below hb.out.drew) k hlt
      obtain ⟨b2, o2, rfl, _, c2, _⟩ := (HB.out.below hb.out.drew) k hlt
      have hk0 : (0 : Int) ≤ (k : Int) := by omega
      have hkn : (k : Int) < (n : Int) := by omega
      generalize f k = x at *
      go_wp2
      go_region
      all_goals
        go_wp2
        go_roundw
        case rel => exact ⟨k + 1, by omega, by go_num, Lib.hid hb.out.drew⟩
        case measure => simp [intOf]; omega
    · obtain rfl : k = n := by omega
      go_wp2
      go_ret
      exact ⟨rfl, hb.out⟩
end Go.Proofs.YtkdbgilnehjpmaaGreat.Yi
/-
  Two small laws: a row of elements behind a store elsewhere; a struct built, its cells said.
-/
namespace Go.Proofs.YtkdbgilnehjpmaaGreat.Yz
open Go.ChangeShapes Go.WideShapes Go.ChangeAt Go.RowKit
open Bytes8 Blk8 Own8 OwnM OwnE OwnA Rows2 Ob Yc Yp Yd Yg Yi
set_option linter.unusedVariables false
set_option linter.unusedSimpArgs false
theorem wpList_build_as {P : Program} {ops : Array Oper} {rest : List Oper} {o : Oper} {a : Act} {w : World} {Q : Exit → Act → World → Prop} (hg : o.guard = none) (t : TypeId) (parts : Array (Nat × Operand)) (ho : o.op = .build t parts) (cells : Array Value)
    (hb : P.built t (parts.map fun (i, x) => (i, a.eval x)).toList = some cells) (h : wpList P ops Q rest (a.put o.dst (.agg cells)) w) : wpList P ops Q (o :: rest) a w :=
  wpList_build hg t parts ho (by rw [hb]; rfl) (by rw [hb]; exact h)
end Go.Proofs.YtkdbgilnehjpmaaGreat.Yz
/-
  What the document reads of tables and arrays.
-/
namespace Go.Proofs.YtkdbgilnehjpmaaGreat.Yl
open Go.ChangeShapes Go.WideShapes Go.ChangeAt Go.RowKit
open Bytes8 Blk8 Own8 OwnM OwnE OwnA LeA LeAl LeNum LeB LeP RefA RefB Ob Oc Od Oe Og Oi Rows2 Kf Yc Yp Yd Ye Yg Yh Yj Yi
set_option linter.unusedVariables false
set_option linter.unusedSimpArgs false
set_option maxRecDepth 100000
theorem ru_z (A : Option Addr) (l : List Int) (n cap i : Nat) (z : Int) (w : World) (hb : Bytes w A l) (hL : l.length = n) (hn : n ≤ 1000000) (hi : i + 8 ≤ n) (hz : z = (i : Int)) :
    Calls Tryz.prog 123 #[.slice A n cap, .int .u64 z] w fun e w' => e = .returned (.int .u64 (u8 l i)) ∧ w = w' := by
  subst hz; exact ru_any A l n cap i w hb hL hn hi
/-- The code that the document's body tells. -/
def rcode (l : List Int) (a : Nat) (k : Int) : Int := if code l a ≠ 0 then code l a else if kindL l a ≠ k then 4 else 0
theorem ecode_r (l : List Int) (a : Nat) (k : Int) (ah ea : Nat) : ecode l a k ah ea = if rcode l a k ≠ 0 then rcode l a k else if (bodyL l a).length < ah + ea ∨ (bodyL l a).length % ea ≠ 0 then 5 else 0 := by
  unfold ecode rcode
  by_cases h1 : code l a ≠ 0
  · rw [if_pos h1, if_pos h1, if_pos h1]
  · rw [if_neg h1, if_neg h1]
    by_cases h2 : kindL l a ≠ k
    · rw [if_pos h2, if_pos h2, if_pos (by decide)]
    · rw [if_neg h2, if_neg h2]; rfl
def Rbodied (l : List Int) (a : Nat) (k : Int) (w : World) (e : Ending) (w' : World) : Prop :=
  ∃ B m cb, e = .returned (.tuple #[.slice B m cb, .int .i64 (rcode l a k)]) ∧ Below w.heap.size w w' ∧ (rcode l a k = 0 → Bytes w' B (bodyL l a) ∧ (bodyL l a).length = m ∧ m ≤ 1000000)
theorem rbody_r (A : Option Addr) (l : List Int) (n cap a : Nat) (k : Int) (w : World) (hb : Bytes w A l) (hL : l.length = n) (hn : n ≤ 1000000) (hc : n ≤ cap) (hcm : cap ≤ maxLen) (ha : a ≤ 18446744073709551615) :
    Calls Tryz.prog 122 #[.slice A n cap, .int .u64 (a : Int), .int .i64 k] w (Rbodied l a k w) := by
  refine (rbody_new A l n cap a k w hb hL hn hc hcm ha).mono fun e w' ⟨B, m, cb, h1, h2, h3⟩ => ⟨B, m, cb, h1, h2, fun h => ?_⟩
  unfold rcode at h
  by_cases h4 : code l a = 0
  · rw [if_neg (by omega)] at h
    by_cases h5 : kindL l a = k
    · obtain ⟨q1, q2, _, _, q5, _⟩ := h3 h4 h5
      exact ⟨q1, q2, q5⟩
    · rw [if_pos h5] at h; omega
  · rw [if_pos h4] at h; exact absurd h h4
theorem OwnE.farE {E : TypeId} {size : Nat} {w : World} {base : Nat} {A : Option Addr} {n c : Nat} {xs : List Value} (h : OwnE E size w base A n c xs) {a : Addr} (ha : a.block < base) (u : Value) : OwnE E size (w.setCell a u) base A n c xs :=
  ⟨by simpa using h.1, ownsRow_setCell_below h.2 ha u⟩
end Go.Proofs.YtkdbgilnehjpmaaGreat.Yl
/-
  What the document reads of arrays.
-/
namespace Go.Proofs.YtkdbgilnehjpmaaGreat.Ym
open Go.ChangeShapes Go.WideShapes Go.ChangeAt Go.RowKit
open Bytes8 Blk8 Own8 OwnM OwnE OwnA Dc LeA LeAl LeNum LeB LeP RefA RefB Ob Oc Od Oe Og Oi Rows2 Kf Yc Yp Yd Ye Yg Yh Yj Yi Yl
set_option linter.unusedVariables false
set_option linter.unusedSimpArgs false
set_option maxRecDepth 100000
theorem wordElt : Elt 23 72 1 8 (.int .u64 0) := ⟨Tryz.underlying72, by kernel_rfl, rfl, by decide⟩
theorem rarrInfo : (Tryz.prog.info? 147).map (·.size) = some 2 := by kernel_rfl
def wds (f : Nat → Int) (k : Nat) : List Value := (ints f k).map (Value.int .u64)
theorem wds_succ (f : Nat → Int) (k : Nat) : wds f (k + 1) = wds f k ++ [.int .u64 (f k)] := by unfold wds; rw [ints_succ]; simp
theorem own_ints {E : TypeId} {w : World} {base c k : Nat} {A : Option Addr} {f : Nat → Int} (h : OwnE E 1 w base A k c (wds f k)) (hf : Wd f k) : InInts .u64 w A k f := fun i hi => by
  have hl : (wds f k).length = k := by unfold wds; rw [List.length_map, ints_len]
  obtain ⟨b, rfl, _, hlt, c1⟩ := h.cell (i := i) (by omega)
  refine ⟨b, 0, rfl, hlt, ?_, ?_⟩
  · rw [Nat.zero_add, c1]; unfold wds ints; simp [hi]
  · have := hf i hi
    simp [Lit.wf, IntKind.min, IntKind.max, IntKind.signed, IntKind.bits]
    omega
set_option maxHeartbeats 8000000 in
theorem rreadArray_n (A : Option Addr) (l : List Int) (n cap a : Nat) (w : World) (hb : Bytes w A l) (hL : l.length = n) (hn : n ≤ 1000000) (hc : n ≤ cap) (hcm : cap ≤ maxLen) (ha : a ≤ 18446744073709551615) :
    Calls Tryz.prog 135 #[.slice A n cap, .int .u64 (a : Int)] w (ArrTold2 l a w) := by
  have b0 := Lib.hid ((Below.refl w.heap.size w).alloc (Nat.le_refl _) (arrC 147 0 none 0 0))
  have R0 := Lib.hid (show Blk (w.alloc (arrC 147 0 none 0 0)) w.heap.size (aL 0 none 0 0) 147 from Blk.new w _ _)
  have HBo := Lib.hid (rbody_r A l n cap a 6 (w.alloc (arrC 147 0 none 0 0)) (hb.below b0.out (Nat.le_refl _)) hL hn hc hcm ha)
  unfold Rbodied at HBo
  have HAb := Lib.hid (body_all (a := a) hb.1)
  have hno : ecode l a 6 8 8 ≠ 0 → arX l a = 0 ∧ arM l a = 0 := fun h => ⟨if_neg h, if_neg h⟩
  have hyes : ecode l a 6 8 8 = 0 → arX l a = u8 (bodyL l a) 0 ∧ arM l a = arN (bodyL l a) := fun h => ⟨if_pos h, if_pos h⟩
  have hr := ecode_r l a 6 8 8
  by_cases h1 : rcode l a 6 ≠ 0
  · rw [if_pos h1] at hr
    have HCe := Lib.hid hr
    have HF := Lib.hid (hno (by rw [hr]; exact h1))
    clear hno hyes hb hL hr
    generalize rcode l a 6 = cdd at *
    go_enter Tryz.func135, Tryz.ntmps135
    go_wp2_with (first
      | (go_at_call 122; (with_reducible refine HBo.out.mono ?_); rintro e w2 ⟨B, m, cb, rfl, hbel, _⟩; have R2 := Lib.hid (R0.out.below hbel R0.out.lt); have HB2 := Lib.hid (b0.out.trans (hbel.mono b0.out.size)); clear hbel)
      | (refine wpList_store_row rfl 147 (.tmp 4) (.tmp 18) rfl w.heap.size _ rfl rfl 147 _ R2.out rarrInfo rfl (by simp [Value.oneCell']) ?_))
    refine bodyPost_ret (v := .tuple #[arrV 0 none 0 0, .int .i64 cdd]) (by exact res_row Tryz.results135 _ _ w.heap.size 147 _ (0, 0) _ _ rfl rfl (Blk.setRow R2.out (aL 0 none 0 0)) Tryz.underlying147 rfl rarrInfo) rfl ?_
    unfold ArrTold2
    rw [HF.out.1, HF.out.2, HCe.out]
    exact ⟨none, 0, rfl, setRow_keepB HB2.out (Nat.le_refl _) _, fun i hi => absurd hi (by omega), fun b off e => by cases e⟩
  have h0 : rcode l a 6 = 0 := by omega
  rw [if_neg h1] at hr
  rw [h0] at HBo
  have HNu := Lib.hid fun (i : Nat) (z : Int) (B : Option Addr) (m cb : Nat) (W : World) (hB : Bytes W B (bodyL l a)) (hm : (bodyL l a).length = m) (hm2 : m ≤ 1000000) (hz : z = (i : Int)) (hi : i + 8 ≤ m) => ru_z B (bodyL l a) m cb i z W hB hm hm2 hi hz
  have HCd := Lib.hid hr
  have HNo := Lib.hid hno
  have HYe := Lib.hid hyes
  have HTn := Lib.hid (show arN (bodyL l a) = ((bodyL l a).length - 8) / 8 from rfl)
  clear hno hyes hb hL h1 h0 hr
  generalize hbd0 : bodyL l a = bd at *
  have HBD := Lib.hid hbd0
  clear hbd0
  go_enter Tryz.func135, Tryz.ntmps135
  go_upto_region 4 with (go_at_call 122; (with_reducible refine HBo.out.mono ?_); rintro e w2 ⟨B, m, cb, rfl, hbel, hbd⟩)
  obtain ⟨d1, d2, d5⟩ := hbd (by first | rfl | trivial)
  have R2 := Lib.hid (R0.out.below hbel R0.out.lt)
  have HB2 := Lib.hid (b0.out.trans (hbel.mono b0.out.size))
  have D1 := Lib.hid d1
  have D2 := Lib.hid d2
  clear d1 d2 hbel hbd
  have hsz := D2.out
  by_cases hbad : m < 16 ∨ m % 8 ≠ 0
  · have HCe := Lib.hid (HCd.out.trans (if_pos (by rw [D2.out]; omega)))
    have HF := Lib.hid (HNo.out (by rw [HCe.out]; decide))
    by_cases hb1 : m < 16
    · have e1 : (m : Int) < 16 := by omega
      clear hsz hbad
      go_wp2_with (refine wpList_store_row rfl 147 (.tmp 4) (.tmp 29) rfl w.heap.size _ rfl rfl 147 _ R2.out rarrInfo rfl (by simp [Value.oneCell']) ?_)
      refine bodyPost_ret (v := .tuple #[arrV 0 none 0 0, .int .i64 5]) (by exact res_row Tryz.results135 _ _ w.heap.size 147 _ (0, 0) _ _ rfl rfl (Blk.setRow R2.out (aL 0 none 0 0)) Tryz.underlying147 rfl rarrInfo) rfl ?_
      unfold ArrTold2
      rw [HF.out.1, HF.out.2, HCe.out]
      exact ⟨none, 0, rfl, setRow_keepB HB2.out (Nat.le_refl _) _, fun i hi => absurd hi (by omega), fun b off e => by cases e⟩
    · have e1 : ¬ (m : Int) < 16 := by omega
      obtain ⟨R, hR⟩ : ∃ R : Int, R = ((m % 8 : Nat) : Int) := ⟨_, rfl⟩
      have e2 : (m : Int).tmod 8 = R := by rw [Int.tmod_eq_emod_of_nonneg (by omega), hR]; omega
      have e2' : (m : Int) % 8 = R := by rw [hR]; omega
      have e3 : (R == 0) = false := by simp; omega
      have e4 : (R != 0) = true := by simp; omega
      have e5 : ¬ R = 0 := by omega
      clear hsz hbad hR
      go_wp2_with (refine wpList_store_row rfl 147 (.tmp 4) (.tmp 29) rfl w.heap.size _ rfl rfl 147 _ R2.out rarrInfo rfl (by simp [Value.oneCell']) ?_)
      refine bodyPost_ret (v := .tuple #[arrV 0 none 0 0, .int .i64 5]) (by exact res_row Tryz.results135 _ _ w.heap.size 147 _ (0, 0) _ _ rfl rfl (Blk.setRow R2.out (aL 0 none 0 0)) Tryz.underlying147 rfl rarrInfo) rfl ?_
      unfold ArrTold2
      rw [HF.out.1, HF.out.2, HCe.out]
      exact ⟨none, 0, rfl, setRow_keepB HB2.out (Nat.le_refl _) _, fun i hi => absurd hi (by omega), fun b off e => by cases e⟩
  · have HCe := Lib.hid (HCd.out.trans (if_neg (by rw [D2.out]; omega)))
    have HF := Lib.hid (HYe.out HCe.out)
    obtain ⟨t, ht⟩ : ∃ t, m = 8 + 8 * t := ⟨(m - 8) / 8, by omega⟩
    subst ht
    have htn : arN bd = t := by rw [HTn.out, D2.out]; omega
    have HTN := Lib.hid htn
    have e1 : ¬ ((8 + 8 * t : Nat) : Int) < 16 := by omega
    have e2 : ((8 + 8 * t : Nat) : Int).tmod 8 = 0 := by rw [Int.tmod_eq_emod_of_nonneg (by omega)]; omega
    have e2' : ((8 + 8 * t : Nat) : Int) % 8 = 0 := by omega
    have X0 := Lib.hid (Blk.new w2 (aL (u8 bd 0) none 0 0) 147)
    have BX := Lib.hid ((Below.refl w2.heap.size w2).alloc (Nat.le_refl _) (.cells (aL (u8 bd 0) none 0 0).toArray 147))
    clear hsz hbad htn
    go_wp2_with (go_at_call 123; (with_reducible refine (HNu.out 0 0 _ _ _ _ D1.out D2.out (by omega) rfl (by omega)).mono ?_); rintro e w' ⟨rfl, rfl⟩)
    go_loopw [9] (fun i wr => ∃ (k : Nat) (A' : Option Addr) (c' : Nat), k ≤ t ∧ i = .int .i64 ((8 + 8 * k : Nat) : Int) ∧ Hid (Blk wr w2.heap.size (aL (u8 bd 0) A' k c') 147) ∧ Hid (OwnE 23 1 wr (w2.heap.size + 1) A' k c' (wds (arF bd) k)) ∧ Hid (Below w2.heap.size w2 wr)) (fun i _ => 8 + 8 * t - (intOf i).toNat)
    case atStart => exact ⟨0, none, 0, Nat.zero_le _, rfl, X0, OwnE.nil _ _ (by simp), BX⟩
    case round =>
      obtain ⟨k, A', c', hk, rfl, he, ho, hb⟩ := hrel
      have e0 := he.out.cell (i := 0) rfl
      have e1c := he.out.cell (i := 1) rfl
      by_cases hlt : k < t
      · have Dr := Lib.hid (D1.out.below hb.out (Nat.le_refl _)).drew
        have HWs := Lib.hid (wds_succ (arF bd) k)
        have HAf := Lib.hid (show arF bd k = u8 bd (8 + 8 * k) from rfl)
        have hbo := Lib.hid (show Blk (wr.alloc (.cells #[.int .u64 (u8 bd (8 + 8 * k))] 23)).drew wr.heap.size [.int .u64 (u8 bd (8 + 8 * k))] 23 from Blk.new wr _ _)
        have hgw := he.out.lt
        have Na := Lib.hid ((Below.refl wr.heap.size wr).alloc (Nat.le_refl _) (.cells #[.int .u64 (u8 bd (8 + 8 * k))] 23)).drew
        have u1 : wr.drew.cell? ⟨w2.heap.size, 1, none⟩ = some (.slice A' k c') := e1c
        have v1 := (Na.out.cell (p := ⟨w2.heap.size, 1, none⟩) hgw).trans e1c
        have hlt' : ((8 + 8 * k : Nat) : Int) < ((8 + 8 * t : Nat) : Int) := by omega
        have hwu : IntKind.u64.wrap (8 + 8 * (k : Int)) = 8 + 8 * (k : Int) := by rw [IntKind.wrap_u64]; omega
        go_wp2_with fail
        go_region_law (first
          | (refine step_append_elt wordElt (o := ⟨some 46, _, _, _, _, _⟩) rfl (.tmp 40) (.tmp 45) rfl (w2.heap.size + 1) A' k c' _ rfl ((ho.out.alloc (.cells #[.int .u64 (u8 bd (8 + 8 * k))] 23)).drew) ⟨wr.heap.size, 0, none⟩ 1 1 [.int .u64 (u8 bd (8 + 8 * k))] rfl rfl (Blk.news hbo.out) (by intro u hu; simp at hu; subst hu; rfl) (by omega) (by omega) ?_; intro A2 c2 w4 ho4 hb4; rw [← HAf.out, ← HWs.out] at ho4; have HO4 := Lib.hid ho4; have hb5 := ((Below.refl wr.heap.size wr).alloc (Nat.le_refl _) (.cells #[.int .u64 (u8 bd (8 + 8 * k))] 23)).drew; have hb6 := Below.trans (hb5.mono (by omega : w2.heap.size + 1 ≤ wr.heap.size)) hb4; have HB4 := Lib.hid (hb.out.trans (hb6.mono (Nat.le_succ _))); have E4 := Lib.hid (he.out.below hb6 (Nat.lt_succ_self _)); have x1 := E4.out.cell (i := 1) rfl; have y1 := E4.out.frozen 1; clear ho4 hb4 hb5 hb6)
          | (go_simp; go_at_call 123; (with_reducible refine (HNu.out (8 + 8 * k) _ _ _ _ _ Dr.out D2.out (by omega) (by omega) (by omega)).mono ?_); rintro e w' ⟨rfl, rfl⟩))
        all_goals
          go_wp2
          go_roundw
          case rel => exact ⟨k + 1, A2, c2, by omega, by go_num, Lib.hid (E4.out.set_ 1 _), Lib.hid (OwnE.farE HO4.out (by simp) _), Lib.hid (HB4.out.setCell (Nat.le_refl _) _)⟩
          case measure => simp [intOf]; omega
      · obtain rfl : k = t := by omega
        have HI := Lib.hid (own_ints ho.out (fun i _ => u8_bd HAb.out _))
        have R3 := Lib.hid (R2.out.below hb.out R2.out.lt)
        have W3 := Lib.hid (HB2.out.trans (hb.out.mono HB2.out.size))
        have HNe := Lib.hid (fun b off (e : A' = some ⟨b, off, none⟩) => show b ≠ w.heap.size by
          have h1 := Dc.OwnE.ltB ho.out b (by rw [e]; rfl)
          have h2 := R2.out.lt
          omega)
        have HNw := Lib.hid (fun b off (e : A' = some ⟨b, off, none⟩) => show w.heap.size ≤ b by
          have h1 := Dc.OwnE.ltB ho.out b (by rw [e]; rfl)
          have h2 := R2.out.lt
          omega)
        go_wp2_with (first
          | (refine wpList_load_row rfl 147 (.tmp 8) rfl w2.heap.size rfl 147 (aL (u8 bd 0) A' k c').toArray (0, 0) _ he.out Tryz.underlying147 rfl rarrInfo ?_)
          | (refine wpList_store_row rfl 147 (.tmp 4) (.tmp 48) rfl w.heap.size (aL (u8 bd 0) A' k c').toArray rfl rfl 147 _ R3.out rarrInfo rfl (by simp [Value.oneCell']) ?_))
        refine bodyPost_ret (v := .tuple #[arrV (u8 bd 0) A' k c', .int .i64 0]) (by exact res_row Tryz.results135 _ _ w.heap.size 147 _ (0, 0) _ _ rfl rfl (Blk.setRow R3.out (aL (u8 bd 0) A' k c')) Tryz.underlying147 rfl rarrInfo) rfl ?_
        unfold ArrTold2
        rw [HCe.out, HF.out.1, HF.out.2, HTN.out, HBD.out]
        exact ⟨_, c', rfl, setRow_keepB W3.out (Nat.le_refl _) _, InInts.setRow HI.out (fun b off e => HNe.out b off e) _, HNw.out⟩
end Go.Proofs.YtkdbgilnehjpmaaGreat.Ym
/-
  What the document reads of an entry.
-/
namespace Go.Proofs.YtkdbgilnehjpmaaGreat.Yn
open Go.ChangeShapes Go.WideShapes Go.ChangeAt Go.RowKit
open Bytes8 Blk8 Own8 OwnM OwnE OwnA Dc LeA LeAl LeNum LeB LeP RefA RefB Ob Oc Od Oe Og Oi Rows2 Kf Yc Yp Yd Ye Yg Yh Yj Yi Yl Ym
set_option linter.unusedVariables false
set_option linter.unusedSimpArgs false
set_option maxRecDepth 100000
end Go.Proofs.YtkdbgilnehjpmaaGreat.Yn
/-
  The document's writer's small calls: eight bytes put into its image; the room of an array.
-/
namespace Go.Proofs.YtkdbgilnehjpmaaGreat.Mb
open Go.ChangeShapes Go.WideShapes Go.ChangeAt Go.RowKit
open Bytes8 Blk8 Own8 OwnM OwnE LeA LeNum LeB LeP RefA RefB Ob Oc Od Ga Ma Kf
set_option linter.unusedVariables false
set_option linter.unusedSimpArgs false
set_option maxRecDepth 100000
theorem room_any (k : Nat) (w : World) : Calls Tryz.prog 52 #[.int .i64 (k : Int)] w fun e w' => e = .returned (.int .i64 (roomN k : Nat)) ∧ w = w' := by
  by_cases h : 6 < k
  · have d1 : decide ((6 : Int) < (k : Int)) = true := by simp; omega
    rw [show roomN k = 256 by unfold roomN; rw [if_pos h]]
    go_enter Tryz.func52, Tryz.ntmps52
    go_wp2
    go_ret
    exact ⟨rfl, rfl⟩
  · rcases k with _ | _ | _ | _ | _ | _ | _ | k
    all_goals first
      | omega
      | (go_enter Tryz.func52, Tryz.ntmps52
         go_wp2
         go_ret
         exact ⟨rfl, rfl⟩)
/-- A byte of a row of the call's own is set. -/
theorem own_set {w : World} {base g n c : Nat} {l : List Int} (h : Own w base (some ⟨g, 0, none⟩) n c l) (i : Nat) {x : Int} (h0 : 0 ≤ x) (h1 : x < 256) : Own (w.setCell ⟨g, i, none⟩ (.int .u8 x)) base (some ⟨g, 0, none⟩) n c (l.set i x) := by
  refine ⟨h.1.set i h0 h1, by rw [List.length_set]; exact h.2.1, by simpa using h.2.2.1, ?_⟩
  have := (h.2.2.2.stored i (.int .u8 x)).1
  rw [List.map_set]
  exact this
theorem own_lt {w : World} {base g n c : Nat} {l : List Int} (h : Own w base (some ⟨g, 0, none⟩) n c l) : base ≤ g ∧ g < w.heap.size := h.lt g rfl
/-- What a call leaves that sets bytes of one row alone. -/
structure Put8 (bb : Nat) (w w' : World) : Prop where
  kept : KeptF (One bb) w w'
  size : w'.heap.size = w.heap.size
theorem Put8.refl (bb : Nat) (w : World) : Put8 bb w w := ⟨KeptF.refl _ _, rfl⟩
theorem Put8.set {bb : Nat} {w0 w : World} (h : Put8 bb w0 w) (i : Nat) (u : Value) : Put8 bb w0 (w.setCell ⟨bb, i, none⟩ u) := ⟨h.kept.setCell (p := ⟨bb, i, none⟩) (fun _ => (rfl : bb = bb)) u, by simpa using h.size⟩
theorem Put8.trans {bb : Nat} {a b c : World} (h : Put8 bb a b) (k : Put8 bb b c) : Put8 bb a c := ⟨h.kept.trans k.kept fun _ _ h => h, k.size.trans h.size⟩
theorem blk_keptF {F : Nat → Prop} {w w' : World} {g : Nat} {vs : List Value} {T : TypeId} (h : Blk w g vs T) (hk : KeptF F w w') (hF : ¬ F g) : Blk w' g vs T := (hk.block g h.lt hF).trans h
theorem put_any (g bb cb n a : Nat) (cs : List Value) (T : TypeId) (l : List Int) (v : Int) (B : Nat) (w : World) (hs : Blk w g cs T) (h3 : cs[143]? = some (.slice (some ⟨bb, 0, none⟩) n cb)) (hb : Own w B (some ⟨bb, 0, none⟩) n cb l) (hne : g ≠ bb) (ha : a + 8 ≤ n) (hn : n ≤ 4000000) :
    Calls Tryz.prog 152 #[.pointer (some ⟨g, 0, none⟩), .int .u64 (a : Int), .int .u64 v] w fun e w' => e = .returned (.tuple #[]) ∧ Own w' B (some ⟨bb, 0, none⟩) n cb (put8 l a v) ∧ Put8 bb w w' := by
  have HS := Lib.hid hs
  have H3 := Lib.hid h3
  have HL := Lib.hid hb.2.1
  clear hs h3
  go_enter Tryz.func152, Tryz.ntmps152
  go_wp2
  go_loopw [6] (fun i wr => ∃ k : Nat, k ≤ 8 ∧ i = .int .i64 (k : Int) ∧ Hid (Own wr B (some ⟨bb, 0, none⟩) n cb (over l a (lowB v k))) ∧ Hid (Put8 bb w wr)) (fun i _ => 8 - (intOf i).toNat)
  case atStart => exact ⟨0, Nat.zero_le _, rfl, Lib.hid (by rw [show lowB v 0 = [] from rfl, over_nil]; exact hb), Lib.hid (Put8.refl _ _)⟩
  case round =>
    obtain ⟨k, hk, rfl, hO, hP⟩ := hrel
    by_cases hlt : k < 8
    · have c3 := (blk_keptF HS.out hP.out.kept hne).cell H3.out
      have hcell := hO.out.2.2.2.cellAt (a + k) (by omega)
      have hfr := hO.out.2.2.2.frozenAt (a + k)
      obtain ⟨z, hz2⟩ : ∃ z, (over l a (lowB v k))[a + k]? = some z := ⟨_, List.getElem?_eq_getElem (by rw [hO.out.2.1]; omega)⟩
      rw [List.getElem?_map, hz2] at hcell
      clear hz2
      have HSt := Lib.hid (own_set hO.out (a + k) (Int.emod_nonneg (v / 256 ^ k) (by decide : (256 : Int) ≠ 0)) (Int.emod_lt_of_pos (v / 256 ^ k) (by decide)))
      rw [show (over l a (lowB v k)).set (a + k) (v / 256 ^ k % 256) = over l a (lowB v (k + 1)) by
        have e := over_step l a (lowB v k) (v / 256 ^ k % 256) (by rw [lowB_len, HL.out]; omega)
        rw [lowB_len] at e
        rw [lowB_succ, e]] at HSt
      rw [← two_pow_8] at HSt
      have hpk : a + k < n := by omega
      generalize hpk2 : a + k = pk at *
      go_wp2
      go_roundw
      case rel => exact ⟨k + 1, by omega, by go_num, HSt, Lib.hid (hP.out.set _ _)⟩
      case measure => simp [intOf]; omega
    · obtain rfl : k = 8 := by omega
      go_wp2
      go_end0
      exact ⟨rfl, hO.out, hP.out⟩
theorem put_at (g bb cb n a : Nat) (z : Int) (hz : z = (a : Int)) (cs : List Value) (T : TypeId) (l : List Int) (v : Int) (B : Nat) (w : World) (hs : Blk w g cs T) (h3 : cs[143]? = some (.slice (some ⟨bb, 0, none⟩) n cb)) (hb : Own w B (some ⟨bb, 0, none⟩) n cb l) (hne : g ≠ bb) (ha : a + 8 ≤ n) (hn : n ≤ 4000000) :
    Calls Tryz.prog 152 #[.pointer (some ⟨g, 0, none⟩), .int .u64 z, .int .u64 v] w fun e w' => e = .returned (.tuple #[]) ∧ Own w' B (some ⟨bb, 0, none⟩) n cb (put8 l a v) ∧ Put8 bb w w' := by
  subst hz; exact put_any g bb cb n a cs T l v B w hs h3 hb hne ha hn
end Go.Proofs.YtkdbgilnehjpmaaGreat.Mb
