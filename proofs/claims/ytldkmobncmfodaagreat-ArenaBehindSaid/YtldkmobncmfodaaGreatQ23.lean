/-
  Texts beneath the proof, one behind the other.
-/
import Derived.Deep.RegionHeld3
import Derived.Test.YtldkmobncmfodaaGreatQ22

/-
  The document's writer: the object of a name.
-/
namespace Go.Proofs.YtldkmobncmfodaaGreat.Mg
open Go.ChangeShapes Go.WideShapes Go.ChangeAt Go.RowKit
open Bytes8 Blk8 Own8 OwnM OwnA OwnE LeA LeNum LeB LeP RefA RefB Ob Oc Od Oj Ga Ma Kf Mb Mc Md Me Mf Fa Fb Fc Sg Dc
set_option linter.unusedVariables false
set_option linter.unusedSimpArgs false
set_option maxRecDepth 100000

def look (l : List (Kn × Value)) (s : List Int) : Option (Kn × Value) := l.find? fun k => k.1.text == s
theorem look_at {l : List (Kn × Value)} {s : List Int} {k : Nat} (hk : k < l.length) (h : l[k].1.text = s) (h0 : ∀ j (hj : j < l.length), j < k → l[j].1.text ≠ s) : look l s = some l[k] := by
  unfold look
  rw [List.find?_eq_some_iff_getElem]
  exact ⟨by simp [h], k, hk, rfl, fun j hj => by simpa using h0 j (by omega) hj⟩
theorem look_none {l : List (Kn × Value)} {s : List Int} (h0 : ∀ j (hj : j < l.length), l[j].1.text ≠ s) : look l s = none := by
  unfold look
  rw [List.find?_eq_none]
  intro x hx
  obtain ⟨j, hj, rfl⟩ := List.mem_iff_getElem.1 hx
  simpa using h0 j hj
/-- All that a name's object asks of the writer. -/
structure FieldIn (w : World) (B g bb cb : Nat) (S : Sl) (F : Option Addr) (nf cf : Nat) (l : List (Kn × Value)) (m : Mk) : Prop where
  st : MkB w B g bb cb S m
  sf : S.f = .slice F nf cf
  row : OwnK w B F nf cf l
  off : ∀ k, ownB F = some k → k ≠ g ∧ k ≠ bb
  txt : ∀ p ∈ l, AllB p.1.text
def Cf.file (C : Cf) : List Int := idL C.F
def Mk.sum (m : Mk) (s : List Int) : Int := ofS m.C.keyed (Cf.file m.C) s
/-- The slot of a name. -/
def Mk.fslot (m : Mk) (s : List Int) : Nat := (Mk.sum m s % (m.C.fs : Int)).toNat
def Mk.fobj (m : Mk) (s : List Int) : List Int := objB 2 (nums [Mk.sum m s, 0, 0] ++ s)
/-- A name gets its object. -/
def Mk.named (m : Mk) (ks : List Kn) (tf : Nat) (s : List Int) : Mk :=
  { m.object (Mk.fobj m s) with
    b := hung (m.b ++ Mk.fobj m s) ks tf m.b.length (Mk.fslot m s)
    depth := max m.depth (inSlot ks (Mk.fslot m s))
    h := setN (m.object (Mk.fobj m s)).h 16 (m.h.N 16 + 1)
    fields := m.fields ++ [⟨s, m.b.length, Mk.fslot m s, 0, []⟩] }
def FieldOld (l : List (Kn × Value)) (s : List Int) (w : World) (e : Ending) (w' : World) : Prop := ∃ k, look l s = some k ∧ e = .returned (.int .u64 (k.1.at_ : Int)) ∧ w = w'
def FieldNew (B g bb nf tf : Nat) (S : Sl) (F : Option Addr) (l : List (Kn × Value)) (m : Mk) (s : List Int) (w : World) (e : Ending) (w' : World) : Prop :=
  look l s = none ∧ e = .returned (.int .u64 (m.b.length : Nat)) ∧ ∃ bb' cb' F' cf', FieldIn w' B g bb' cb' { S with f := .slice F' (nf + 1) cf' } F' (nf + 1) cf' (l ++ [(⟨s, m.b.length, Mk.fslot m s, 0, []⟩, .slice none 0 0)]) (Mk.named m (l.map Prod.fst) tf s) ∧ (bb' = bb ∨ w.heap.size ≤ bb') ∧ (ownB F' = ownB F ∨ ∃ k, ownB F' = some k ∧ w.heap.size ≤ k) ∧ KeptF (fun k => k = g ∨ k = bb ∨ ownB F = some k) w w'
theorem ofS_bd (t : Bool) (key l : List Int) : 0 ≤ ofS t key l ∧ ofS t key l ≤ 18446744073709551615 := by
  unfold ofS
  split
  · unfold Hm.sipS Hm.sipEnd
    exact Hm.b64 _ _ _
  · unfold Hm.lookS
    split
    all_goals exact Hm.b64 _ _ _
attribute [local irreducible] Mk.cells wpList Code.wp
set_option maxHeartbeats 4000000 in
theorem field_any (B g bb cb nf cf tf : Nat) (S : Sl) (F : Option Addr) (l : List (Kn × Value)) (m : Mk) (s : List Int) (w : World) (h : FieldIn w B g bb cb S F nf cf l m) (hs : AllB s) (hn : nf ≤ 100000) (hF : IdOk m.C.F) (hsl : s.length ≤ 700000) (hb0 : 0 < m.b.length ∧ m.b.length ≤ 1000000) (h7 : 0 ≤ m.h.N 7 ∧ m.h.N 7 ≤ 1000000) (hg : B ≤ g) (h16 : 0 ≤ m.h.N 16 ∧ m.h.N 16 ≤ 1000000) (hfs : 0 < m.C.fs ∧ m.C.fs ≤ 64) (h4 : m.h.N 4 = (tf : Int)) (htf : tf + 16 * m.C.fs ≤ m.b.length) (hat : ∀ p ∈ l, p.1.at_ + 32 ≤ m.b.length) :
    Calls Tryz.prog 198 #[.pointer (some ⟨g, 0, none⟩), .string (T s)] w fun e w' => FieldOld l s w e w' ∨ FieldNew B g bb nf tf S F l m s w e w' := by
  obtain ⟨hm, hsf, hrow, hoff, htx⟩ := h
  have HM := Lib.hid hm
  have HR := Lib.hid hrow
  have HL := Lib.hid (ownK_len hrow)
  have c5 := hm.st.cell (Mk.get_f _ _)
  rw [show ({ S with b := Value.slice (some ⟨bb, 0, none⟩) m.b.length cb } : Sl).f = .slice F nf cf from hsf] at c5
  clear hm hrow
  have HF := Lib.hid hoff
  clear hoff
  go_enter Tryz.func198, Tryz.ntmps198
  go_wp2
  go_loopw [5] (fun i wr => ∃ k : Nat, k ≤ nf ∧ i = .int .i64 (k : Int) ∧ Hid (∀ j (hj : j < l.length), j < k → l[j].1.text ≠ s) ∧ wr = w) (fun i _ => nf - (intOf i).toNat)
  case atStart => exact ⟨0, Nat.zero_le _, rfl, Lib.hid fun _ _ h => absurd h (Nat.not_lt_zero _), rfl⟩
  case round =>
    obtain ⟨k, hkk, rfl, hno, rfl⟩ := hrel
    by_cases hlt : k < nf
    · have hki : k < l.length := by rw [HL.out]; exact hlt
      obtain ⟨b, rfl, hbl, d0, d1, d2, d3, d4⟩ := ownK_at HR.out k hki
      clear d2 d3 d4
      have HA := Lib.hid (htx _ (List.getElem_mem hki))
      have HLo := Lib.hid fun h : l[k].1.text = s => look_at hki h hno.out
      have HNx := Lib.hid fun (h : l[k].1.text ≠ s) j (hj : j < l.length) (hjk : j < k + 1) => show l[j].1.text ≠ s from by
        rcases Nat.lt_or_ge j k with h1 | h1
        · exact hno.out j hj h1
        · have : j = k := by omega
          subst this
          exact h
      generalize l[k] = q at *
      by_cases he : q.1.text = s
      · have e1 : ((T q.1.text).toList == (T s).toList) = true := by rw [T_beq HA.out hs]; simp [he]
        have HQ := Lib.hid (HLo.out he)
        clear he HNx HLo HA
        generalize T q.1.text = Q at *
        generalize T s = R at *
        go_wp2
        go_ret
        exact .inl ⟨q, HQ.out, rfl, rfl⟩
      · have e1 : ((T q.1.text).toList == (T s).toList) = false := by rw [T_beq HA.out hs]; simp [he]
        have HQ := Lib.hid (HNx.out he)
        clear he HNx HLo HA
        generalize T q.1.text = Q at *
        generalize T s = R at *
        go_wp2
        go_roundw
        case rel => exact ⟨k + 1, by omega, by go_num, HQ, trivial⟩
        case measure => simp [intOf]; omega
    · obtain rfl : k = nf := by omega
      have HLo := Lib.hid (look_none fun j hj => hno.out j hj (by rw [← HL.out]; exact hj))
      clear hno
      obtain ⟨ns, hns⟩ : ∃ ns, s.length = ns := ⟨_, rfl⟩
      have HS := Lib.hid hns
      clear hns
      have HO := Lib.hid fun (W : World) (c : Nat) (h : Bytes W (some ⟨wr.heap.size, 0, none⟩) s) => rof_any m.C.keyed m.C.F _ s ns c W hF h HS.out (by rw [← HS.out]; omega)
      go_upto_region 6 with fail
      have HB := Lib.hid HM.out.st
      have pk := HB.out.cell (Mk.get_keyed _ _)
      have pF := Mk.file_range HB.out
      obtain ⟨cv, mk, hmk⟩ := text_conv s hs
      have hcv := fun w => (hmk w).1
      simp only [HS.out] at hcv
      have HB1 := Lib.hid ((hmk wr.drew).2.1 wr.heap.size rfl)
      have HG1 := Lib.hid (((Below.refl wr.heap.size wr).drew).trans (hmk wr.drew).2.2.below)
      have HW1 := Lib.hid (HB.out.below HG1.out HB.out.lt)
      have qk := HW1.out.cell (Mk.get_keyed _ _)
      have qF := Mk.file_range HW1.out
      have HCV := Lib.hid hmk
      clear hmk
      have idU := Tryz.underlying50
      have idI : (Tryz.prog.info? 50).map (·.size) = some (fileV m.C).length := by kernel_rfl
      refine wp_region_noPanic ?_
      refine wp_region_held_drew (S := fun w' : World => w'.cell? ⟨g, 51, none⟩ = some (.bool m.C.keyed) ∧ w'.rangeAt g 0 (fileV m.C)) (by kernel_rfl) (by exact ⟨pk, pF⟩) (fun hHeld => ?_)
      refine wpAnyH_take (i := 0) (oi := ⟨some 36, _, _, _, _, _⟩) (v := ?_) rfl (by kernel_rfl) (by kernel_rfl) (by kernel_rfl) (fun _ _ _ h => h) (Or.inl ⟨by rfl, ?_⟩) (by assumption) ?_
      rotate_left
      · intro W hSw; go_simp; try (with_reducible rfl)
      try simp only [Act.put, List.setIfInBounds_toArray, List.set_cons_zero, List.set_cons_succ]
      refine wpAnyH_take (i := 1) (oi := ⟨some 37, _, _, _, _, _⟩) (v := ?_) rfl (by kernel_rfl) (by kernel_rfl) (by kernel_rfl) (fun _ _ _ h => h) (Or.inl ⟨by rfl, ?_⟩) (by assumption) ?_
      rotate_left
      · intro W hSw; go_simp; try (with_reducible rfl)
      try simp only [Act.put, List.setIfInBounds_toArray, List.set_cons_zero, List.set_cons_succ]
      refine wpAnyH_take (i := 2) (oi := ⟨some 38, _, _, _, _, _⟩) (v := ?_) rfl (by kernel_rfl) (by kernel_rfl) (by kernel_rfl) (fun _ _ _ h => h) (Or.inl ⟨by rfl, ?_⟩) (by assumption) ?_
      rotate_left
      · intro W hSw; go_simp; try (with_reducible rfl)
      try simp only [Act.put, List.setIfInBounds_toArray, List.set_cons_zero, List.set_cons_succ]
      refine wpAnyH_take (i := 3) (oi := ⟨some 39, _, _, _, _, _⟩) (v := ?_) rfl (by kernel_rfl) (by kernel_rfl) (by kernel_rfl) (fun _ _ _ h => h) (Or.inl ⟨by rfl, ?_⟩) (by assumption) ?_
      rotate_left
      · intro W hSw; go_simp; try (with_reducible rfl)
      try simp only [Act.put, List.setIfInBounds_toArray, List.set_cons_zero, List.set_cons_succ]
      refine wpAnyH_take (i := 4) (oi := ⟨some 40, _, _, _, _, _⟩) (v := ?_) rfl (by kernel_rfl) (by kernel_rfl) (by kernel_rfl) (fun _ _ _ h => h) (Or.inl ⟨by rfl, ?_⟩) (by assumption) ?_
      rotate_left
      · intro W hSw; have hSx := hSw.1; go_simp; try (with_reducible rfl)
      try simp only [Act.put, List.setIfInBounds_toArray, List.set_cons_zero, List.set_cons_succ]
      refine wpAnyH_take (i := 5) (oi := ⟨some 41, _, _, _, _, _⟩) (v := ?_) rfl (by kernel_rfl) (by kernel_rfl) (by kernel_rfl) (fun _ _ _ h => h) (Or.inl ⟨by rfl, ?_⟩) (by assumption) ?_
      rotate_left
      · intro W hSw; go_simp; try (with_reducible rfl)
      try simp only [Act.put, List.setIfInBounds_toArray, List.set_cons_zero, List.set_cons_succ]
      refine wpAnyH_take (i := 6) (oi := ⟨some 42, _, _, _, _, _⟩) (v := ?_) rfl (by kernel_rfl) (by kernel_rfl) (by kernel_rfl) (fun _ _ _ h => h) (Or.inl ⟨by rfl, ?_⟩) (by assumption) ?_
      rotate_left
      · intro W hSw; go_simp; try (with_reducible rfl)
      try simp only [Act.put, List.setIfInBounds_toArray, List.set_cons_zero, List.set_cons_succ]
      refine wpAnyH_take (i := 7) (oi := ⟨some 43, _, _, _, _, _⟩) (v := ?_) rfl (by kernel_rfl) (by kernel_rfl) (by kernel_rfl) (fun _ _ _ h => h) (Or.inl ⟨by rfl, ?_⟩) (by assumption) ?_
      rotate_left
      · intro W hSw; go_simp; try (with_reducible rfl)
      try simp only [Act.put, List.setIfInBounds_toArray, List.set_cons_zero, List.set_cons_succ]
      refine wpAnyH_take (i := 8) (oi := ⟨some 44, _, _, _, _, _⟩) (v := ?_) rfl (by kernel_rfl) (by kernel_rfl) (by kernel_rfl) (fun _ _ _ h => h) (Or.inl ⟨by rfl, ?_⟩) (by assumption) ?_
      rotate_left
      · intro W hSw; go_simp; try (with_reducible rfl)
      try simp only [Act.put, List.setIfInBounds_toArray, List.set_cons_zero, List.set_cons_succ]
      refine wpAnyH_take (i := 9) (oi := ⟨some 45, _, _, _, _, _⟩) rfl (by kernel_rfl) (by kernel_rfl) (by kernel_rfl) (fun _ _ _ h => h) (yieldsIf_load_mid (by rfl) _ _ rfl _ _ rfl _ _ (fun _ h => h.2) idU rfl idI) (by assumption) ?_
      try simp only [Act.put, List.setIfInBounds_toArray, List.set_cons_zero, List.set_cons_succ]
      refine wpAnyH_take (i := 10) (oi := ⟨some 46, _, _, _, _, _⟩) (v := ?_) rfl (by kernel_rfl) (by kernel_rfl) (by kernel_rfl) (fun _ _ _ h => h) (Or.inl ⟨by rfl, ?_⟩) (by assumption) ?_
      rotate_left
      · intro W hSw; go_simp; try (with_reducible rfl)
      try simp only [Act.put, List.setIfInBounds_toArray, List.set_cons_zero, List.set_cons_succ]
      refine wpAnyH_ready (rs := [11]) (by kernel_rfl) (by simp) ?_
      refine AllReadyH.cons (o := ⟨some 47, _, _, _, _, _⟩) rfl (fun K hK => ?_) AllReadyH.nil
      go_simp
      skip
      try go_wp2_with fail
      refine hK.out _ _ (by exact ⟨qk, qF⟩) (fun hHeld => ?_)
      clear hK K
      try simp only [Act.put, List.setIfInBounds_toArray, List.set_cons_zero, List.set_cons_succ]
      refine wpAnyH_ready (rs := [12]) (by kernel_rfl) (by simp) ?_
      refine AllReadyH.cons (o := ⟨some 48, _, _, _, _, _⟩) rfl (fun K hK => ?_) AllReadyH.nil
      go_simp
      (refine (HO.out _ _ HB1.out).mono ?_); rintro e w2 ⟨rfl, hb2⟩; have HG2 := Lib.hid (HG1.out.trans (hb2.mono HG1.out.size)); have HW2 := Lib.hid (HB.out.below HG2.out HB.out.lt); have rk := HW2.out.cell (Mk.get_keyed _ _); have rF := Mk.file_range HW2.out; clear hb2
      try go_wp2_with fail
      refine hK.out _ _ (by exact ⟨rk, rF⟩) (fun hHeld => ?_)
      clear hK K
      try simp only [Act.put, List.setIfInBounds_toArray, List.set_cons_zero, List.set_cons_succ]
      refine wpAnyH_take (i := 13) (oi := ⟨some 6, _, _, _, _, _⟩) (v := ?_) rfl (by kernel_rfl) (by kernel_rfl) (by kernel_rfl) (fun _ _ _ h => h) (Or.inl ⟨by rfl, ?_⟩) (by assumption) ?_
      rotate_left
      · intro W hSw; go_simp; try (with_reducible rfl)
      try simp only [Act.put, List.setIfInBounds_toArray, List.set_cons_zero, List.set_cons_succ]
      refine wpAnyH_done (by kernel_rfl) ?_ _
      refine NoPanic.normal ?_
      have HM2 := Lib.hid (MkB.below HM.out HG2.out)
      have HR2 := Lib.hid (OwnE.kept HR.out HG2.out (Nat.le_refl _))
      clear pk pF qk qF rk rF
      clear HO
      have hh0 := ofS_bd m.C.keyed (idL m.C.F) s
      generalize hhh : ofS m.C.keyed (idL m.C.F) s = hh at *
      have HH := Lib.hid hhh
      clear hhh
      have HB3 := Lib.hid ((HCV.out w2).2.1 w2.heap.size rfl)
      have HG3 := Lib.hid (HCV.out w2).2.2.below
      have HPF := Lib.hid fun (W : World) (A : Option Addr) (c : Nat) (h : Bytes W A s) => rputField_any hh 0 0 A s ns c W h HS.out (by rw [← HS.out]; omega) (three_I hh0 (by decide) (by decide))
      obtain ⟨hf0, hf1⟩ := hfs
      have hfz : ¬ (m.C.fs : Int) = 0 := by omega
      have hpd : padN (24 + ns) ≤ 8 := by unfold padN; omega
      have hbig : m.b.length + (16 + (24 + ns) + padN (24 + ns)) ≤ 4000000 := by have := HS.out; have := hb0.2; omega
      obtain ⟨sl, hsl1, hsl2⟩ : ∃ sl : Nat, hh % (m.C.fs : Int) = (sl : Int) ∧ sl < m.C.fs := ⟨(hh % (m.C.fs : Int)).toNat, by have := Int.emod_nonneg hh hfz; omega, by have := Int.emod_nonneg hh hfz; have := Int.emod_lt_of_pos hh (show (0 : Int) < (m.C.fs : Int) by omega); omega⟩
      go_upto_region 9 with (first
        | (go_at_call 212; (with_reducible refine (HPF.out _ _ _ HB3.out).mono ?_); rintro e w4 ⟨A4, c4, rfl, ho4, hb4⟩; have HO4 := Lib.hid ho4; have HG4 := Lib.hid (HG3.out.trans (hb4.mono HG3.out.size)); have HM4 := Lib.hid (MkB.below HM2.out HG4.out); clear ho4 hb4)
        | (go_at_call 149; (refine (object_any B g bb cb S m A4 _ c4 _ w4 HM4.out HO4.out.bytes HO4.out.2.1 hb0.1 hbig h7 hg).mono ?_); rintro e w5 ⟨rfl, b5, cb5, hm5, hat5, hk5⟩; have HM5 := Lib.hid hm5; have HK5 := Lib.hid hk5; have f5 : w5.cell? ⟨g, 49, none⟩ = some (.int .i64 (m.C.fs : Int)) := HM5.out.st.cell (Mk.get_fs _ _); clear hm5 hk5)
        | fail)
      have HSL := Lib.hid hsl1
      clear hsl1
      obtain ⟨ys, hys⟩ : ∃ x, x = objB 2 (nums [hh, 0, 0] ++ s) := ⟨_, rfl⟩
      rw [← hys] at HM5
      have hyl : (m.object ys).b.length = m.b.length + (16 + (24 + ns) + padN (24 + ns)) := by show (m.b ++ ys).length = _; rw [List.length_append, hys, HO4.out.2.1]
      have hlo : (m.object ys).b.length ≤ 4000000 := by rw [hyl]; exact hbig
      have HR5 := Lib.hid (OwnE.keptF (OwnE.kept HR2.out HG4.out (Nat.le_refl _)) HK5.out (fun j hj e => (HF.out j hj).elim fun a b => e.elim a b))
      have HM5d := Lib.hid (MkB.below HM5.out ((Below.refl w5.heap.size w5).drew))
      have t142 : w5.drew.cell? ⟨g, 142, none⟩ = some (.int .u64 (m.depth : Int)) := HM5d.out.st.cell (Mk.get_depth _ _)
      have t145 : w5.drew.cell? ⟨g, 145, none⟩ = some (.slice F k cf) := (HM5d.out.st.cell (Mk.get_f _ _)).trans (congrArg some hsf)
      have t123 : w5.drew.cell? ⟨g, 123, none⟩ = some (.int .u64 (tf : Int)) := (HM5d.out.st.cell (Mk.get_Nk _ _ 4 123 (by decide) rfl)).trans (congrArg (fun x => some (Value.int .u64 x)) h4)
      have HH5 := Lib.hid (hang_any g b5 cb5 (m.object ys).b.length tf m.b.length sl k cf _ _ _ F (l.map Prod.fst) B w5.drew HM5d.out.st (Mk.get_b _ _) HM5d.out.own HM5d.out.ne hlo (ownK_kns (OwnE.drew HR5.out)) (by rw [List.length_map, HL.out]) (by omega) (by omega) (by rw [hyl]; omega) (fun q hq => by obtain ⟨p, hp, rfl⟩ := List.mem_map.1 hq; have := hat p hp; rw [hyl]; omega))
      obtain ⟨iS, hiS⟩ : ∃ x, x = inSlot (l.map Prod.fst) sl := ⟨_, rfl⟩
      rw [← hiS] at HH5
      have HI := Lib.hid hiS
      clear hiS
      obtain ⟨M, hM⟩ : ∃ M, M = max m.depth iS := ⟨_, rfl⟩
      have hmx := max_if m.depth iS
      rw [← hM] at hmx
      go_cut [] from 65 to 86 (fun wx => Hid (MkB wx B g b5 cb5 S { m.object ys with b := hung (m.object ys).b (l.map Prod.fst) tf m.b.length sl, depth := M }) ∧ Hid (KeptF (Two g b5) w5 wx))
      case first =>
        refine wp_region_noPanic ?_
        refine wp_region_held_drew (S := fun w' : World => w'.cell? ⟨g, 145, none⟩ = some (.slice F k cf) ∧ w'.cell? ⟨g, 123, none⟩ = some (.int .u64 (tf : Int))) (by kernel_rfl) (by exact ⟨t145, t123⟩) (fun hHeld => ?_)
        refine wpAnyH_take (i := 0) (oi := ⟨some 65, _, _, _, _, _⟩) (v := ?_) rfl (by kernel_rfl) (by kernel_rfl) (by kernel_rfl) (fun _ _ _ h => h) (Or.inl ⟨by rfl, ?_⟩) (by assumption) ?_
        rotate_left
        · intro W hSw; go_simp; try (with_reducible rfl)
        try simp only [Act.put, List.setIfInBounds_toArray, List.set_cons_zero, List.set_cons_succ]
        refine wpAnyH_take (i := 1) (oi := ⟨some 66, _, _, _, _, _⟩) (v := ?_) rfl (by kernel_rfl) (by kernel_rfl) (by kernel_rfl) (fun _ _ _ h => h) (Or.inl ⟨by rfl, ?_⟩) (by assumption) ?_
        rotate_left
        · intro W hSw; go_simp; try (with_reducible rfl)
        try simp only [Act.put, List.setIfInBounds_toArray, List.set_cons_zero, List.set_cons_succ]
        refine wpAnyH_take (i := 2) (oi := ⟨some 67, _, _, _, _, _⟩) (v := ?_) rfl (by kernel_rfl) (by kernel_rfl) (by kernel_rfl) (fun _ _ _ h => h) (Or.inl ⟨by rfl, ?_⟩) (by assumption) ?_
        rotate_left
        · intro W hSw; go_simp; try (with_reducible rfl)
        try simp only [Act.put, List.setIfInBounds_toArray, List.set_cons_zero, List.set_cons_succ]
        refine wpAnyH_take (i := 3) (oi := ⟨some 68, _, _, _, _, _⟩) (v := ?_) rfl (by kernel_rfl) (by kernel_rfl) (by kernel_rfl) (fun _ _ _ h => h) (Or.inl ⟨by rfl, ?_⟩) (by assumption) ?_
        rotate_left
        · intro W hSw; go_simp; try (with_reducible rfl)
        try simp only [Act.put, List.setIfInBounds_toArray, List.set_cons_zero, List.set_cons_succ]
        refine wpAnyH_take (i := 5) (oi := ⟨some 70, _, _, _, _, _⟩) (v := ?_) rfl (by kernel_rfl) (by kernel_rfl) (by kernel_rfl) (fun _ _ _ h => h) (Or.inl ⟨by rfl, ?_⟩) (by assumption) ?_
        rotate_left
        · intro W hSw; go_simp; try (with_reducible rfl)
        try simp only [Act.put, List.setIfInBounds_toArray, List.set_cons_zero, List.set_cons_succ]
        refine wpAnyH_take (i := 6) (oi := ⟨some 71, _, _, _, _, _⟩) (v := ?_) rfl (by kernel_rfl) (by kernel_rfl) (by kernel_rfl) (fun _ _ _ h => h) (Or.inl ⟨by rfl, ?_⟩) (by assumption) ?_
        rotate_left
        · intro W hSw; go_simp; try (with_reducible rfl)
        try simp only [Act.put, List.setIfInBounds_toArray, List.set_cons_zero, List.set_cons_succ]
        refine wpAnyH_take (i := 7) (oi := ⟨some 72, _, _, _, _, _⟩) (v := ?_) rfl (by kernel_rfl) (by kernel_rfl) (by kernel_rfl) (fun _ _ _ h => h) (Or.inl ⟨by rfl, ?_⟩) (by assumption) ?_
        rotate_left
        · intro W hSw; go_simp; try (with_reducible rfl)
        try simp only [Act.put, List.setIfInBounds_toArray, List.set_cons_zero, List.set_cons_succ]
        refine wpAnyH_take (i := 8) (oi := ⟨some 73, _, _, _, _, _⟩) (v := ?_) rfl (by kernel_rfl) (by kernel_rfl) (by kernel_rfl) (fun _ _ _ h => h) (Or.inl ⟨by rfl, ?_⟩) (by assumption) ?_
        rotate_left
        · intro W hSw; go_simp; try (with_reducible rfl)
        try simp only [Act.put, List.setIfInBounds_toArray, List.set_cons_zero, List.set_cons_succ]
        refine wpAnyH_take (i := 9) (oi := ⟨some 74, _, _, _, _, _⟩) (v := ?_) rfl (by kernel_rfl) (by kernel_rfl) (by kernel_rfl) (fun _ _ _ h => h) (Or.inl ⟨by rfl, ?_⟩) (by assumption) ?_
        rotate_left
        · intro W hSw; have hSx := hSw.1; go_simp; try (with_reducible rfl)
        try simp only [Act.put, List.setIfInBounds_toArray, List.set_cons_zero, List.set_cons_succ]
        refine wpAnyH_take (i := 10) (oi := ⟨some 75, _, _, _, _, _⟩) (v := ?_) rfl (by kernel_rfl) (by kernel_rfl) (by kernel_rfl) (fun _ _ _ h => h) (Or.inl ⟨by rfl, ?_⟩) (by assumption) ?_
        rotate_left
        · intro W hSw; go_simp; try (with_reducible rfl)
        try simp only [Act.put, List.setIfInBounds_toArray, List.set_cons_zero, List.set_cons_succ]
        refine wpAnyH_take (i := 11) (oi := ⟨some 76, _, _, _, _, _⟩) (v := ?_) rfl (by kernel_rfl) (by kernel_rfl) (by kernel_rfl) (fun _ _ _ h => h) (Or.inl ⟨by rfl, ?_⟩) (by assumption) ?_
        rotate_left
        · intro W hSw; go_simp; try (with_reducible rfl)
        try simp only [Act.put, List.setIfInBounds_toArray, List.set_cons_zero, List.set_cons_succ]
        refine wpAnyH_take (i := 12) (oi := ⟨some 77, _, _, _, _, _⟩) (v := ?_) rfl (by kernel_rfl) (by kernel_rfl) (by kernel_rfl) (fun _ _ _ h => h) (Or.inl ⟨by rfl, ?_⟩) (by assumption) ?_
        rotate_left
        · intro W hSw; go_simp; try (with_reducible rfl)
        try simp only [Act.put, List.setIfInBounds_toArray, List.set_cons_zero, List.set_cons_succ]
        refine wpAnyH_take (i := 13) (oi := ⟨some 78, _, _, _, _, _⟩) (v := ?_) rfl (by kernel_rfl) (by kernel_rfl) (by kernel_rfl) (fun _ _ _ h => h) (Or.inl ⟨by rfl, ?_⟩) (by assumption) ?_
        rotate_left
        · intro W hSw; go_simp; try (with_reducible rfl)
        try simp only [Act.put, List.setIfInBounds_toArray, List.set_cons_zero, List.set_cons_succ]
        refine wpAnyH_take (i := 14) (oi := ⟨some 79, _, _, _, _, _⟩) (v := ?_) rfl (by kernel_rfl) (by kernel_rfl) (by kernel_rfl) (fun _ _ _ h => h) (Or.inl ⟨by rfl, ?_⟩) (by assumption) ?_
        rotate_left
        · intro W hSw; go_simp; try (with_reducible rfl)
        try simp only [Act.put, List.setIfInBounds_toArray, List.set_cons_zero, List.set_cons_succ]
        refine wpAnyH_take (i := 15) (oi := ⟨some 80, _, _, _, _, _⟩) (v := ?_) rfl (by kernel_rfl) (by kernel_rfl) (by kernel_rfl) (fun _ _ _ h => h) (Or.inl ⟨by rfl, ?_⟩) (by assumption) ?_
        rotate_left
        · intro W hSw; have hSx := hSw.2; go_simp; try (with_reducible rfl)
        try simp only [Act.put, List.setIfInBounds_toArray, List.set_cons_zero, List.set_cons_succ]
        refine wpAnyH_take (i := 16) (oi := ⟨some 81, _, _, _, _, _⟩) (v := ?_) rfl (by kernel_rfl) (by kernel_rfl) (by kernel_rfl) (fun _ _ _ h => h) (Or.inl ⟨by rfl, ?_⟩) (by assumption) ?_
        rotate_left
        · intro W hSw; go_simp; try (with_reducible rfl)
        try simp only [Act.put, List.setIfInBounds_toArray, List.set_cons_zero, List.set_cons_succ]
        refine wpAnyH_take (i := 17) (oi := ⟨some 82, _, _, _, _, _⟩) (v := ?_) rfl (by kernel_rfl) (by kernel_rfl) (by kernel_rfl) (fun _ _ _ h => h) (Or.inl ⟨by rfl, ?_⟩) (by assumption) ?_
        rotate_left
        · intro W hSw; go_simp; try (with_reducible rfl)
        try simp only [Act.put, List.setIfInBounds_toArray, List.set_cons_zero, List.set_cons_succ]
        refine wpAnyH_ready (rs := [4, 18]) (by kernel_rfl) (by simp) ?_
        refine AllReadyH.cons (o := ⟨some 69, _, _, _, _, _⟩) rfl (fun K hK => ?_) (AllReadyH.cons (o := ⟨some 83, _, _, _, _, _⟩) rfl (fun K hK => ?_) AllReadyH.nil)
        · go_simp
          skip
          try go_wp2_with fail
          refine hK.out _ _ (by exact ⟨t145, t123⟩) (fun hHeld => ?_)
          clear hK K
          try simp only [Act.put, List.setIfInBounds_toArray, List.set_cons_zero, List.set_cons_succ]
          refine wpAnyH_ready (rs := [18]) (by kernel_rfl) (by simp) ?_
          refine AllReadyH.cons (o := ⟨some 83, _, _, _, _, _⟩) rfl (fun K hK => ?_) AllReadyH.nil
          go_simp
          (refine HH5.out.mono ?_); rintro e w6 ⟨rfl, ho6, hp6⟩; have HM6 := Lib.hid (MkB.put HM5d.out ho6.2.1 ho6 hp6); have v142 : w6.cell? ⟨g, 142, none⟩ = some (.int .u64 (m.depth : Int)) := HM6.out.st.cell (Mk.get_depth _ _); have z142 : w6.frozen? ⟨g, 142, none⟩ = false := HM6.out.st.frozen 142; have v145 : w6.cell? ⟨g, 145, none⟩ = some (.slice F k cf) := (HM6.out.st.cell (Mk.get_f _ _)).trans (congrArg some hsf); have v123 : w6.cell? ⟨g, 123, none⟩ = some (.int .u64 (tf : Int)) := (HM6.out.st.cell (Mk.get_Nk _ _ 4 123 (by decide) rfl)).trans (congrArg (fun x => some (Value.int .u64 x)) h4); have y145 : ∀ v, (w6.setCell ⟨g, 142, none⟩ v).cell? ⟨g, 145, none⟩ = some (.slice F k cf) := fun v => ((HM6.out.st.set_ 142 v).cell ((List.getElem?_set_ne (by decide)).trans (Mk.get_f _ _))).trans (congrArg some hsf); have y123 : ∀ v, (w6.setCell ⟨g, 142, none⟩ v).cell? ⟨g, 123, none⟩ = some (.int .u64 (tf : Int)) := fun v => ((HM6.out.st.set_ 142 v).cell ((List.getElem?_set_ne (by decide)).trans (Mk.get_Nk _ _ 4 123 (by decide) rfl))).trans (congrArg (fun x => some (Value.int .u64 x)) h4); have HP6 := Lib.hid hp6; clear ho6 hp6
          try go_wp2_with fail
          refine hK.out _ _ (by exact ⟨v145, v123⟩) (fun hHeld => ?_)
          clear hK K
          try simp only [Act.put, List.setIfInBounds_toArray, List.set_cons_zero, List.set_cons_succ]
          refine wpAnyH_take (i := 19) (oi := ⟨some 84, _, _, _, _, _⟩) (v := ?_) rfl (by kernel_rfl) (by kernel_rfl) (by kernel_rfl) (fun _ _ _ h => h) (Or.inl ⟨by rfl, ?_⟩) (by assumption) ?_
          rotate_left
          · intro W hSw; go_simp; try (with_reducible rfl)
          try simp only [Act.put, List.setIfInBounds_toArray, List.set_cons_zero, List.set_cons_succ]
          refine wpAnyH_take (i := 20) (oi := ⟨some 85, _, _, _, _, _⟩) (v := ?_) rfl (by kernel_rfl) (by kernel_rfl) (by kernel_rfl) (fun _ _ _ h => h) (Or.inl ⟨by rfl, ?_⟩) (by assumption) ?_
          rotate_left
          · intro W hSw; go_simp; try (with_reducible rfl)
          try simp only [Act.put, List.setIfInBounds_toArray, List.set_cons_zero, List.set_cons_succ]
          refine wpAnyH_take (i := 21) (oi := ⟨some 86, _, _, _, _, _⟩) (v := ?_) rfl (by kernel_rfl) (by kernel_rfl) (by kernel_rfl) (fun _ _ _ h => h) (Or.inl ⟨by rfl, ?_⟩) (by assumption) ?_
          rotate_left
          · intro W hSw; go_simp; try (with_reducible rfl)
          try simp only [Act.put, List.setIfInBounds_toArray, List.set_cons_zero, List.set_cons_succ]
          refine wpAnyH_ready (rs := [22]) (by kernel_rfl) (by simp) ?_
          refine AllReadyH.cons (o := ⟨none, _, _, _, _, _⟩) rfl (fun K hK => ?_) AllReadyH.nil
          go_simp
          skip
          try go_wp2_with fail
          refine hK.out _ _ (by exact ⟨y145 _, y123 _⟩) (fun hHeld => ?_)
          clear hK K
          try simp only [Act.put, List.setIfInBounds_toArray, List.set_cons_zero, List.set_cons_succ]
          refine wpAnyH_done (by kernel_rfl) ?_ _
          refine NoPanic.normal ?_
          try go_wp2_with fail
          go_meet
          case rel =>
            try rw [hmx]
            try rw [← hM]
            exact ⟨Lib.hid (MkB.depth HM6.out M), Lib.hid (((KeptF.refl (Two g b5) w5).drew.trans (HP6.out.kept.mono (fun i h => Or.inr h)) (fun _ _ h => h)).setCell (p := ⟨g, 142, none⟩) (fun _ => Or.inl rfl) _)⟩
        · go_simp
          (refine HH5.out.mono ?_); rintro e w6 ⟨rfl, ho6, hp6⟩; have HM6 := Lib.hid (MkB.put HM5d.out ho6.2.1 ho6 hp6); have v142 : w6.cell? ⟨g, 142, none⟩ = some (.int .u64 (m.depth : Int)) := HM6.out.st.cell (Mk.get_depth _ _); have z142 : w6.frozen? ⟨g, 142, none⟩ = false := HM6.out.st.frozen 142; have v145 : w6.cell? ⟨g, 145, none⟩ = some (.slice F k cf) := (HM6.out.st.cell (Mk.get_f _ _)).trans (congrArg some hsf); have v123 : w6.cell? ⟨g, 123, none⟩ = some (.int .u64 (tf : Int)) := (HM6.out.st.cell (Mk.get_Nk _ _ 4 123 (by decide) rfl)).trans (congrArg (fun x => some (Value.int .u64 x)) h4); have y145 : ∀ v, (w6.setCell ⟨g, 142, none⟩ v).cell? ⟨g, 145, none⟩ = some (.slice F k cf) := fun v => ((HM6.out.st.set_ 142 v).cell ((List.getElem?_set_ne (by decide)).trans (Mk.get_f _ _))).trans (congrArg some hsf); have y123 : ∀ v, (w6.setCell ⟨g, 142, none⟩ v).cell? ⟨g, 123, none⟩ = some (.int .u64 (tf : Int)) := fun v => ((HM6.out.st.set_ 142 v).cell ((List.getElem?_set_ne (by decide)).trans (Mk.get_Nk _ _ 4 123 (by decide) rfl))).trans (congrArg (fun x => some (Value.int .u64 x)) h4); have HP6 := Lib.hid hp6; clear ho6 hp6
          try go_wp2_with fail
          refine hK.out _ _ (by exact ⟨v145, v123⟩) (fun hHeld => ?_)
          clear hK K
          try simp only [Act.put, List.setIfInBounds_toArray, List.set_cons_zero, List.set_cons_succ]
          refine wpAnyH_ready (rs := [4]) (by kernel_rfl) (by simp) ?_
          refine AllReadyH.cons (o := ⟨some 69, _, _, _, _, _⟩) rfl (fun K hK => ?_) AllReadyH.nil
          go_simp
          skip
          try go_wp2_with fail
          refine hK.out _ _ (by exact ⟨v145, v123⟩) (fun hHeld => ?_)
          clear hK K
          try simp only [Act.put, List.setIfInBounds_toArray, List.set_cons_zero, List.set_cons_succ]
          refine wpAnyH_take (i := 19) (oi := ⟨some 84, _, _, _, _, _⟩) (v := ?_) rfl (by kernel_rfl) (by kernel_rfl) (by kernel_rfl) (fun _ _ _ h => h) (Or.inl ⟨by rfl, ?_⟩) (by assumption) ?_
          rotate_left
          · intro W hSw; go_simp; try (with_reducible rfl)
          try simp only [Act.put, List.setIfInBounds_toArray, List.set_cons_zero, List.set_cons_succ]
          refine wpAnyH_take (i := 20) (oi := ⟨some 85, _, _, _, _, _⟩) (v := ?_) rfl (by kernel_rfl) (by kernel_rfl) (by kernel_rfl) (fun _ _ _ h => h) (Or.inl ⟨by rfl, ?_⟩) (by assumption) ?_
          rotate_left
          · intro W hSw; go_simp; try (with_reducible rfl)
          try simp only [Act.put, List.setIfInBounds_toArray, List.set_cons_zero, List.set_cons_succ]
          refine wpAnyH_take (i := 21) (oi := ⟨some 86, _, _, _, _, _⟩) (v := ?_) rfl (by kernel_rfl) (by kernel_rfl) (by kernel_rfl) (fun _ _ _ h => h) (Or.inl ⟨by rfl, ?_⟩) (by assumption) ?_
          rotate_left
          · intro W hSw; go_simp; try (with_reducible rfl)
          try simp only [Act.put, List.setIfInBounds_toArray, List.set_cons_zero, List.set_cons_succ]
          refine wpAnyH_ready (rs := [22]) (by kernel_rfl) (by simp) ?_
          refine AllReadyH.cons (o := ⟨none, _, _, _, _, _⟩) rfl (fun K hK => ?_) AllReadyH.nil
          go_simp
          skip
          try go_wp2_with fail
          refine hK.out _ _ (by exact ⟨y145 _, y123 _⟩) (fun hHeld => ?_)
          clear hK K
          try simp only [Act.put, List.setIfInBounds_toArray, List.set_cons_zero, List.set_cons_succ]
          refine wpAnyH_done (by kernel_rfl) ?_ _
          refine NoPanic.normal ?_
          try go_wp2_with fail
          go_meet
          case rel =>
            try rw [hmx]
            try rw [← hM]
            exact ⟨Lib.hid (MkB.depth HM6.out M), Lib.hid (((KeptF.refl (Two g b5) w5).drew.trans (HP6.out.kept.mono (fun i h => Or.inr h)) (fun _ _ h => h)).setCell (p := ⟨g, 142, none⟩) (fun _ => Or.inl rfl) _)⟩
      case rest =>
        obtain ⟨HM7, HK7⟩ := hcut
        clear t142 t145 t123 hmx
        go_upto_region 10 with fail
        have z135 : wc.cell? ⟨g, 135, none⟩ = some (.int .u64 (m.h.N 16)) := HM7.out.st.cell (Mk.get_Nk _ _ 16 135 (by decide) rfl)
        have zf : wc.frozen? ⟨g, 135, none⟩ = false := HM7.out.st.frozen 135
        have hwr : IntKind.u64.wrap (m.h.N 16 + 1) = m.h.N 16 + 1 := by rw [IntKind.wrap_u64]; omega
        go_region
        have HM8 := Lib.hid (MkB.below (MkB.setN HM7.out 16 135 (by decide) rfl (m.h.N 16 + 1)) (Below.refl _ _).drew)
        have HK8 := Lib.hid ((HK7.out.setCell (p := ⟨g, 135, none⟩) (fun _ => Or.inl rfl) (.int .u64 (m.h.N 16 + 1))).drew)
        generalize (wc.setCell ⟨g, 135, none⟩ (.int .u64 (m.h.N 16 + 1))).drew = w8 at *
        have hFo : ∀ j, ownB F = some j → j ≠ g ∧ j ≠ b5 := fun j hj => by
          refine ⟨(HF.out j hj).1, fun e => ?_⟩
          rcases hat5 with h | h
          · exact (HF.out j hj).2 (e.trans h)
          · have := (OwnE.ltB (OwnE.kept HR2.out HG4.out (Nat.le_refl _)) j hj).2
            omega
        have HR8 := Lib.hid (OwnE.keptF HR5.out HK8.out (fun j hj e => e.elim (hFo j hj).1 (hFo j hj).2))
        have x145 : w8.cell? ⟨g, 145, none⟩ = some (.slice F k cf) := (HM8.out.st.cell (Mk.get_f _ _)).trans (congrArg some hsf)
        go_upto_region 12 with (first
          | (at_builtin; (refine wpList_append_elt_at knElt rfl (.tmp 102) (.tmp 107) rfl B F k cf (kf l) rfl (OwnE.alloc HR8.out _) ⟨w8.heap.size, 0, none⟩ 1 1 (knC ⟨s, m.b.length, sl, 0, []⟩ (.slice none 0 0)) rfl rfl (Blk.news (Blk.new w8 _ 239)) (by simp [knC, Value.oneCell']) (by omega) (by omega) (by unfold maxLen; omega) ?_); intro F9 c9 w9 ho9 hgr9 hat9; have HO9 := Lib.hid ho9; have HM9 := Lib.hid (MkB.grown (MkB.below HM8.out ((Below.refl _ _).alloc (Nat.le_refl _) _)) hgr9 (fun e => (hFo _ e).1 rfl) (fun e => (hFo _ e).2 rfl)); have HK9 := Lib.hid (KeptF.grow _ hgr9); have x9 : w9.cell? ⟨g, 145, none⟩ = some (.slice F k cf) := (HM9.out.st.cell (Mk.get_f _ _)).trans (congrArg some hsf); have z9 : w9.frozen? ⟨g, 145, none⟩ = false := HM9.out.st.frozen 145; clear ho9 hgr9)
          | fail)
        go_wp2
        go_ret
        have e1 : ys = Mk.fobj m s := by rw [hys, ← HH.out]; rfl
        have e2 : sl = Mk.fslot m s := by
          have := HSL.out
          rw [← HH.out] at this
          unfold Mk.fslot Mk.sum Cf.file
          rw [this]
          exact (Int.toNat_natCast sl).symm
        have hF9 : ∀ j, ownB F9 = some j → j ≠ g ∧ j ≠ b5 := fun j hj => by
          rcases hat9 with h | h
          · exact hFo j (h ▸ hj)
          · rw [h] at hj
            injection hj with hj
            have h1 := HM8.out.st.lt
            have h2 := (own_lt HM8.out.own).2
            simp at hj
            omega
        have sz2 := HG2.out.size
        have sz4 := HG4.out.size
        refine .inr ⟨HLo.out, rfl, b5, cb5, F9, c9, ⟨?_, rfl, ?_, hF9, ?_⟩, ?_, ?_, ?_⟩
        · refine MkB.same (MkB.setF HM9.out (.slice F9 (k + 1) c9)) rfl ?_ ?_ ?_
          · show setN (m.object ys).h 16 _ = setN (m.object (Mk.fobj m s)).h 16 _
            rw [e1]
          · show M = max m.depth (inSlot (l.map Prod.fst) (Mk.fslot m s))
            rw [hM, HI.out, e2]
          · show hung (m.b ++ ys) (l.map Prod.fst) tf m.b.length sl = hung (m.b ++ Mk.fobj m s) (l.map Prod.fst) tf m.b.length (Mk.fslot m s)
            rw [e1, e2]
        · rw [← e2]
          unfold OwnK
          rw [kf_snoc]
          exact OwnE.keptF HO9.out (KeptF.set1 w9 g 145 _) (fun j hj e => (hF9 j hj).1 e)
        · intro p hp
          rcases List.mem_append.1 hp with h | h
          · exact htx p h
          · rw [List.mem_singleton.1 h]
            exact hs
        · rcases hat5 with h | h
          · exact .inl h
          · exact .inr (by omega)
        · rcases hat9 with h | h
          · exact .inl h
          · refine .inr ⟨_, h, ?_⟩
            have h1 := HK5.out.size
            have h2 := HK8.out.size
            simp
            omega
        · have K0 := KeptF.of_below (F := fun j => j = g ∨ j = bb ∨ ownB F = some j) (HG2.out.trans (HG4.out.mono HG2.out.size))
          have K1 := K0.trans HK5.out (fun i hi h => h.elim Or.inl (fun e => Or.inr (Or.inl e)))
          have K2 := K1.trans HK8.out (fun i hi h => by
            rcases h with h | h
            · exact .inl h
            · rcases hat5 with h5 | h5
              · exact .inr (.inl (h.trans h5))
              · omega)
          have K3 := (K2.alloc _).trans HK9.out (fun i hi h => Or.inr (Or.inr h))
          exact K3.setCell (p := ⟨g, 145, none⟩) (fun _ => Or.inl rfl) _
end Go.Proofs.YtldkmobncmfodaaGreat.Mg
