/-
  Texts beneath the proof, one behind the other.
-/
import Derived.Deep.RegionHeld3
import Derived.Test.YtldkmobncmfodaaGreatQ25

/-
  The document's writer: the object of a payload.
-/
namespace Go.Proofs.YtldkmobncmfodaaGreat.Nee
open Go.ChangeShapes Go.WideShapes Go.ChangeAt Go.RowKit
open Bytes8 Blk8 Own8 OwnM OwnA OwnE LeA LeNum LeB LeP RefA RefB Ob Oc Od Oj Ga Ma Kf Mb Mc Md Me Mf Mg Fa Fb Fc Sg Dc Na Nb Nc Nd
set_option linter.unusedVariables false
set_option linter.unusedSimpArgs false
set_option maxRecDepth 100000

theorem idxK_at {l : List (Kn × Value)} {ks : List Kn} (e : l.map Prod.fst = ks) {s : List Int} {k : Nat} (hk : k < l.length) (h : l[k].1.text = s) (h0 : ∀ j (hj : j < l.length), j < k → l[j].1.text ≠ s) : idxK ks s = some k := by
  subst e
  unfold idxK
  rw [List.findIdx?_eq_some_iff_getElem]
  exact ⟨by simpa using hk, by simp [h], fun j hj => by simpa using h0 j (by omega) hj⟩
theorem idxK_none {l : List (Kn × Value)} {ks : List Kn} (e : l.map Prod.fst = ks) {s : List Int} (h0 : ∀ j (hj : j < l.length), l[j].1.text ≠ s) : idxK ks s = none := by
  subst e
  unfold idxK
  rw [List.findIdx?_eq_none_iff]
  intro x hx
  obtain ⟨q, hq, rfl⟩ := List.mem_map.1 hx
  obtain ⟨j, hj, rfl⟩ := List.mem_iff_getElem.1 hq
  simpa using h0 j hj
theorem pay_len (n v : List Int) : (pay n v).length = n.length + 1 + v.length := by unfold pay; simp; omega
attribute [local irreducible] Mk.cells wpList Code.wp
variable {B g : Nat} {p : Pl} {m : Mk}
set_option maxHeartbeats 4000000 in
theorem data_any (nm v : List Int) (w : World) (h : At w B g p m) (I : Inv m) (hn : AllB nm) (hv : AllB v) (hf : nm.length ≤ 64 ∧ v.length ≤ 256) (hb : m.b.length ≤ 80000) :
    Calls Tryz.prog 148 #[.pointer (some ⟨g, 0, none⟩), pv nm v] w fun e w' => e = .returned (.int .i64 ((Mk.dataOf m nm (pay nm v)).1 : Nat)) ∧ StpD B g p (Mk.dataOf m nm (pay nm v)).2 w w' := by
  have HPay := Lib.hid fun w => rpayload_any nm v (by omega) w
  have hsl := pay_len nm v
  have hs := pay_all hn hv
  generalize pay nm v = s at *
  obtain ⟨hf1, hf2⟩ := hf
  have hsl400 : s.length ≤ 400 := by omega
  clear hsl
  have HA0 := Lib.hid h
  have HI := Lib.hid I
  have hds := I.ds
  have hbL := I.len
  clear h I
  obtain ⟨A0, hA0⟩ : ∃ x, T nm = x := ⟨_, rfl⟩
  have HNm := Lib.hid hA0
  dsimp only [pv, box] at *
  rw [hA0] at HPay ⊢
  clear hA0
  generalize T v = V at *
  have b1 : Below w.heap.size w ((w.alloc (.cells #[.string A0, .string V] 220)).alloc (.cells #[.string A0, .string V] 220)) := ((Below.refl _ _).alloc (Nat.le_refl _) _).alloc (by simp) _
  have R1 := Lib.hid (show Blk ((w.alloc (.cells #[.string A0, .string V] 220)).alloc (.cells #[.string A0, .string V] 220)) w.heap.size [.string A0, .string V] 220 from (Blk.new w _ _).alloc _)
  have HA := Lib.hid (At.below HA0.out b1)
  have HB1w := Lib.hid b1
  clear b1
  go_enter Tryz.func148, Tryz.ntmps148
  go_upto_region 2 with (first | (go_at_call 194; (with_reducible refine (HPay.out _).mono ?_); rintro e w1 ⟨rfl, rfl⟩) | fail)
  generalize (w.alloc (.cells #[.string A0, .string V] 220)).alloc (.cells #[.string A0, .string V] 220) = w1 at *
  have c4 := At.cd HA.out
  have HL := Lib.hid (ownK_len HA.out.dr)
  have HTx := Lib.hid fun (q : Kn × Value) (hq : q ∈ p.dl) => (HI.out.dat q.1 (by rw [← HA.out.dm]; exact List.mem_map.2 ⟨q, hq, rfl⟩)).2.1
  obtain ⟨nd, hnd⟩ : ∃ n, p.nd = n := ⟨_, rfl⟩
  have HN := Lib.hid hnd
  rw [hnd] at c4 HL
  clear hnd
  have hnd8 : nd ≤ 80000 := by
    have h1 := HI.out.dn
    rw [← HA.out.dm, List.length_map, HL.out] at h1
    omega
  go_wp2
  go_loopw [6] (fun i wr => ∃ k : Nat, k ≤ nd ∧ i = .int .i64 (k : Int) ∧ Hid (∀ j (hj : j < p.dl.length), j < k → p.dl[j].1.text ≠ s) ∧ wr = w1) (fun i _ => nd - (intOf i).toNat)
  case atStart => exact ⟨0, Nat.zero_le _, rfl, Lib.hid fun _ _ h => absurd h (Nat.not_lt_zero _), rfl⟩
  case round =>
    obtain ⟨k, hkk, rfl, hno, rfl⟩ := hrel
    by_cases hlt : k < nd
    · have hki : k < p.dl.length := by rw [HL.out]; exact hlt
      obtain ⟨b, hDb, hbl, d0, d1, d2, d3, d4⟩ := ownK_at HA.out.dr k hki
      rw [hDb] at c4
      clear d1 d2 d3 d4 hDb
      have HAl := Lib.hid (HTx.out _ (List.getElem_mem hki))
      have HLo := Lib.hid fun h : p.dl[k].1.text = s => idxK_at HA.out.dm hki h hno.out
      have HNx := Lib.hid fun (h : p.dl[k].1.text ≠ s) j (hj : j < p.dl.length) (hjk : j < k + 1) => show p.dl[j].1.text ≠ s from by
        rcases Nat.lt_or_ge j k with h1 | h1
        · exact hno.out j hj h1
        · have : j = k := by omega
          subst this
          exact h
      generalize p.dl[k] = q at *
      by_cases he : q.1.text = s
      · have e1 : ((T q.1.text).toList == (T s).toList) = true := by rw [T_beq HAl.out hs]; simp [he]
        have HQ := Lib.hid (HLo.out he)
        have HP := Lib.hid (Path.of_below (g := g) (p := p) HB1w.out)
        clear he HNx HLo HAl HPay
        generalize T q.1.text = Q at *
        generalize T s = R at *
        go_wp2
        go_ret
        unfold Mk.dataOf
        rw [HQ.out]
        exact ⟨rfl, p, HA.out, HP.out, fun x hx => .inl hx, rfl⟩
      · have e1 : ((T q.1.text).toList == (T s).toList) = false := by rw [T_beq HAl.out hs]; simp [he]
        have HQ := Lib.hid (HNx.out he)
        clear he HNx HLo HAl HPay
        generalize T q.1.text = Q at *
        generalize T s = R at *
        go_wp2
        go_roundw
        case rel => exact ⟨k + 1, by omega, by go_num, HQ, trivial⟩
        case measure => simp [intOf]; omega
    · obtain rfl : k = nd := by omega
      have HLo := Lib.hid (idxK_none HA.out.dm fun j hj => hno.out j hj (by rw [← HL.out]; exact hj))
      clear hno HPay
      obtain ⟨ns, hns⟩ : ∃ ns, s.length = ns := ⟨_, rfl⟩
      have HS := Lib.hid hns
      have hns4 : ns ≤ 400 := by omega
      clear hns
      have HO := Lib.hid fun (W : World) (c : Nat) (h : Bytes W (some ⟨wr.heap.size, 0, none⟩) s) => rof_any m.C.keyed m.C.F _ s ns c W HI.out.F h HS.out (by omega)
      go_upto_region 7 with fail
      have HB := Lib.hid HA.out.st.st
      have pk := HB.out.cell (Mk.get_keyed _ _)
      have pF := Mk.file_range HB.out
      obtain ⟨cv, mk, hmk⟩ := text_conv s hs
      have hcv := fun w => (hmk w).1
      simp only [HS.out] at hcv
      have HB1 := Lib.hid ((hmk wr.drew).2.1 wr.heap.size rfl)
      have HG1 := Lib.hid (((Below.refl wr.heap.size wr).drew).trans (hmk wr.drew).2.2.below)
      have HW1 := Lib.hid (HB.out.below HG1.out HB.out.lt)
      have qk := HW1.out.cell (Mk.get_keyed _ _)
      have qF := Mk.file_range HW1.out
      have HCV := Lib.hid hmk
      clear hmk
      have idU := Tryz.underlying50
      have idI : (Tryz.prog.info? 50).map (·.size) = some (fileV m.C).length := by kernel_rfl
      refine wp_region_noPanic ?_
      refine wp_region_held_drew (S := fun w' : World => w'.cell? ⟨g, 51, none⟩ = some (.bool m.C.keyed) ∧ w'.rangeAt g 0 (fileV m.C)) (by kernel_rfl) (by exact ⟨pk, pF⟩) (fun hHeld => ?_)
      refine wpAnyH_take (i := 0) (oi := ⟨some 36, _, _, _, _, _⟩) (v := ?_) rfl (by kernel_rfl) (by kernel_rfl) (by kernel_rfl) (fun _ _ _ h => h) (Or.inl ⟨by rfl, ?_⟩) (by assumption) ?_
      rotate_left
      · intro W hSw; go_simp; try (with_reducible rfl)
      try simp only [Act.put, List.setIfInBounds_toArray, List.set_cons_zero, List.set_cons_succ]
      refine wpAnyH_take (i := 1) (oi := ⟨some 37, _, _, _, _, _⟩) (v := ?_) rfl (by kernel_rfl) (by kernel_rfl) (by kernel_rfl) (fun _ _ _ h => h) (Or.inl ⟨by rfl, ?_⟩) (by assumption) ?_
      rotate_left
      · intro W hSw; go_simp; try (with_reducible rfl)
      try simp only [Act.put, List.setIfInBounds_toArray, List.set_cons_zero, List.set_cons_succ]
      refine wpAnyH_take (i := 2) (oi := ⟨some 38, _, _, _, _, _⟩) (v := ?_) rfl (by kernel_rfl) (by kernel_rfl) (by kernel_rfl) (fun _ _ _ h => h) (Or.inl ⟨by rfl, ?_⟩) (by assumption) ?_
      rotate_left
      · intro W hSw; go_simp; try (with_reducible rfl)
      try simp only [Act.put, List.setIfInBounds_toArray, List.set_cons_zero, List.set_cons_succ]
      refine wpAnyH_take (i := 3) (oi := ⟨some 39, _, _, _, _, _⟩) (v := ?_) rfl (by kernel_rfl) (by kernel_rfl) (by kernel_rfl) (fun _ _ _ h => h) (Or.inl ⟨by rfl, ?_⟩) (by assumption) ?_
      rotate_left
      · intro W hSw; go_simp; try (with_reducible rfl)
      try simp only [Act.put, List.setIfInBounds_toArray, List.set_cons_zero, List.set_cons_succ]
      refine wpAnyH_take (i := 4) (oi := ⟨some 40, _, _, _, _, _⟩) (v := ?_) rfl (by kernel_rfl) (by kernel_rfl) (by kernel_rfl) (fun _ _ _ h => h) (Or.inl ⟨by rfl, ?_⟩) (by assumption) ?_
      rotate_left
      · intro W hSw; have hSx := hSw.1; go_simp; try (with_reducible rfl)
      try simp only [Act.put, List.setIfInBounds_toArray, List.set_cons_zero, List.set_cons_succ]
      refine wpAnyH_take (i := 5) (oi := ⟨some 41, _, _, _, _, _⟩) (v := ?_) rfl (by kernel_rfl) (by kernel_rfl) (by kernel_rfl) (fun _ _ _ h => h) (Or.inl ⟨by rfl, ?_⟩) (by assumption) ?_
      rotate_left
      · intro W hSw; go_simp; try (with_reducible rfl)
      try simp only [Act.put, List.setIfInBounds_toArray, List.set_cons_zero, List.set_cons_succ]
      refine wpAnyH_take (i := 6) (oi := ⟨some 42, _, _, _, _, _⟩) (v := ?_) rfl (by kernel_rfl) (by kernel_rfl) (by kernel_rfl) (fun _ _ _ h => h) (Or.inl ⟨by rfl, ?_⟩) (by assumption) ?_
      rotate_left
      · intro W hSw; go_simp; try (with_reducible rfl)
      try simp only [Act.put, List.setIfInBounds_toArray, List.set_cons_zero, List.set_cons_succ]
      refine wpAnyH_take (i := 7) (oi := ⟨some 43, _, _, _, _, _⟩) (v := ?_) rfl (by kernel_rfl) (by kernel_rfl) (by kernel_rfl) (fun _ _ _ h => h) (Or.inl ⟨by rfl, ?_⟩) (by assumption) ?_
      rotate_left
      · intro W hSw; go_simp; try (with_reducible rfl)
      try simp only [Act.put, List.setIfInBounds_toArray, List.set_cons_zero, List.set_cons_succ]
      refine wpAnyH_take (i := 8) (oi := ⟨some 44, _, _, _, _, _⟩) (v := ?_) rfl (by kernel_rfl) (by kernel_rfl) (by kernel_rfl) (fun _ _ _ h => h) (Or.inl ⟨by rfl, ?_⟩) (by assumption) ?_
      rotate_left
      · intro W hSw; go_simp; try (with_reducible rfl)
      try simp only [Act.put, List.setIfInBounds_toArray, List.set_cons_zero, List.set_cons_succ]
      refine wpAnyH_take (i := 9) (oi := ⟨some 45, _, _, _, _, _⟩) rfl (by kernel_rfl) (by kernel_rfl) (by kernel_rfl) (fun _ _ _ h => h) (yieldsIf_load_mid (by rfl) _ _ rfl _ _ rfl _ _ (fun _ h => h.2) idU rfl idI) (by assumption) ?_
      try simp only [Act.put, List.setIfInBounds_toArray, List.set_cons_zero, List.set_cons_succ]
      refine wpAnyH_take (i := 10) (oi := ⟨some 46, _, _, _, _, _⟩) (v := ?_) rfl (by kernel_rfl) (by kernel_rfl) (by kernel_rfl) (fun _ _ _ h => h) (Or.inl ⟨by rfl, ?_⟩) (by assumption) ?_
      rotate_left
      · intro W hSw; go_simp; try (with_reducible rfl)
      try simp only [Act.put, List.setIfInBounds_toArray, List.set_cons_zero, List.set_cons_succ]
      refine wpAnyH_ready (rs := [11]) (by kernel_rfl) (by simp) ?_
      refine AllReadyH.cons (o := ⟨some 47, _, _, _, _, _⟩) rfl (fun K hK => ?_) AllReadyH.nil
      go_simp
      skip
      try go_wp2_with fail
      refine hK.out _ _ (by exact ⟨qk, qF⟩) (fun hHeld => ?_)
      clear hK K
      try simp only [Act.put, List.setIfInBounds_toArray, List.set_cons_zero, List.set_cons_succ]
      refine wpAnyH_ready (rs := [12]) (by kernel_rfl) (by simp) ?_
      refine AllReadyH.cons (o := ⟨some 48, _, _, _, _, _⟩) rfl (fun K hK => ?_) AllReadyH.nil
      go_simp
      (refine (HO.out _ _ HB1.out).mono ?_); rintro e w2 ⟨rfl, hb2⟩; have HG2 := Lib.hid (HG1.out.trans (hb2.mono HG1.out.size)); have HW2 := Lib.hid (HB.out.below HG2.out HB.out.lt); have rk := HW2.out.cell (Mk.get_keyed _ _); have rF := Mk.file_range HW2.out; clear hb2
      try go_wp2_with fail
      refine hK.out _ _ (by exact ⟨rk, rF⟩) (fun hHeld => ?_)
      clear hK K
      try simp only [Act.put, List.setIfInBounds_toArray, List.set_cons_zero, List.set_cons_succ]
      refine wpAnyH_take (i := 13) (oi := ⟨some 7, _, _, _, _, _⟩) (v := ?_) rfl (by kernel_rfl) (by kernel_rfl) (by kernel_rfl) (fun _ _ _ h => h) (Or.inl ⟨by rfl, ?_⟩) (by assumption) ?_
      rotate_left
      · intro W hSw; go_simp; try (with_reducible rfl)
      try simp only [Act.put, List.setIfInBounds_toArray, List.set_cons_zero, List.set_cons_succ]
      refine wpAnyH_done (by kernel_rfl) ?_ _
      refine NoPanic.normal ?_
      have HA2 := Lib.hid (At.below HA.out HG2.out)
      have HP2 := Lib.hid ((Path.refl g p wr).below HG2.out)
      clear pk pF qk qF rk rF
      clear HO
      have hh0 := ofS_bd m.C.keyed (idL m.C.F) s
      generalize hhh : ofS m.C.keyed (idL m.C.F) s = hh at *
      have HH := Lib.hid hhh
      clear hhh
      have HB3 := Lib.hid ((HCV.out w2).2.1 w2.heap.size rfl)
      have HG3 := Lib.hid (HCV.out w2).2.2.below
      have HPD := Lib.hid fun (W : World) (A : Option Addr) (c : Nat) (h : Bytes W A s) => rputData_any hh 0 0 0 0 0 A s ns c W h HS.out (by omega) (six_I hh0 (by decide) (by decide) (by decide) (by decide) (by decide))
      obtain ⟨hf0, hf1'⟩ := hds
      have hfz : ¬ (m.C.ds : Int) = 0 := by omega
      have hpd : padN (48 + ns) ≤ 8 := by unfold padN; omega
      have hbig : m.b.length + (16 + (48 + ns) + padN (48 + ns)) ≤ 90000 := by omega
      obtain ⟨sl, hsl1, hsl2⟩ : ∃ sl : Nat, hh % (m.C.ds : Int) = (sl : Int) ∧ sl < m.C.ds := ⟨(hh % (m.C.ds : Int)).toNat, by have := Int.emod_nonneg hh hfz; omega, by have := Int.emod_nonneg hh hfz; have := Int.emod_lt_of_pos hh (show (0 : Int) < (m.C.ds : Int) by omega); omega⟩
      go_upto_region 10 with (first
        | (go_at_call 196; (with_reducible refine (HPD.out _ _ _ HB3.out).mono ?_); rintro e w4 ⟨A4, c4', rfl, ho4, hb4⟩; have HO4 := Lib.hid ho4; have HG4 := Lib.hid (HG3.out.trans (hb4.mono HG3.out.size)); have HA4 := Lib.hid (At.below HA2.out HG4.out); have HP4 := Lib.hid (HP2.out.below HG4.out); clear ho4 hb4)
        | (go_at_call 149; (refine (objectS_any A4 _ c4' _ w4 HA4.out HO4.out.bytes HO4.out.2.1 (by omega) (by omega) (by have := HI.out.n7; omega)).mono ?_); rintro e w5 ⟨rfl, b5, cb5, ha5, hp5⟩; have HA5 := Lib.hid ha5; have HP5 := Lib.hid (HP4.out.trans hp5); have f5 : w5.cell? ⟨g, 48, none⟩ = some (.int .i64 (m.C.ds : Int)) := HA5.out.st.st.cell (Mk.get_ds _ _); clear ha5 hp5)
        | fail)
      have HSL := Lib.hid hsl1
      clear hsl1
      obtain ⟨ys, hys⟩ : ∃ x, x = objB 1 (nums [hh, 0, 0, 0, 0, 0] ++ s) := ⟨_, rfl⟩
      rw [← hys] at HA5
      have hyl : (m.object ys).b.length = m.b.length + (16 + (48 + ns) + padN (48 + ns)) := by show (m.b ++ ys).length = _; rw [List.length_append, hys, HO4.out.2.1]
      have hlo : (m.object ys).b.length ≤ 90000 := by rw [hyl]; exact hbig
      have HA5d := Lib.hid (At.drew HA5.out)
      have t144 : w5.drew.cell? ⟨g, 144, none⟩ = some (.slice p.D k p.cd) := HN.out ▸ At.cd (p := { p with bb := b5, cb := cb5 }) HA5d.out
      have n2 : (m.object ys).h.N 2 = ((288 : Nat) : Int) := HI.out.n2
      have t121 : w5.drew.cell? ⟨g, 121, none⟩ = some (.int .u64 ((288 : Nat) : Int)) := (At.cN HA5d.out 2 121 (by decide) rfl).trans (congrArg (fun x => some (Value.int .u64 x)) n2)
      have HDm := Lib.hid HA.out.dm
      have hdl : m.datas.length = k := by rw [← HDm.out, List.length_map, HL.out]
      have HH5 := Lib.hid (hang_any g b5 cb5 (m.object ys).b.length 288 m.b.length sl k p.cd _ _ _ p.D m.datas B w5.drew HA5d.out.st.st (Mk.get_b _ _) HA5d.out.st.own HA5d.out.st.ne (by omega) (HDm.out ▸ ownK_kns HA5d.out.dr) hdl (by have := HI.out.dn; omega) (by omega) (by rw [hyl]; omega) (fun q hq => by have := (HI.out.dat q hq).1; rw [hyl]; omega))
      obtain ⟨iS, hiS⟩ : ∃ x, x = inSlot m.datas sl := ⟨_, rfl⟩
      have hile : iS ≤ k := by rw [hiS, ← hdl]; exact Me.inSlot_le _ _
      rw [← hiS] at HH5
      have HIS := Lib.hid hiS
      clear hiS
      obtain ⟨n19, hn19⟩ : ∃ n : Nat, m.h.N 19 = (n : Int) := ⟨(m.h.N 19).toNat, by have := HI.out.n19; omega⟩
      have HN19 := Lib.hid hn19
      have hmx := max_if n19 iS
      go_region_held3 (fun W => W.cell? ⟨g, 144, none⟩ = some (.slice p.D k p.cd) ∧ W.cell? ⟨g, 121, none⟩ = some (.int .u64 ((288 : Nat) : Int))) (first | (with_reducible exact ⟨t144, t121⟩) | (with_reducible exact ⟨v144, v121⟩) | go_keep) (first
        | (go_at_call 197; (refine HH5.out.mono ?_); rintro e w6 ⟨rfl, ho6, hp6⟩; have HA6 := Lib.hid (At.put8 HA5d.out ho6.2.1 ho6 hp6); have HP6 := Lib.hid (HP5.out.drew.trans (Path.put8 (p := { p with bb := b5, cb := cb5 }) hp6)); have v144 : w6.cell? ⟨g, 144, none⟩ = some (.slice p.D k p.cd) := HN.out ▸ At.cd (p := { p with bb := b5, cb := cb5 }) HA6.out; have v121 : w6.cell? ⟨g, 121, none⟩ = some (.int .u64 ((288 : Nat) : Int)) := (At.cN HA6.out 2 121 (by decide) rfl).trans (congrArg (fun x => some (Value.int .u64 x)) n2); clear ho6 hp6)
        | fail)
      have z138 : w6.cell? ⟨g, 138, none⟩ = some (.int .u64 (n19 : Int)) := (At.cN HA6.out 19 138 (by decide) rfl).trans (congrArg (fun x => some (Value.int .u64 x)) hn19)
      have f138 := At.fz HA6.out 138
      clear t144 t121 v144 v121
      go_upto_region 11 with fail
      go_region
      have HA7 := Lib.hid (At.drew (At.setN HA6.out 19 138 (by decide) rfl ((max n19 iS : Nat) : Int)))
      have HP7 := Lib.hid ((HP6.out.set 138 (.int .u64 ((max n19 iS : Nat) : Int))).drew)
      generalize (w6.setCell ⟨g, 138, none⟩ (.int .u64 ((max n19 iS : Nat) : Int))).drew = w7 at *
      clear z138 f138
      go_upto_region 12 with fail
      have z134 : w7.cell? ⟨g, 134, none⟩ = some (.int .u64 (m.h.N 15)) := At.cN HA7.out 15 134 (by decide) rfl
      have f134 := At.fz HA7.out 134
      have hwr : IntKind.u64.wrap (m.h.N 15 + 1) = m.h.N 15 + 1 := by have := HI.out.n15; rw [IntKind.wrap_u64]; omega
      go_region
      have HA8 := Lib.hid (At.drew (At.setN HA7.out 15 134 (by decide) rfl (m.h.N 15 + 1)))
      have HP8 := Lib.hid ((HP7.out.set 134 (.int .u64 (m.h.N 15 + 1))).drew)
      generalize (w7.setCell ⟨g, 134, none⟩ (.int .u64 (m.h.N 15 + 1))).drew = w8 at *
      clear z134 f134
      have x144 : w8.cell? ⟨g, 144, none⟩ = some (.slice p.D k p.cd) := HN.out ▸ At.cd (p := { p with bb := b5, cb := cb5 }) HA8.out
      go_upto_region 14 with (first
        | (at_builtin; (refine wpList_append_elt_at knElt rfl (.tmp 107) (.tmp 112) rfl B p.D k p.cd (kf p.dl) rfl (HN.out ▸ OwnE.alloc HA8.out.dr _) ⟨w8.heap.size, 0, none⟩ 1 1 (knC ⟨s, m.b.length, sl, 0, []⟩ (.slice none 0 0)) rfl rfl (Blk.news (Blk.new w8 _ 239)) (by simp [knC, Value.oneCell']) (by omega) (by omega) (by unfold maxLen; omega) ?_); intro D9 c9 w9 ho9 hgr9 hat9; have HX9 := Lib.hid (At.pushD HA8.out w9 _ ⟨s, m.b.length, sl, 0, []⟩ (.slice none 0 0) D9 c9 (congrArg (· + 1) HN.out.symm) ho9 hgr9 hat9 (Arr.nil _ _)); have x9 : w9.cell? ⟨g, 144, none⟩ = some (.slice p.D k p.cd) := HN.out ▸ (pushed_st (p := { p with bb := b5, cb := cb5 }) HA8.out hgr9).cell (Mk.get_d _ _); have z9 : w9.frozen? ⟨g, 144, none⟩ = false := (pushed_st HA8.out hgr9).frozen 144; clear ho9 hgr9)
        | fail)
      obtain ⟨ha9, hp9⟩ := HX9.out
      have HP9 := Lib.hid (HP8.out.trans hp9)
      have e1 : ys = Mk.dobj m s := by rw [hys, ← HH.out]; rfl
      have e2 : sl = Mk.dslot m s := by
        have := HSL.out
        rw [← HH.out] at this
        unfold Mk.dslot Mk.sum Cf.file
        rw [this]
        exact (Int.toNat_natCast sl).symm
      have HA9 := Lib.hid (At.same (m' := Mk.put1 m s) ha9 rfl (by
        show setN (setN (m.object ys).h 19 _) 15 _ = setN (setN (m.object (Mk.dobj m s)).h 19 _) 15 _
        rw [e1, ← e2, ← HIS.out, HN19.out]
        congr 2
        omega) rfl (by
        show hung (m.b ++ ys) m.datas 288 m.b.length sl = hung (m.b ++ Mk.dobj m s) m.datas 288 m.b.length (Mk.dslot m s)
        rw [e1, e2]) (by
        show m.datas ++ _ = m.datas ++ _
        rw [e2]) rfl rfl)
      clear ha9 hp9 HX9 x144 x9 z9 e1 e2 hcv HCV HPD HH5
      generalize w9.setCell ⟨g, 144, none⟩ (.slice D9 (k + 1) c9) = w10 at *
      have I1 := inv_put1 HI.out s hs hsl400
      have l1 := put1_len HI.out s
      obtain ⟨d1, d2, d3⟩ := dobj_len m s
      have r0 : w10.cell? ⟨w.heap.size, 0, none⟩ = some (.string A0) := (show Blk w10 w.heap.size _ _ from (HP9.out.kept.block w.heap.size R1.out.lt (fun hf => absurd (At.lt HA0.out _ hf).2 (Nat.lt_irrefl _))).trans R1.out).cell (i := 0) rfl
      obtain ⟨f1, f2, f3, f4, f5, f6, f7, f8, f9⟩ := inv_fieldOf I1 nm hn hf1
      have HF := fieldS_any nm w10 HA9.out I1 hn hf1 (by omega)
      have HG : Mk.dataNew m nm s = Mk.put2 (Mk.fieldOf (Mk.put1 m s) nm).2 m.b.length (Mk.fieldOf (Mk.put1 m s) nm).1 := rfl
      rw [HNm.out] at HF
      generalize (Mk.fieldOf (Mk.put1 m s) nm).1 = k1 at *
      generalize (Mk.fieldOf (Mk.put1 m s) nm).2 = m11 at *
      have HFf := Lib.hid HF
      have HGg := Lib.hid HG
      have HD5 := Lib.hid (show m11.datas.length = k + 1 by rw [f5]; show (m.datas ++ _).length = _; rw [List.length_append, hdl]; rfl)
      clear HF HG f5 f6 f7 f8 f9
      go_upto_region 15 with (first
        | (go_at_call 198; (refine HFf.out.mono ?_); rintro e w11 ⟨rfl, p11, ha11, hp11, hdl11, hM11⟩; have HA11 := Lib.hid ha11; have HP11 := Lib.hid (HP9.out.trans hp11); have HDL11 := Lib.hid hdl11; have HMM11 := Lib.hid hM11; clear ha11 hp11 hdl11 hM11)
        | fail)
      have y143 := At.cb HA11.out
      go_upto_region 18 with (first
        | (go_at_call 161; (refine (rget8 (some ⟨p11.bb, 0, none⟩) m11.b m11.b.length p11.cb (k1 + 32) _ w11 (by omega) rfl (by omega) HA11.out.st.own.bytes (by omega)).mono ?_); rintro e w12 ⟨rfl, rfl⟩)
        | (go_at_call 152; (refine (putS_any (m.b.length + 32) _ (by omega) _ _ HA11.out (by omega) (by omega)).mono ?_); rintro e w12 ⟨rfl, ha12, hp12⟩; have HA12 := Lib.hid ha12; have HP12 := Lib.hid (HP11.out.trans hp12); have hl12 : (put8 m11.b (m.b.length + 32) (u8 m11.b (k1 + 32))).length = m11.b.length := put8_len _ _ _ (by omega); clear ha12 hp12)
        | (go_at_call 152; (refine (putS_any (k1 + 32) _ (by omega) _ _ HA12.out (by rw [hl12]; omega) (by rw [hl12]; omega)).mono ?_); rintro e w13 ⟨rfl, ha13, hp13⟩; have HA13 := Lib.hid ha13; have HP13 := Lib.hid (HP12.out.trans hp13); clear ha13 hp13)
        | fail)
      have hnd11 : p11.nd = k + 1 := by
        rw [← ownK_len HA13.out.dr, ← HD5.out, ← show p11.dl.map Prod.fst = m11.datas from HA13.out.dm, List.length_map]
      have y144 : w13.cell? ⟨g, 144, none⟩ = some (.slice p11.D (k + 1) p11.cd) := hnd11 ▸ At.cd HA13.out
      have HE := Lib.hid (show Mk.dataOf m nm s = (k, Mk.dataNew m nm s) by unfold Mk.dataOf; rw [HLo.out, hdl])
      clear y143
      go_wp2
      go_ret
      rw [HE.out, HGg.out]
      refine ⟨rfl, p11, HA13.out, (Path.of_below HB1w.out).trans HP13.out, fun x hx => ?_, HMM11.out⟩
      rw [HDL11.out] at hx
      rcases List.mem_append.1 hx with hx | hx
      · exact .inl hx
      · rw [List.mem_singleton.1 hx]
        exact .inr ⟨rfl, rfl⟩
end Go.Proofs.YtldkmobncmfodaaGreat.Nee
