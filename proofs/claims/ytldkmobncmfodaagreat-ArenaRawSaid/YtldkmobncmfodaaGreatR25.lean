/-
  Texts beneath the proof, one behind the other.
-/
import Derived.Test.YtldkmobncmfodaaGreatR23
import Derived.Test.YtldkmobncmfodaaGreatR19
import Derived.Test.YtldkmobncmfodaaGreatR20
import Derived.Test.YtldkmobncmfodaaGreatR24

/-
  Makers out of numbers: pairs of at most so many; an entry.
-/
namespace Go.Proofs.YtldkmobncmfodaaGreat.Nr
open Go.ChangeShapes Go.WideShapes Go.ChangeAt Go.RowKit
open Bytes8 Blk8 Own8 OwnE Fa Fb Fc Fo In8 Rows2 Seq8 SeqP Pr8 Ps8 Pl8 Pr2 Pq8 Mi Nq Gb Gi Numb Np
set_option linter.unusedVariables false
set_option linter.unusedSimpArgs false
set_option maxRecDepth 100000

abbrev recL (s r m : Int) (K : Nat → Int) (F : Value) : List Value := [.int .u64 s, .int .u64 r, .int .u64 m, .int .u8 (K 0), .int .u8 (K 1), .int .u8 (K 2), .int .u8 (K 3), .int .u8 (K 4), .int .u8 (K 5), .int .u8 (K 6), .int .u8 (K 7), .int .u8 (K 8), .int .u8 (K 9), .int .u8 (K 10), .int .u8 (K 11), .int .u8 (K 12), .int .u8 (K 13), .int .u8 (K 14), .int .u8 (K 15), F]
abbrev zR : Array Value := #[.int .u64 0, .int .u64 0, .int .u64 0, .int .u8 0, .int .u8 0, .int .u8 0, .int .u8 0, .int .u8 0, .int .u8 0, .int .u8 0, .int .u8 0, .int .u8 0, .int .u8 0, .int .u8 0, .int .u8 0, .int .u8 0, .int .u8 0, .int .u8 0, .int .u8 0, .slice none 0 0]
theorem recInfo (s r m : Int) (K : Nat → Int) (F : Value) : (Tryz.prog.info? 53).map (·.size) = some (recL s r m K F).toArray.size := by kernel_rfl
attribute [local irreducible] wpList Code.wp
end Go.Proofs.YtldkmobncmfodaaGreat.Nr

/-
  Makers out of numbers: a journal.
-/
namespace Go.Proofs.YtldkmobncmfodaaGreat.Nu
open Go.ChangeShapes Go.WideShapes Go.ChangeAt Go.RowKit
open Bytes8 Blk8 Own8 OwnM OwnA OwnE LeA LeNum LeB LeP RefA RefB Rows2 Ob Oc Od Oj Ga Ma Kf Mb Mc Md Me Mf Mg Mh Mi Fa Fb Fc Sg Dc Yc Yd Yk Gb Na Nb Nc Nd Nee Nf Ng Nh Nk Nl Nm No Ya Pr8 Ps8 Pl8 Pr2 Ni Np Nq Nr Ns Nt Seq8
set_option linter.unusedVariables false
set_option linter.unusedSimpArgs false
set_option maxRecDepth 100000

/-- What is so of a journal that is made. -/
structure Good (m : Mk) : Prop where
  img : Img m
  most : m.C.most = 32768
/-- .. of one with so many entries, where there may be so many. -/
structure GoodN (m : Mk) (n mo : Nat) : Prop where
  img : Img m
  most : m.C.most = 32768
  cnt : m.h.N 8 = (n : Int)
  le : n ≤ mo
theorem new_good {C : Cf} (h : CfOk C) (after : Int) (ha : 0 ≤ after ∧ after ≤ 18446744073709551615) : Good (Mk.new C after) := by
  have hds := h.ds
  have hfs := h.fs
  have hl : (Mk.new C after).b.length = 304 + 16 * (C.ds + C.fs) := by
    show (z272 ++ tabB 4 C.ds ++ tabB 5 C.fs).length = _
    rw [List.length_append, List.length_append, tabB_len, tabB_len]
    unfold z272
    rw [List.length_replicate]
    omega
  have hN : ∀ i, (Mk.new C after).h.N i = if i = 9 then after else if i = 7 then 2 else if i = 6 then 288 + 16 * (C.ds : Int) else if i = 5 then 16 * (C.fs : Int) else if i = 4 then 304 + 16 * (C.ds : Int) else if i = 3 then 16 * (C.ds : Int) else if i = 2 then 288 else if i = 0 then 272 else 0 := fun i => rfl
  have hI : Inv (Mk.new C after) :=
    { F := h.F, ds := hds, fs := hfs
      n2 := rfl
      n4 := by
        show _ = ((Mk.tf (Mk.new C after) : Nat) : Int)
        rw [hN 4]
        show 304 + 16 * (C.ds : Int) = ((304 + 16 * C.ds : Nat) : Int)
        omega
      len := by show 304 + 16 * (C.ds + C.fs) ≤ _; omega
      l8 := by omega
      dat := fun k hk => by cases hk
      fld := fun k hk => by cases hk
      mn := ⟨0, rfl, Chain.nil _, Nat.zero_le _⟩
      n7 := by rw [hN 7]; show 0 ≤ (2 : Int) ∧ (2 : Int) ≤ _; omega
      n15 := by rw [hN 15]; show 0 ≤ (0 : Int) ∧ (0 : Int) ≤ _; omega
      n16 := by rw [hN 16]; show 0 ≤ (0 : Int) ∧ (0 : Int) ≤ _; omega
      n18 := by rw [hN 18]; show 0 ≤ (0 : Int) ∧ (0 : Int) ≤ _; omega
      n19 := by rw [hN 19]; show 0 ≤ (0 : Int) ∧ (0 : Int) ≤ _; omega
      dep := Nat.zero_le _
      dn := Nat.zero_le _
      fn := Nat.zero_le _ }
  refine ⟨⟨hI, ⟨rfl, rfl, rfl, rfl, ?_, fun i => ?_, fun i hi => ?_, ⟨Int.le_refl _, by show (0 : Int) ≤ 4294967295; decide⟩, ⟨Int.le_refl _, by show (0 : Int) ≤ 4294967295; decide⟩, ⟨Int.le_refl _, by show (0 : Int) ≤ 18446744073709551615; decide⟩⟩, by omega⟩, h.most⟩
  · show (if C.keyed then (4 : Int) else 0) = 0 ∨ (if C.keyed then (4 : Int) else 0) = 4
    cases C.keyed
    · exact .inl rfl
    · exact .inr rfl
  · show 0 ≤ hdI3 C i ∧ hdI3 C i < 256
    unfold hdI3
    repeat' split
    · exact h.F _
    · exact h.M _
    · decide
    · exact h.S _
  · rw [hN i]
    repeat' split
    all_goals omega
/-- Rows of entries beside a writer. -/
structure Rws (w : World) (B0 : Nat) (A : Option Addr) (n c : Nat) (xs : List Value) : Prop where
  own : OwnE 53 20 w B0 A n c xs
  nil : n = 0 → A = none
  u8 : 0 < n → ∃ v, xs[3]? = some (.int .u8 v)
theorem arr_rows {w w' : World} {B0 : Nat} {A : Option Addr} {n c : Nat} {xs : List Value} {Ft : Nat → Prop} {v : Value} {l : List Nat} (ha : Arr w Ft v l) (h : Rws w B0 A n c xs) {A' : Option Addr} {n' c' : Nat} {news : List Value} (ho : OwnE 53 20 w' B0 A' n' c' (xs ++ news)) (hg : w.grownBy w' (ownB A)) (hA : ownB A' = ownB A) : Arr w' Ft v l := by
  obtain ⟨A2, n2, c2, rfl, hl, hc⟩ := ha
  refine ⟨A2, n2, c2, rfl, hl, fun i hi => ?_⟩
  obtain ⟨b, e, hb, hf, hcell⟩ := hc i hi
  refine ⟨b, e, Nat.lt_of_lt_of_le hb hg.size, hf, ?_⟩
  by_cases hbA : ownB A = some b
  · have hn : 0 < n := by
      rcases Nat.eq_zero_or_pos n with h0 | h0
      · rw [h.nil h0] at hbA; cases hbA
      · exact h0
    have hlen := OwnE.len h.own
    have hlen' : xs.length = n * 20 := hlen
    have hone : ∀ (j : Nat) (hj : j < xs.length), w.cell? ⟨b, j, none⟩ = xs[j]? := fun j hj => by
      obtain ⟨b2, e2, _, _, h2⟩ := OwnE.cell h.own (i := j) (by omega)
      rw [e2] at hbA
      have hbb : b2 = b := by simpa [ownB] using hbA
      subst hbb
      exact h2
    have h3 : i < xs.length := by
      rcases Nat.lt_or_ge i xs.length with h3 | h3
      · exact h3
      · exfalso
        obtain ⟨b3, e3, _, _, hc3⟩ := hc 3 (by omega)
        rw [e] at e3
        injection e3 with e3
        injection e3 with e3
        subst e3
        rw [hone 3 (by omega)] at hc3
        obtain ⟨v, hv⟩ := h.u8 hn
        rw [hv] at hc3
        cases hc3
    obtain ⟨b4, e4, _, _, h4⟩ := OwnE.cell ho (i := i) (by rw [List.length_append]; omega)
    rw [hA.symm.trans (by rw [e4])] at hbA
    have hbb : b4 = b := by simpa [ownB] using hbA
    subst hbb
    rw [h4, List.getElem?_append_left h3, ← hone i h3]
    exact hcell
  · exact (World.cell?_of_block (a := ⟨b, i, none⟩) (hg.block b hb (fun e => hbA e.symm))).trans hcell
theorem At.rows {w w' : World} {B g : Nat} {p : Pl} {m : Mk} (h : At w B g p m) {B0 : Nat} {A : Option Addr} {n c : Nat} {xs : List Value} (hr : Rws w B0 A n c xs) (off : ∀ k, ownB A = some k → ¬ p.foot g k)
    {A' : Option Addr} {n' c' : Nat} {news : List Value} (ho : OwnE 53 20 w' B0 A' n' c' (xs ++ news)) (hg : w.grownBy w' (ownB A)) (hA : ownB A' = ownB A ∨ (ownB A' = some w.heap.size ∧ w.grownBy w' none)) : At w' B g p m := by
  rcases hA with hA | ⟨_, hn⟩
  · have hk := KeptF.grow _ hg
    have off2 : ∀ k, p.foot g k → ¬ (ownB A = some k) := fun k hf e => off k e hf
    exact
      { st := ⟨Kf.Blk.keptF h.st.st hk (off2 _ (.inl rfl)), Kf.Own.keptF h.st.own hk (fun k hk' => off2 k (.inr (.inl (by injection hk' with e; exact e.symm)))), h.st.ne⟩
        dr := Mf.OwnE.keptF h.dr hk (fun k e => off2 k (.inr (.inr (.inl e))))
        fr := Mf.OwnE.keptF h.fr hk (fun k e => off2 k (.inr (.inr (.inr e))))
        dm := h.dm, fm := h.fm
        da := fun q hq => arr_rows (h.da q hq) hr ho hg hA
        ma := arr_rows h.ma hr ho hg hA
        dg := h.dg, fg := h.fg, df := h.df, gB := h.gB, fo := h.fo }
  · exact h.below ⟨hn.os, hn.tape, hn.output, hn.size, fun k hk => hn.block k hk (by simp)⟩
/-- A journal that is made. -/
def MadeJ (gq mo : Nat) (w : World) (e : Ending) (w' : World) : Prop := ∃ (g : Nat) (A : Option Addr) (n c B : Nat) (p : Pl) (m : Mk), e = .returned (.tuple #[.pointer (some ⟨g, 0, none⟩), .slice A n c]) ∧ w.heap.size ≤ B ∧ At w' B g p m ∧ GoodN m n mo ∧ KeptB w.heap.size gq w w'
theorem rec_range {w : World} {g : Nat} {T : TypeId} {s r m : Int} {K : Nat → Int} {F : Value} (h : Blk w g (recL s r m K F) T) : w.rangeAt g 3 (idJ K) := fun j v hj => by
  have hl : j < 16 := (List.getElem?_eq_some_iff.1 hj).1
  refine h.cell (i := 3 + j) ?_
  rw [idJ_get K j hl] at hj
  rcases j with _ | _ | _ | _ | _ | _ | _ | _ | _ | _ | _ | _ | _ | _ | _ | _ | j
  all_goals first | exact hj | omega
attribute [local irreducible] Mk.cells HD.cells Cf.cells wpList Code.wp
set_option maxHeartbeats 8000000 in
theorem maker_few (gq : Nat) (a : Option Addr) (len cap : Nat) (f : Nat → Int) (k : Nat) (mo : Nat) (w : World) (h : SeqIn w gq a len cap f k) (hmo : mo ≤ 1000) (hfew : len ≤ k + 6) :
    Calls Tryz.prog 46 #[.pointer (some ⟨gq, 0, none⟩), .int .i64 (mo : Int)] w (MadeJ gq mo w) := by
  have hgq := h.1.lt
  have Q0 := Lib.hid h
  have HW0 := Lib.hid (show 0 < len → ∀ b off, a = some ⟨b, off, none⟩ → b < w.heap.size from fun h0 b off e => by obtain ⟨b', off', e', h1, _⟩ := h.2.1 0 h0; rw [e] at e'; injection e' with e'; injection e' with e'; omega)
  have HC := Lib.hid (config_any gq a len cap f k w h)
  have HS := Lib.hid fun (b : Int) (h1 : 1 ≤ b) (h2 : b ≤ 1000000) (j : Nat) (W : World) (hW : SeqIn W gq a len cap f j) => seqN_at gq a len cap f j b W h1 h2 hW
  have HNm := Lib.hid fun (C : Cf) (x : Int) (W : World) (hds : 0 < C.ds ∧ C.ds ≤ 64) (hfs : 0 < C.fs ∧ C.fs ≤ 64) => newmaker_any C x W hds hfs
  clear h
  go_enter Tryz.func46, Tryz.ntmps46
  go_upto_region 2 with (first
    | (go_at_call 86; (with_reducible refine HC.out.mono ?_); rintro e w1 ⟨C, rfl, hok1, hq1, hk1⟩; have HOk := Lib.hid hok1; have Q1 := Lib.hid hq1; have K1 := Lib.hid hk1; clear hok1 hq1 hk1)
    | ((with_reducible apply at_store (.tmp 6) (.tmp 13)); refine wpList_store_row rfl 176 (.tmp 6) (.tmp 13) rfl w1.heap.size (Cf.cells C).toArray rfl rfl 176 zC (heap_alloc_new w1 _) (cf_info _) (cf_zeros _) (Cf.one _) ?_)
    | fail)
  have R2 := Lib.hid (show Blk ((w1.alloc (.cells zC 176)).setRow w1.heap.size (Cf.cells C).toArray) w1.heap.size (Cf.cells C) 176 from setRow_heap _ _ _ _ _ (0, 0) (heap_alloc_new w1 _))
  have B2 := Lib.hid (show Below w1.heap.size w1 ((w1.alloc (.cells zC 176)).setRow w1.heap.size (Cf.cells C).toArray) from below_setRow ((Below.refl _ _).alloc (Nat.le_refl _) _) (Nat.le_refl _) _)
  generalize (w1.alloc (.cells zC 176)).setRow w1.heap.size (Cf.cells C).toArray = w2 at *
  have Q2 := Lib.hid (Q1.out.below B2.out)
  have K2 := Lib.hid (K1.out.trans (KeptB.of_below (B2.out.mono K1.out.size)))
  have hs2 := R2.out.lt
  have hgs : gq < w1.heap.size := Q1.out.1.lt
  generalize w1.heap.size = s at *
  clear Q0 HC Q1 K1 B2
  have Q2d := Lib.hid (Q2.out.below (Below.refl _ _).drew)
  have K2d := Lib.hid (K2.out.drew)
  have R2d := Lib.hid (R2.out.drew)
  have hs2d : s < w2.drew.heap.size := hs2
  have S2 := Lib.hid (show w2.drew.rangeAt s 0 (Cf.cells C) from fun j v hj => by rw [Nat.zero_add]; exact R2.out.cell hj)
  refine wp_region_noPanic ?_
  refine wp_region_held_drew (S := fun W : World => W.rangeAt s 0 (Cf.cells C)) (by kernel_rfl) (by exact S2.out) (fun hHeld => ?_)
  refine wpAnyH_take (i := 0) (oi := ⟨some 14, _, _, _, _, _⟩) rfl (by kernel_rfl) (by kernel_rfl) (by kernel_rfl) (fun _ _ _ h => h) (yieldsIf_load_mid (by rfl) _ _ rfl _ _ rfl _ _ (fun _ h => h) Tryz.underlying176 rfl (Cf.info C)) (by assumption) ?_
  try simp only [Act.put, List.setIfInBounds_toArray, List.set_cons_zero, List.set_cons_succ]
  refine wpAnyH_take (i := 1) (oi := ⟨some 15, _, _, _, _, _⟩) (v := ?_) rfl (by kernel_rfl) (by kernel_rfl) (by kernel_rfl) (fun _ _ _ h => h) (Or.inl ⟨by rfl, ?_⟩) (by assumption) ?_
  rotate_left
  · intro W hSw; go_simp; try (with_reducible rfl)
  try simp only [Act.put, List.setIfInBounds_toArray, List.set_cons_zero, List.set_cons_succ]
  refine wpAnyH_ready (rs := [2]) (by kernel_rfl) (by simp) ?_
  refine AllReadyH.cons (o := ⟨some 16, _, _, _, _, _⟩) rfl (fun K hK => ?_) AllReadyH.nil
  go_simp
  (refine (HS.out 6 (by decide) (by decide) _ _ Q2d.out).mono ?_); rintro e w3 ⟨r6, rfl, hr6, hq3, hk3⟩; have hwr6 : IntKind.u64.wrap (r6 : Int) = (r6 : Int) := by { rw [IntKind.wrap_u64]; omega }; have Q3 := Lib.hid hq3; have K3 := Lib.hid (K2d.out.trans (hk3.mono K2d.out.size)); have R3 := Lib.hid (Seq8.Blk.keptB R2d.out hk3 hs2d (Nat.ne_of_gt hgs)); have S3 := Lib.hid (show w3.rangeAt s 0 (Cf.cells C) from fun j v hj => by { rw [Nat.zero_add]; exact R3.out.cell hj }); clear hq3 hk3
  try go_wp2_with fail
  refine hK.out _ _ (by exact S3.out) (fun hHeld => ?_)
  clear hK K
  try simp only [Act.put, List.setIfInBounds_toArray, List.set_cons_zero, List.set_cons_succ]
  refine wpAnyH_take (i := 3) (oi := ⟨some 17, _, _, _, _, _⟩) (v := ?_) rfl (by kernel_rfl) (by kernel_rfl) (by kernel_rfl) (fun _ _ _ h => h) (Or.inl ⟨by rfl, ?_⟩) (by assumption) ?_
  rotate_left
  · intro W hSw; go_simp; try (with_reducible rfl)
  try simp only [Act.put, List.setIfInBounds_toArray, List.set_cons_zero, List.set_cons_succ]
  refine wpAnyH_ready (rs := [4]) (by kernel_rfl) (by simp) ?_
  refine AllReadyH.cons (o := ⟨some 18, _, _, _, _, _⟩) rfl (fun K hK => ?_) AllReadyH.nil
  go_simp
  (refine (HNm.out C _ _ HOk.out.ds HOk.out.fs).mono ?_); rintro e w4 ⟨g, rfl, ⟨p4, hat4⟩, hb4⟩; have B4 := Lib.hid hb4; have S4 := Lib.hid (show w4.rangeAt s 0 (Cf.cells C) from fun j v hj => by { rw [Nat.zero_add]; exact (R3.out.below hb4 R3.out.lt).cell hj }); clear hb4
  try go_wp2_with fail
  refine hK.out _ _ (by exact S4.out) (fun hHeld => ?_)
  clear hK K
  try simp only [Act.put, List.setIfInBounds_toArray, List.set_cons_zero, List.set_cons_succ]
  refine wpAnyH_take (i := 5) (oi := ⟨some 7, _, _, _, _, _⟩) (v := ?_) rfl (by kernel_rfl) (by kernel_rfl) (by kernel_rfl) (fun _ _ _ h => h) (Or.inl ⟨by rfl, ?_⟩) (by assumption) ?_
  rotate_left
  · intro W hSw; go_simp; try (with_reducible rfl)
  try simp only [Act.put, List.setIfInBounds_toArray, List.set_cons_zero, List.set_cons_succ]
  refine wpAnyH_done (by kernel_rfl) ?_ _
  refine NoPanic.normal ?_
  have HAt := Lib.hid hat4
  have Q4 := Lib.hid (Q3.out.below B4.out)
  have K4 := Lib.hid (K3.out.trans (KeptB.of_below (B4.out.mono K3.out.size)))
  have hBw : w.heap.size ≤ w3.heap.size := K3.out.size
  have HG := Lib.hid (show GoodN (Mk.new C (r6 : Int)) 0 mo from ⟨(new_good HOk.out _ (by omega)).img, (new_good HOk.out _ (by omega)).most, rfl, Nat.zero_le _⟩)
  generalize Mk.new C (r6 : Int) = m0 at *
  generalize w3.heap.size = B at *
  clear hat4 Q2 K2 R2 hs2 Q2d S2 K2d R2d hs2d HNm HS HOk hwr6 hr6 hgs
  go_upto_region 4 with fail
  have hkl : min (min (k + 6) len + 1) len = len := by omega
  have Q5 := Lib.hid (by have q := Q4.out; rw [hkl] at q; exact q)
  have HMr := Lib.hid (more_any gq a len cap f len w4 Q5.out)
  rw [show decide (len < len) = false by simp] at HMr
  clear Q4 Q5 hkl
  go_loopw [8] (fun a8 wr => a8 = .slice none 0 0 ∧ w4 = wr) (fun _ _ => 0)
  case atStart => exact ⟨rfl, rfl⟩
  case round =>
    obtain ⟨rfl, rfl⟩ := hrel
    by_cases h0 : 0 < mo
    · have d1 : decide ((0 : Int) < (mo : Int)) = true := by simp; omega
      go_wp2_with (first
        | (go_at_call 89; (refine HMr.out.mono ?_); rintro e w5 ⟨rfl, hb5⟩; have B5 := Lib.hid hb5; clear hb5)
        | fail)
      go_ret2
      exact ⟨g, none, 0, 0, B, p4, m0, rfl, hBw, At.below HAt.out B5.out, HG.out, K4.out.trans (KeptB.of_below (B5.out.mono K4.out.size))⟩
    · have d1 : decide ((0 : Int) < (mo : Int)) = false := by simp; omega
      go_wp2_with fail
      go_ret2
      exact ⟨g, none, 0, 0, B, p4, m0, rfl, hBw, HAt.out, HG.out, K4.out⟩
/-- .. and how many entries there are. -/
def ImagedN (mo : Nat) (w : World) (e : Ending) (w' : World) : Prop := ∃ (A : Option Addr) (c : Nat) (m : Mk) (n : Nat), e = .returned (.slice A m.b.length c) ∧ GoodN m n mo ∧ Own w' w.heap.size A m.b.length c (imgB m) ∧ Below w.heap.size w w'
set_option maxHeartbeats 4000000 in
theorem image_few (a : Option Addr) (len cap : Nat) (f : Nat → Int) (mo : Nat) (w : World) (hI : InInts .i64 w a len f) (hl : len ≤ 9223372036854775807) (hmo : mo ≤ 1000) (hfew : len ≤ 6) :
    Calls Tryz.prog 10 #[.slice a len cap, .int .i64 (mo : Int)] w (ImagedN mo w) := by
  have Q1 := Lib.hid (show SeqIn (w.alloc (.cells #[.slice a len cap, .int .i64 0] 92)) w.heap.size a len cap f 0 from ⟨Blk.new w [.slice a len cap, .int .i64 0] _, hI.below ((Below.refl _ _).alloc (Nat.le_refl _) _), fun h0 b off e => by obtain ⟨b', off', e', h1, _⟩ := hI 0 h0; rw [e] at e'; injection e' with e'; injection e' with e'; omega, Nat.zero_le _, hl⟩)
  have b1 := Lib.hid ((Below.refl w.heap.size w).alloc (Nat.le_refl _) (.cells #[.slice a len cap, .int .i64 0] 92))
  have HM := Lib.hid (maker_few w.heap.size a len cap f 0 mo _ Q1.out hmo (by omega))
  unfold MadeJ at HM
  clear hI
  go_enter Tryz.func10, Tryz.ntmps10
  go_upto_region 2 with (first
    | (go_at_call 46; (refine HM.out.mono ?_); rintro e w2 ⟨g, A, n, c, B, p, m, rfl, hB, hat, hgd, hk⟩; have HA := Lib.hid hat; have HG := Lib.hid hgd; have HK := Lib.hid hk; clear hat hgd hk)
    | fail)
  obtain ⟨l1, l2, l3⟩ := HG.out.img.lens
  have HIm := Lib.hid (image_any B g p.bb p.cb p.S m 1 w2 HA.out.st (by omega) (head_ok HG.out.img) (by have := HG.out.img.inv.dep; omega))
  unfold Owned at HIm
  have B2 := Lib.hid (b1.out.trans (KeptB.below (HK.out.mono b1.out.size) (Nat.le_refl _)))
  clear Q1 HM
  go_wp2_with (first
    | (go_at_call 47; (refine HIm.out.mono ?_); rintro e w3 ⟨A3, c3, rfl, ho3, hb3⟩; have HO3 := Lib.hid ho3; have HB3 := Lib.hid hb3; clear ho3 hb3)
    | fail)
  go_ret
  exact ⟨A3, c3, m, n, rfl, HG.out, Own.base HO3.out B2.out.size, B2.out.trans (HB3.out.mono B2.out.size)⟩
end Go.Proofs.YtldkmobncmfodaaGreat.Nu
