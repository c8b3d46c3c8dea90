/-
  Texts beneath the proof, one behind the other.
-/
import Derived.Test.YtkdbgilnehjpmaaQc27
import Derived.Test.YtkdbgilnehjpmaaQc24
/-
  A journal whose head says another number of entries, plainly.
-/
namespace Go.Proofs.Ytkdbgilnehjpmaa.Zi
open Bytes8 LeNum LeAl Ob Oc Ga Gb Gf Gj Gm Ma Mb Mh Na Nb Nc Nt Nv Za Zb Zc Zd Zg Yp Yh Va Wa Ls Zh
open Go1 (hcode magicB)
set_option linter.unusedVariables false
set_option linter.unusedSimpArgs false
set_option maxRecDepth 100000
def cutH (m : Mk) (n : Int) : HD := setN (imgH m) 8 n
def cutB (m : Mk) (n : Int) : List Int := (cutH m n).bytes 21 ++ m.b.drop 272
theorem cutH_N (m : Mk) (n : Int) (i : Nat) (hi : i < 20) (h8 : i ≠ 8) : (cutH m n).N i = if i = 1 then (m.b.length : Int) - 272 else m.h.N i := by
  unfold cutH
  rw [setN_ne _ _ _ _ h8]
  exact imgH_N m i hi
theorem cut_ok {m : Mk} (h : Img m) {n : Int} (hn : 0 ≤ n ∧ n ≤ 18446744073709551615) : (cutH m n).Ok 21 := by
  have k := imgH_ok h
  exact
    { cp := k.cp, ic := k.ic, st := k.st, I := k.I, ta := k.ta, ti := k.ti, te := k.te
      N := fun i => by
        by_cases e : i = 8
        · subst e; unfold cutH; rw [setN_same]; exact hn
        · unfold cutH; rw [setN_ne _ _ _ _ e]; exact k.N i }
theorem cut_len {m : Mk} (h : Img m) (n : Int) : (cutB m n).length = m.b.length := by
  have := h.lens
  unfold cutB
  rw [List.length_append, HD.bytes_len, List.length_drop]
  omega
theorem cut_says {m : Mk} (h : Img m) {n : Int} (hn : 0 ≤ n ∧ n ≤ 18446744073709551615) : Says (hdOf (cutB m n)) (cutH m n) := by
  have k := hd_back (cutH m n) (cut_ok h hn) (by show 0 ≤ (1 : Int) ∧ (1 : Int) < 256; decide) (m.b.drop 272)
  exact k
theorem cut_fcode {m : Mk} (h : Img m) (n : Int) (N : Int) : fcode (cutH m n) N = fcode (imgH m) N := by
  have e : ∀ i, i ≠ 8 → (cutH m n).N i = (imgH m).N i := fun i hi => setN_ne _ _ _ _ hi
  unfold fcode endV endB
  rw [e 0 (by decide), e 1 (by decide), e 2 (by decide), e 3 (by decide), e 4 (by decide), e 5 (by decide)]
  rfl
theorem cut_hcode {m : Mk} (h : Img m) {n : Int} (hn : 0 ≤ n ∧ n ≤ 18446744073709551615) : hcode (cutB m n) m.b.length = 0 := by
  have hl := h.lens
  unfold hcode
  rw [if_neg (by omega), show magicB (cutB m n) = true from magic_back _ _ _, if_neg (by simp), (cut_says h hn).fcode, cut_fcode h, img_fcode h _ (by omega)]
theorem cut_end {m : Mk} (h : Img m) {n : Int} (hn : 0 ≤ n ∧ n ≤ 18446744073709551615) : endV (hdOf (cutB m n)) = (m.b.length : Int) ∧ endB (hdOf (cutB m n)) = true := by
  have s := cut_says h hn
  have e0 := (s.N 0 (by decide)).trans (cutH_N m n 0 (by decide) (by decide))
  have e1 := (s.N 1 (by decide)).trans (cutH_N m n 1 (by decide) (by decide))
  obtain ⟨l1, l2, l3⟩ := h.lens
  rw [if_neg (by decide), h.hg.n0] at e0
  rw [if_pos rfl] at e1
  unfold endV endB
  rw [e0, e1]
  constructor
  · split <;> omega
  · simp; omega
/-- The entries that are told then. -/
theorem cut_chase {m : Mk} {n0 : Nat} {os : List O} {hs : Nat → List Nat} {mi : List Nat} {es : List (Nat × List Int)} (k : Kept m n0 os hs mi es) {n : Int} (hn : 0 ≤ n ∧ n ≤ 18446744073709551615) :
    chase (hdOf (cutB m n)) (cutB m n) m.b.length ((hdOf (cutB m n)).N 8) 14 2 (m.b.length + 1) [] ((hdOf (cutB m n)).N 11).toNat 0 = told m.main mi n 14 2 := by
  have hI := k.good.img
  have s := cut_says hI hn
  have hL := cut_len hI n
  have e0 := (s.N 0 (by decide)).trans (cutH_N m n 0 (by decide) (by decide))
  rw [if_neg (by decide), hI.hg.n0] at e0
  have e8 : (hdOf (cutB m n)).N 8 = n := (s.N 8 (by decide)).trans (setN_same _ _ _)
  have e11 := (s.N 11 (by decide)).trans (cutH_N m n 11 (by decide) (by decide))
  rw [if_neg (by decide), k.n11] at e11
  rw [e8, e11, Int.toNat_natCast]
  have hl : cutB m n = (cutH m n).bytes 21 ++ enc os := by unfold cutB; rw [k.hold.rep.rep.eq]
  have q := chase_arr (h := hdOf (cutB m n)) hl (by rw [HD.bytes_len]) k.hold.rep.ok e0 k.hold.mn k.rise (fun x hx => by have := k.bd x hx; rw [hL]; omega) n 14 2 (m.b.length + 1) 0 0 (Nat.zero_le _) (Nat.zero_le _) hn.1 (fun _ => rfl) (fun h => absurd h (by decide)) (Nat.zero_le _) (by rw [hL]; omega)
  rw [hL] at q
  have e : m.main.getD 0 0 = m.main.headD 0 := by cases m.main <;> rfl
  rw [e] at q
  exact q
theorem told_len (arr its : List Nat) (n : Int) (hn : 0 ≤ n) : ((told arr its n 14 2).1.length : Int) = (if n ≤ its.length then n else its.length) ∧ ((told arr its n 14 2).2 = 0 ↔ n ≤ its.length) ∧ ((told arr its n 14 2).2 = 0 ∨ (told arr its n 14 2).2 = 2 ∨ (told arr its n 14 2).2 = 14) := by
  unfold told
  by_cases h : n ≤ its.length
  · rw [if_pos h, if_pos h]
    refine ⟨?_, by simp [h], .inl rfl⟩
    rw [List.length_map, List.length_take]; omega
  · rw [if_neg h, if_neg h]
    refine ⟨by rw [List.length_map], ?_, ?_⟩
    · constructor
      · intro h1
        dsimp only at h1
        split at h1 <;> cases h1
      · intro h1; exact absurd h1 h
    · dsimp only
      split
      · exact .inr (.inr rfl)
      · exact .inr (.inl rfl)
end Go.Proofs.Ytkdbgilnehjpmaa.Zi
/-
  The walk of LinkCut.
-/
namespace Go.Proofs.Ytkdbgilnehjpmaa.LinkCutW
open Go.ChangeShapes Go.WideShapes Go.ChangeAt Go.RowKit
open Bytes8 Blk8 Own8 OwnM OwnE LeA LeNum LeP Rows2 Ob Oc Od Ga Gb Gc Gd Gf Gi Gj Numb Ma Mb Mh Na Ns Nt Nu Nv Ra Rc Rp Va Wa Ls Zg Zh Zi Seq8
open Go1 (hcode HTold)
open Gp (cells_set)
open Lk (first_link)
set_option linter.unusedVariables false
set_option linter.unusedSimpArgs false
set_option maxRecDepth 100000
theorem cells_N8 (h : HD) (n : Int) : (h.cells 21).set 75 (.int .u64 n) = (setN h 8 n).cells 21 := by
  refine cells_set _ _ 21 _ _ (by omega) ?_ (fun i hi hne => ?_)
  · show (setN h 8 n).at_ 21 75 = _
    unfold HD.at_
    simp [setN]
  · show (setN h 8 n).at_ 21 i = h.at_ 21 i
    unfold HD.at_
    simp only [setN]
    repeat' split
    all_goals first | rfl | omega
theorem hcells_len (h : HD) : (Try.prog.info? 38).map (·.size) = some (h.cells 21).length := by rw [headInfo]; simp [HD.len]
theorem whole {w : World} {g : Nat} {T : TypeId} {h : HD} {m : Nat} (hb : Blk w g (h.cells m) T) : w.rangeAt g 0 (h.cells m) := fun j v hj => by rw [Nat.zero_add]; exact hb.cell hj
attribute [local irreducible] HD.cells wpList Code.wp
set_option maxHeartbeats 16000000 in
theorem walk_main (a : Option Addr) (len cap : Nat) (f : Nat → Int) (by_ : Int) (w : World) (hI : InInts .i64 w a len f) (hl : len ≤ 200) :
    Calls Try.prog 3 #[.slice a len cap, .int .i64 by_] w fun e w' => e = .returned (.bool true) ∧ Below w.heap.size w w' := by
  have d1 : decide ((200 : Int) < (len : Int)) = false := by simp; omega
  have HI := Lib.hid hI
  clear hI
  go_enter Try.func3, Try.ntmps3
  go_upto_region 6 with (go_at_call 4; ((with_reducible refine (first_link _).mono ?_); rintro e w1 ⟨rfl, hb1⟩; have B1 := Lib.hid hb1; clear hb1))
  clear d1
  have HI1 := Lib.hid (HI.out.below B1.out)
  have Q1 := Lib.hid (show SeqIn (w1.alloc (.cells #[.slice a len cap, .int .i64 0] 30)) w1.heap.size a len cap f 0 from ⟨Blk.new w1 [.slice a len cap, .int .i64 0] _, HI1.out.below ((Below.refl _ _).alloc (Nat.le_refl _) _), fun h0 b off e => by obtain ⟨b', off', e', h1, _⟩ := HI1.out 0 h0; rw [e] at e'; injection e' with e'; injection e' with e'; omega, Nat.zero_le _, by omega⟩)
  have b1 := Lib.hid ((Below.refl w1.heap.size w1).alloc (Nat.le_refl _) (.cells #[.slice a len cap, .int .i64 0] 30))
  have HM := Lib.hid (maker_any w1.heap.size a len cap f 0 20 _ Q1.out (by decide))
  unfold MadeJ at HM
  go_upto_region 7 with (first
    | (go_at_call 5; (refine HM.out.mono ?_); rintro e w2 ⟨g, A, n, c, B, p, m, rfl, hB, hat, hgd, hk⟩; have HA := Lib.hid hat; have HG := Lib.hid hgd; have HK := Lib.hid hk; clear hat hgd hk)
    | fail)
  have hI := HG.out.img
  obtain ⟨l1, l2, l3⟩ := hI.lens
  have hn20 := HG.out.le
  have hcnt := HG.out.cnt
  obtain ⟨rs, hrs, hrl⟩ := HG.out.rch
  obtain ⟨os, hs, mi, es, hkept⟩ := kept_reach hrs
  have hml : mi.length = n := by rw [hkept.len, hrl]
  have HKp := Lib.hid hkept
  have HIm := Lib.hid (image_any B g p.bb p.cb p.S m 1 w2 HA.out.st (by omega) (head_ok hI) (by have := hI.inv.dep; omega))
  unfold Owned at HIm
  have B2 := Lib.hid (B1.out.trans ((b1.out.trans (KeptB.below (HK.out.mono b1.out.size) (Nat.le_refl _))).mono B1.out.size))
  clear Q1 HM hrs hkept b1 HI HI1
  go_upto_region 8 with (first
    | (go_at_call 6; (refine HIm.out.mono ?_); rintro e w3 ⟨A3, c3, rfl, ho3, hb3⟩; have HO3 := Lib.hid ho3; have B3 := Lib.hid (B2.out.trans (hb3.mono B2.out.size)); clear ho3 hb3)
    | fail)
  have hLB := imgB_len hI
  have hcap := own_cap HO3.out
  have HB3 := Lib.hid (show Bytes w3 A3 (imgB m) from HO3.out.bytes)
  have hok := imgH_ok hI
  have hN8 : (imgH m).N 8 = (n : Int) := by rw [imgH_N m 8 (by decide), if_neg (by decide)]; exact hcnt
  have R1 := Lib.hid (by have h := read_img hI [] A3 m.b.length c3 w3 (by rw [List.append_nil]; exact HB3.out) (by rw [List.append_nil]; exact hLB) (by omega) hcap.1; exact h)
  unfold HTold at R1
  clear HIm HO3 HA HK
  go_upto_region 9 with (first
    | (go_at_call 7; ((refine R1.out.mono ?_); rintro e w4 ⟨rfl, hb4⟩; have B4 := Lib.hid hb4; clear hb4))
    | ((with_reducible apply at_store (.tmp 9) (.tmp 35)); refine wpList_store_row rfl 38 (.tmp 9) (.tmp 35) rfl w4.heap.size ((imgH m).cells 21).toArray rfl rfl 38 Try.zeroCells38 (heap_alloc_new w4 _) (cells_info _) zeros_size (HD.one _ 21) ?_)
    | fail)
  have R4 := Lib.hid (show Blk ((w4.alloc (.cells Try.zeroCells38 38)).setRow w4.heap.size ((imgH m).cells 21).toArray) w4.heap.size ((imgH m).cells 21) 38 from setRow_heap _ _ _ _ _ (0, 0) (heap_alloc_new w4 _))
  have B5 := Lib.hid (show Below w3.heap.size w3 ((w4.alloc (.cells Try.zeroCells38 38)).setRow w4.heap.size ((imgH m).cells 21).toArray) from below_setRow (B4.out.alloc B4.out.size _) B4.out.size _)
  have hs9 : w3.heap.size ≤ w4.heap.size := B4.out.size
  generalize (w4.alloc (.cells Try.zeroCells38 38)).setRow w4.heap.size ((imgH m).cells 21).toArray = w5 at *
  generalize w4.heap.size = s9 at *
  clear R1 B4
  have c75 : w5.cell? ⟨s9, 75, none⟩ = some (.int .u64 (n : Int)) := by have k := R4.out.cell ((imgH m).get_N 21 8 (by decide)); rw [hN8] at k; exact k
  have f75 := R4.out.frozen 75
  have hwn : IntKind.u64.wrap (n : Int) = (n : Int) := by rw [IntKind.wrap_u64]; omega
  have hwa : IntKind.i64.wrap ((n : Int) + 40) = (n : Int) + 40 := by rw [IntKind.wrap_i64]; omega
  obtain ⟨j, hjn, hjb⟩ := below_nat by_ ((n : Int) + 40) (by omega)
  have HNum := Lib.hid fun (W : World) => number_nat by_ ((n : Int) + 40) j W (by omega) (by omega) hjn.out
  have hwj : IntKind.u64.wrap (j : Int) = (j : Int) := by rw [IntKind.wrap_u64]; omega
  clear hjn
  go_upto_region 13 with (first
    | (go_at_call 8; ((refine (HNum.out _).mono ?_); rintro e w' ⟨rfl, rfl⟩))
    | fail)
  have R6 := Lib.hid (show Blk (w5.setCell ⟨s9, 75, none⟩ (.int .u64 (j : Int))) s9 ((cutH m (j : Int)).cells 21) 38 from by
    have h := R4.out.set_ 75 (.int .u64 (j : Int))
    rw [cells_N8] at h
    exact h)
  have B6 := Lib.hid (show Below w3.heap.size w3 (w5.setCell ⟨s9, 75, none⟩ (.int .u64 (j : Int))) from B5.out.setCell (p := ⟨s9, 75, none⟩) hs9 _)
  generalize w5.setCell ⟨s9, 75, none⟩ (.int .u64 (j : Int)) = w6 at *
  clear c75 f75 R4 B5
  have hj2 : 0 ≤ (j : Int) ∧ (j : Int) ≤ 18446744073709551615 := by omega
  have okc := cut_ok hI hj2
  have HPut := Lib.hid fun (W : World) => hput_any (cutH m (j : Int)) okc W
  unfold Owned at HPut
  obtain ⟨d, hd⟩ : ∃ d, m.b.length = 272 + d := ⟨m.b.length - 272, by omega⟩
  have hcut : ∀ W : World, (Instr.slice 31 (.slice A3 m.b.length c3) (some (.int .i64 272)) none none).run Try.prog W = .ok (.slice (cutA A3 c3 272) d (c3 - 272)) W := fun W => by
    have k := cut_l A3 m.b.length c3 272 (by omega) W
    rwa [show m.b.length - 272 = d by omega] at k
  have D6 := Lib.hid (show Below w6.heap.size w6 w6.drew from (Below.refl w6.heap.size w6).drew)
  have HS := Lib.hid fun (W : World) (hW : Below w6.heap.size w6 W) => show (fun W : World => W.rangeAt s9 0 ((cutH m (j : Int)).cells 21)) W from whole (R6.out.below hW R6.out.lt)
  have hdr : (imgB m).drop 272 = m.b.drop 272 := by
    unfold imgB
    rw [List.drop_append_of_le_length (by rw [HD.bytes_len]; decide), List.drop_of_length_le (by rw [HD.bytes_len]; decide), List.nil_append]
  have HBd := Lib.hid fun (W : World) (hW : Below w6.heap.size w6 W) => show Bytes W (cutA A3 c3 272) (m.b.drop 272) from by
    have h := Bytes.cut ((HB3.out.below B6.out (Nat.le_refl _)).below hW (Nat.le_refl _)) c3 272 (m.b.length - 272) (by rw [hLB]; exact hcap.1)
    rw [List.take_of_length_le (by rw [List.length_drop, hLB]; exact Nat.le_refl _), hdr] at h
    exact h
  have hLd : (m.b.drop 272).length = d := by rw [List.length_drop]; omega
  have hLp := HD.bytes_len (cutH m (j : Int)) 21
  have hch := cut_chase HKp.out hj2
  have hlen := cut_len hI (j : Int)
  have hz := cut_hcode hI hj2
  obtain ⟨he1, he2⟩ := cut_end hI hj2
  have hcb : (cutH m (j : Int)).bytes 21 ++ m.b.drop 272 = cutB m (j : Int) := rfl
  obtain ⟨q1, q2, q3⟩ := told_len m.main mi (j : Int) (by omega)
  rw [hml] at q1 q2
  rw [hd] at hch hz he1 hlen
  generalize told m.main mi (j : Int) 14 2 = R at *
  generalize hGe : cutH m (j : Int) = G at *
  generalize cutB m (j : Int) = l at *
  have HOp := Lib.hid fun (A : Option Addr) (c : Nat) (W : World) (hb : Bytes W A l) (hc : 272 + d ≤ c) => by
    have k := open_fine l A (272 + d) c W hb hlen (by omega) hc hz (272 + d) he1 he2 (Nat.le_refl _) (hdOf_ok hb.1 21)
    unfold Opened at k
    rw [List.take_of_length_le (by omega)] at k
    exact k
  have HEn := Lib.hid fun (W : World) (gv : Nat) (A : Option Addr) (c : Nat) (v : ViewAt W gv (hdOf l) A (272 + d) c l) (hc : c ≤ maxLen) (hA : AllB l) => by
    have k := Wl.entries_any W v hc (by omega) (by omega) hA (hdOf_ok hA 21)
    rw [hch] at k
    exact k
  unfold TellL at HEn
  have hdb : d ≤ 800000 := by omega
  clear hGe hch hz he1 he2 hlen hI HKp okc hok hd
  refine wp_region_noPanic ?_
  refine wp_region_held_drew (S := fun W : World => W.rangeAt s9 0 (G.cells 21)) (by kernel_rfl) (by exact HS.out _ D6.out) (fun hHeld => ?_)
  refine wpAnyH_take (i := 0) (oi := ⟨some 56, _, _, _, _, _⟩) rfl (by kernel_rfl) (by kernel_rfl) (by kernel_rfl) (fun _ _ _ h => h) (yieldsIf_load_mid (by rfl) _ _ rfl _ _ rfl _ _ (fun _ h => h) Try.underlying38 rfl (hcells_len _)) (by assumption) ?_
  try simp only [Act.put, List.setIfInBounds_toArray, List.set_cons_zero, List.set_cons_succ]
  refine wpAnyH_take (i := 2) (oi := ⟨some 58, _, _, _, _, _⟩) (v := ?_) rfl (by kernel_rfl) (by kernel_rfl) (by kernel_rfl) (fun _ _ _ h => h) (Or.inl ⟨by rfl, ?_⟩) (by assumption) ?_
  rotate_left
  · intro W hSw; go_simp; try (with_reducible rfl)
  try simp only [Act.put, List.setIfInBounds_toArray, List.set_cons_zero, List.set_cons_succ]
  refine wpAnyH_take (i := 3) (oi := ⟨some 59, _, _, _, _, _⟩) (v := ?_) rfl (by kernel_rfl) (by kernel_rfl) (by kernel_rfl) (fun _ _ _ h => h) (Or.inl ⟨by rfl, ?_⟩) (by assumption) ?_
  rotate_left
  · intro W hSw; go_simp; try (with_reducible rfl)
  try simp only [Act.put, List.setIfInBounds_toArray, List.set_cons_zero, List.set_cons_succ]
  refine wpAnyH_ready (rs := [1]) (by kernel_rfl) (by simp) ?_
  refine AllReadyH.cons (o := ⟨some 57, _, _, _, _, _⟩) rfl (fun KK hKK => ?_) AllReadyH.nil
  go_simp
  ((refine (HPut.out _).mono ?_); rintro e w7 ⟨A7, c7, rfl, ho7, hb7⟩; have HO7 := Lib.hid ho7; have B7 := Lib.hid (D6.out.trans (hb7.mono D6.out.size)); clear ho7 hb7)
  try go_wp2_with fail
  refine hKK.out _ _ (by exact (HS.out _ B7.out)) (fun hHeld => ?_)
  clear hKK KK
  try simp only [Act.put, List.setIfInBounds_toArray, List.set_cons_zero, List.set_cons_succ]
  refine wpAnyH_ready (rs := [4]) (by kernel_rfl) (by simp) ?_
  refine AllReadyH.cons (o := ⟨some 60, _, _, _, _, _⟩) rfl (fun KK hKK => ?_) AllReadyH.nil
  refine step_append_bytes (o := ⟨some 60, _, _, _, _, _⟩) rfl (.tmp 57) (.tmp 59) rfl w6.heap.size A7 272 c7 _ rfl HO7.out (cutA A3 c3 272) d (c3 - 272) (m.b.drop 272) rfl (HBd.out _ B7.out) hLd (by omega) ?_
  intro A8 c8 w8 ho8 hb8
  rw [hcb] at ho8
  have HO8 := Lib.hid ho8
  have B8 := Lib.hid (B7.out.trans hb8)
  have HP8 := Lib.hid (HOp.out A8 c8 w8 ho8.bytes (own_cap ho8).1)
  clear ho8 hb8
  refine hKK.out _ _ (by exact (HS.out _ B8.out)) (fun hHeld => ?_)
  clear hKK KK
  try simp only [Act.put, List.setIfInBounds_toArray, List.set_cons_zero, List.set_cons_succ]
  refine wpAnyH_ready (rs := [5]) (by kernel_rfl) (by simp) ?_
  refine AllReadyH.cons (o := ⟨some 61, _, _, _, _, _⟩) rfl (fun KK hKK => ?_) AllReadyH.nil
  go_simp
  ((refine HP8.out.mono ?_); rintro e w9 ⟨gv, A9, c9, rfl, _, hv9, hc9, hb9⟩; have HV9 := Lib.hid hv9; have B9 := Lib.hid (B8.out.trans (hb9.mono B8.out.size)); clear hv9 hb9)
  try go_wp2_with fail
  refine hKK.out _ _ (by exact (HS.out _ B9.out)) (fun hHeld => ?_)
  clear hKK KK
  try simp only [Act.put, List.setIfInBounds_toArray, List.set_cons_zero, List.set_cons_succ]
  refine wpAnyH_take (i := 6) (oi := ⟨some 55, _, _, _, _, _⟩) (v := ?_) rfl (by kernel_rfl) (by kernel_rfl) (by kernel_rfl) (fun _ _ _ h => h) (Or.inl ⟨by rfl, ?_⟩) (by assumption) ?_
  rotate_left
  · intro W hSw; go_simp; try (with_reducible rfl)
  try simp only [Act.put, List.setIfInBounds_toArray, List.set_cons_zero, List.set_cons_succ]
  refine wpAnyH_take (i := 7) (oi := ⟨some 62, _, _, _, _, _⟩) (v := ?_) rfl (by kernel_rfl) (by kernel_rfl) (by kernel_rfl) (fun _ _ _ h => h) (Or.inl ⟨by rfl, ?_⟩) (by assumption) ?_
  rotate_left
  · intro W hSw; go_simp; try (with_reducible rfl)
  try simp only [Act.put, List.setIfInBounds_toArray, List.set_cons_zero, List.set_cons_succ]
  refine wpAnyH_take (i := 8) (oi := ⟨some 63, _, _, _, _, _⟩) (v := ?_) rfl (by kernel_rfl) (by kernel_rfl) (by kernel_rfl) (fun _ _ _ h => h) (Or.inl ⟨by rfl, ?_⟩) (by assumption) ?_
  rotate_left
  · intro W hSw; go_simp; try (with_reducible rfl)
  try simp only [Act.put, List.setIfInBounds_toArray, List.set_cons_zero, List.set_cons_succ]
  refine wpAnyH_take (i := 9) (oi := ⟨some 12, _, _, _, _, _⟩) (v := ?_) rfl (by kernel_rfl) (by kernel_rfl) (by kernel_rfl) (fun _ _ _ h => h) (Or.inl ⟨by rfl, ?_⟩) (by assumption) ?_
  rotate_left
  · intro W hSw; go_simp; try (with_reducible rfl)
  try simp only [Act.put, List.setIfInBounds_toArray, List.set_cons_zero, List.set_cons_succ]
  refine wpAnyH_take (i := 10) (oi := ⟨some 13, _, _, _, _, _⟩) (v := ?_) rfl (by kernel_rfl) (by kernel_rfl) (by kernel_rfl) (fun _ _ _ h => h) (Or.inl ⟨by rfl, ?_⟩) (by assumption) ?_
  rotate_left
  · intro W hSw; go_simp; try (with_reducible rfl)
  try simp only [Act.put, List.setIfInBounds_toArray, List.set_cons_zero, List.set_cons_succ]
  refine wpAnyH_done (by kernel_rfl) ?_ _
  refine NoPanic.normal ?_
  have HE9 := Lib.hid (HEn.out w9 gv A9 c9 HV9.out hc9 HO8.out.bytes.1)
  go_upto_region 17 with (first
    | (go_at_call 11; (refine HE9.out.mono ?_); rintro e w10 ⟨hb10, A10, m10, c10, rfl, ho10, hl10⟩; have B10 := Lib.hid (B9.out.trans (hb10.mono B9.out.size)); have L10 := Lib.hid hl10; clear hb10 ho10 hl10)
    | fail)
  have hl10 := L10.out
  have BB := Lib.hid (B3.out.trans ((B6.out.trans (B10.out.mono B6.out.size)).mono B3.out.size))
  obtain ⟨R1, R2⟩ := R
  dsimp only at q1 q2 q3 hl10 ⊢
  rw [hl10] at q1
  by_cases hjn : (j : Int) ≤ (n : Int)
  · have hm : m10 = j := by rw [if_pos hjn] at q1; omega
    have h2 : R2 = 0 := q2.2 hjn
    clear q1 q2 q3 hl10
    subst hm h2
    have hd1 : decide ((m10 : Int) ≤ (n : Int)) = true := by simp; omega
    have hmn : min (m10 : Int) (n : Int) = (m10 : Int) := Int.min_eq_left hjn
    go_wp2_with fail
    go_ret
    exact ⟨rfl, BB.out⟩
  · have hm : m10 = n := by rw [if_neg hjn] at q1; omega
    have h2 : R2 ≠ 0 := fun h => hjn (q2.1 h)
    clear q1 q2 hl10
    subst hm
    have hd1 : decide ((j : Int) ≤ (m10 : Int)) = false := by simp; omega
    have hmn : min (j : Int) (m10 : Int) = (m10 : Int) := Int.min_eq_right (by omega)
    rcases q3 with e | e | e
    · exact absurd e h2
    · subst e
      go_wp2_with fail
      go_ret
      exact ⟨rfl, BB.out⟩
    · subst e
      go_wp2_with fail
      go_ret
      exact ⟨rfl, BB.out⟩
theorem walk (a : Option Addr) (len cap : Nat) (z : List Int) (y : Int) (w : World) (h : IsRow .i64 w a len cap z) (hy : (Lit.int .i64 y).wf = true) :
    Calls Try.prog 3 #[.slice a len cap, .int .i64 y] w fun e w' => e = .returned (.bool true) ∧ Below w.heap.size w w' := by
  obtain ⟨hI, h2, h3⟩ := ints_in h
  by_cases h1 : len ≤ 200
  · exact walk_main a len cap _ y w hI h1
  · have d1 : decide ((200 : Int) < (len : Int)) = true := by simp; omega
    clear h hI
    go_enter Try.func3, Try.ntmps3
    go_wp2_with (go_at_call 4; ((with_reducible refine (first_link _).mono ?_); rintro e w1 ⟨rfl, hb1⟩; have B1 := Lib.hid hb1; clear hb1))
    go_ret
    exact ⟨rfl, B1.out⟩
end Go.Proofs.Ytkdbgilnehjpmaa.LinkCutW
