/-
  Texts beneath the proof, one behind the other.
-/
import Derived.Test.YtecoenaojofgbaaQ30

/-
  An image with one thing wrong, plain: its head's code.
-/
namespace Go.Proofs.Ytecoenaojofgbaa.Nw
open Go.ChangeShapes Go.WideShapes Go.ChangeAt Go.RowKit
open Bytes8 Blk8 Own8 OwnM OwnA OwnE LeA LeNum LeB LeP Ob Oc Od Ga Gb Gc Gd Gf Gi Gj Gk Gl Gm Ma Mb Mh Na Ns Nt Nu Nv
open Go1 (hcode rhd hread_any HTold bytes_take magicB)
set_option linter.unusedVariables false
set_option linter.unusedSimpArgs false
set_option maxRecDepth 100000

theorem low4 {v : Int} (h0 : 0 ≤ v) (h1 : v < 256) : lowB v 4 = [v, 0, 0, 0] := by
  have e1 : v % 256 = v := Int.emod_eq_of_lt h0 h1
  have e2 : v / 256 = 0 := Int.ediv_eq_zero_of_lt h0 h1
  have e3 : v / 65536 = 0 := by omega
  have e4 : v / 16777216 = 0 := by omega
  simp [lowB, List.range_succ, e1, e2, e3, e4]
theorem low8 {v : Int} (h0 : 0 ≤ v) (h1 : v < 256) : lowB v 8 = [v, 0, 0, 0, 0, 0, 0, 0] := by
  have e1 : v % 256 = v := Int.emod_eq_of_lt h0 h1
  have e2 : v / 256 = 0 := Int.ediv_eq_zero_of_lt h0 h1
  have e3 : v / 65536 = 0 := by omega
  have e4 : v / 16777216 = 0 := by omega
  have e5 : v / 4294967296 = 0 := by omega
  have e6 : v / 1099511627776 = 0 := by omega
  have e7 : v / 281474976710656 = 0 := by omega
  have e8 : v / 72057594037927936 = 0 := by omega
  simp [lowB, List.range_succ, e1, e2, e3, e4, e5, e6, e7, e8]
theorem set_ic (h : HD) (r : List Int) (x : Int) (hi : 0 ≤ h.ic ∧ h.ic < 256) (hx : 0 ≤ x ∧ x < 256) : (h.bytes 21 ++ r).set 12 x = ({ h with ic := x } : HD).bytes 21 ++ r ∧ (h.bytes 21 ++ r).getD 12 0 = h.ic := by
  have e : ∀ y : Int, 0 ≤ y → y < 256 → ({ h with ic := y } : HD).bytes 21 ++ r = (magicL ++ lowB h.cp 4) ++ (y :: ([0, 0, 0] ++ (lowB (h.st % 256) 8 ++ (h.ids 4 ++ (Ob.nums (h.nums 21) ++ (lowB h.ta 4 ++ (lowB h.ti 4 ++ (lowB h.te 8 ++ r)))))))) := fun y h0 h1 => by
    unfold HD.bytes HD.front
    show (magicL ++ lowB h.cp 4 ++ lowB y 4 ++ lowB (h.st % 256) 8 ++ h.ids 4 ++ Ob.nums (h.nums 21) ++ lowB h.ta 4 ++ lowB h.ti 4 ++ lowB h.te 8) ++ r = _
    rw [low4 h0 h1]
    simp only [List.append_assoc, List.cons_append, List.nil_append]
  have hl : (magicL ++ lowB h.cp 4).length = 12 := by rw [List.length_append, lowB_len]; rfl
  have e0 := e h.ic hi.1 hi.2
  rw [show ({ h with ic := h.ic } : HD) = h from rfl] at e0
  rw [e x hx.1 hx.2, e0]
  refine ⟨?_, ?_⟩
  · rw [List.set_append_right _ _ (by omega), hl]
    rfl
  · rw [List.getD_eq_getElem?_getD, List.getElem?_append_right (by omega), hl]
    rfl
theorem set_st8 (h : HD) (r : List Int) (x : Int) (hi : 0 ≤ h.st ∧ h.st < 256) (hx : 0 ≤ x ∧ x < 256) : (h.bytes 21 ++ r).set 16 x = ({ h with st := x } : HD).bytes 21 ++ r := by
  have e : ∀ y : Int, 0 ≤ y → y < 256 → ({ h with st := y } : HD).bytes 21 ++ r = (magicL ++ lowB h.cp 4 ++ lowB h.ic 4) ++ (y :: ([0, 0, 0, 0, 0, 0, 0] ++ (h.ids 4 ++ (Ob.nums (h.nums 21) ++ (lowB h.ta 4 ++ (lowB h.ti 4 ++ (lowB h.te 8 ++ r))))))) := fun y h0 h1 => by
    unfold HD.bytes HD.front
    show (magicL ++ lowB h.cp 4 ++ lowB h.ic 4 ++ lowB (y % 256) 8 ++ h.ids 4 ++ Ob.nums (h.nums 21) ++ lowB h.ta 4 ++ lowB h.ti 4 ++ lowB h.te 8) ++ r = _
    rw [Int.emod_eq_of_lt h0 h1, low8 h0 h1]
    simp only [List.append_assoc, List.cons_append, List.nil_append]
  have hl : (magicL ++ lowB h.cp 4 ++ lowB h.ic 4).length = 16 := by rw [List.length_append, List.length_append, lowB_len, lowB_len]; rfl
  have e0 := e h.st hi.1 hi.2
  rw [show ({ h with st := h.st } : HD) = h from rfl] at e0
  rw [e x hx.1 hx.2, e0, List.set_append_right _ _ (by omega), hl]
  rfl
/-- Bytes whose head has this code, and is not right. -/
def Bad (l : List Int) (n : Nat) (x : Int) : Prop := hcode l n = x ∧ x ≠ 0
theorem bad_of (h : HD) (ok : h.Ok 21) (hst : 0 ≤ h.st ∧ h.st < 256) (r l : List Int) (hl : l = h.bytes 21 ++ r) (n : Nat) (hn : 272 ≤ n) (x : Int) (hx : fcode h n = x) (h0 : x ≠ 0) : Bad l n x := by
  subst hl
  refine ⟨?_, h0⟩
  unfold Go1.hcode
  rw [if_neg (by omega), magic_back, if_neg (by simp), (hd_back h ok hst r).fcode]
  exact hx
theorem read_bad {l : List Int} {x : Int} (A : Option Addr) (n c : Nat) (w : World) (h : Bad l n x) (hb : Bytes w A l) (hL : l.length = n) (hn : n ≤ 1000000) (hc : n ≤ c) :
    Calls Try.prog 8 #[.slice A n c] w (HTold hd0 x w) := by
  have h1 := hread_any A l n c w hb hL hn hc
  have hr : rhd l n = hd0 := if_neg (by rw [h.1]; exact h.2)
  rw [hr, h.1] at h1
  exact h1
/-! ## what the cases of the law turn -/
structure Facts (m : Mk) : Prop where
  ok : (imgH m).Ok 21
  ic : (imgH m).ic = 0 ∨ (imgH m).ic = 4
  st : (imgH m).st = 1
  n0 : (imgH m).N 0 = 272
  n1 : (imgH m).N 1 = (m.b.length : Int) - 272
  n2 : (imgH m).N 2 = 288
  n3 : (imgH m).N 3 = 16 * (m.C.ds : Int)
  n4 : (imgH m).N 4 = 304 + 16 * (m.C.ds : Int)
  n5 : (imgH m).N 5 = 16 * (m.C.fs : Int)
  ds : 0 < m.C.ds ∧ m.C.ds ≤ 64
  fs : 0 < m.C.fs ∧ m.C.fs ≤ 64
  len : 304 + 16 * (m.C.ds + m.C.fs) ≤ m.b.length
  l8 : m.b.length % 8 = 0
  l3 : m.b.length ≤ 32768
theorem facts {m : Mk} (h : Img m) : Facts m := by
  have h4 := h.inv.n4
  unfold Mk.tf at h4
  exact
    { ok := imgH_ok h, ic := h.hg.ic, st := rfl
      n0 := by rw [imgH_N m 0 (by decide), if_neg (by decide)]; exact h.hg.n0
      n1 := by rw [imgH_N m 1 (by decide), if_pos rfl]
      n2 := by rw [imgH_N m 2 (by decide), if_neg (by decide)]; exact h.inv.n2
      n3 := by rw [imgH_N m 3 (by decide), if_neg (by decide)]; exact h.hg.n3
      n4 := by rw [imgH_N m 4 (by decide), if_neg (by decide), h4]; omega
      n5 := by rw [imgH_N m 5 (by decide), if_neg (by decide)]; exact h.hg.n5
      ds := h.inv.ds, fs := h.inv.fs, len := h.inv.len, l8 := h.inv.l8, l3 := h.len }
theorem flag_ok {x : Int} (h : x = 0 ∨ x = 4) : flB x = false := by rcases h with e | e <;> rw [e] <;> decide +kernel
theorem setN_ok {h : HD} {k : Nat} (ok : h.Ok k) (i : Nat) (v : Int) (hv : 0 ≤ v ∧ v ≤ 18446744073709551615) : (setN h i v).Ok k :=
  ⟨ok.cp, ok.ic, ok.st, ok.I, fun j => by
    show 0 ≤ (if j = i then v else h.N j) ∧ (if j = i then v else h.N j) ≤ _
    split
    · exact hv
    · exact ok.N j, ok.ta, ok.ti, ok.te⟩
/-- 3: another size of the head. -/
theorem bad3 {m : Mk} (f : Facts m) (y : Nat) (hy : 1 ≤ y ∧ y ≤ 7) : fcode (setN (imgH m) 0 (272 + (y : Int))) (m.b.length : Int) = 5 := by
  have e0 : (setN (imgH m) 0 (272 + (y : Int))).N 0 = 272 + (y : Int) := rfl
  unfold Gm.fcode
  rw [show flB (setN (imgH m) 0 (272 + (y : Int))).ic = false from flag_ok f.ic, show stB (setN (imgH m) 0 (272 + (y : Int))).st = true from rfl, e0, if_neg (by decide), if_neg (by decide), if_pos (by omega)]
/-- 4: another size of the arena. -/
theorem bad4 {m : Mk} (f : Facts m) (y : Nat) (hy : 1 ≤ y ∧ y ≤ 7) : fcode (setN (imgH m) 1 ((m.b.length : Int) - 272 + 8 * (y : Int))) (m.b.length : Int) = 2 := by
  have hl := f.len
  have hd := f.ds
  have h8 := f.l8
  have h3 := f.l3
  have e0 : (setN (imgH m) 1 ((m.b.length : Int) - 272 + 8 * (y : Int))).N 0 = 272 := f.n0
  have e1 : (setN (imgH m) 1 ((m.b.length : Int) - 272 + 8 * (y : Int))).N 1 = (m.b.length : Int) - 272 + 8 * (y : Int) := rfl
  have ev : endV (setN (imgH m) 1 ((m.b.length : Int) - 272 + 8 * (y : Int))) = (m.b.length : Int) + 8 * (y : Int) := by
    unfold endV
    rw [e0, e1, if_pos (by omega)]
    omega
  unfold Gm.fcode
  rw [show flB (setN (imgH m) 1 ((m.b.length : Int) - 272 + 8 * (y : Int))).ic = false from flag_ok f.ic, show stB (setN (imgH m) 1 ((m.b.length : Int) - 272 + 8 * (y : Int))).st = true from rfl, e0, e1, ev, if_neg (by decide), if_neg (by decide), if_neg (by omega), if_pos (by right; omega)]
theorem tables {m : Mk} (f : Facts m) (h : HD) (hi : h.ic = (imgH m).ic) (hs : h.st = 1) (h0 : h.N 0 = 272) (h1 : h.N 1 = (m.b.length : Int) - 272) :
    fcode h (m.b.length : Int) = if tcode (h.N 2) (h.N 3) 272 (m.b.length : Int) ≠ 0 then tcode (h.N 2) (h.N 3) 272 (m.b.length : Int) else tcode (h.N 4) (h.N 5) 272 (m.b.length : Int) := by
  have hl := f.len
  have hd := f.ds
  have h8 := f.l8
  have h3 := f.l3
  have ev : endV h = (m.b.length : Int) := by
    unfold endV
    rw [h0, h1, if_pos (by omega)]
    omega
  have eb : endB h = true := by
    unfold endB
    rw [h0, h1]
    simp
    omega
  unfold Gm.fcode
  rw [show flB h.ic = false from flag_ok (by rw [hi]; exact f.ic), show stB h.st = true by rw [hs]; rfl, h0, h1, ev, eb, if_neg (by decide), if_neg (by decide), if_neg (by omega), if_neg (by simp)]
/-- 5: the data's table elsewhere. -/
theorem bad5 {m : Mk} (f : Facts m) (y : Nat) (hy : 1 ≤ y ∧ y ≤ 7) : fcode (setN (imgH m) 2 (288 + (y : Int))) (m.b.length : Int) = 3 := by
  rw [tables f (setN (imgH m) 2 (288 + (y : Int))) rfl f.st f.n0 f.n1]
  have t : tcode ((setN (imgH m) 2 (288 + (y : Int))).N 2) ((setN (imgH m) 2 (288 + (y : Int))).N 3) 272 (m.b.length : Int) = 3 := by
    show tcode (288 + (y : Int)) _ 272 _ = 3
    unfold tcode
    rw [if_pos (by omega)]
  rw [t, if_pos (by decide)]
theorem first_fine {m : Mk} (f : Facts m) : tcode 288 (16 * (m.C.ds : Int)) 272 (m.b.length : Int) = 0 := by
  have hl := f.len
  have hd := f.ds
  unfold tcode
  rw [if_neg (by decide), if_neg (by omega), if_neg (by omega)]
/-- 6: another size of the names' table. -/
theorem bad6 {m : Mk} (f : Facts m) (y : Nat) (hy : 1 ≤ y ∧ y ≤ 7) : fcode (setN (imgH m) 5 (16 * (m.C.fs : Int) + (y : Int))) (m.b.length : Int) = 5 := by
  rw [tables f (setN (imgH m) 5 (16 * (m.C.fs : Int) + (y : Int))) rfl f.st f.n0 f.n1]
  have t1 : tcode ((setN (imgH m) 5 (16 * (m.C.fs : Int) + (y : Int))).N 2) ((setN (imgH m) 5 (16 * (m.C.fs : Int) + (y : Int))).N 3) 272 (m.b.length : Int) = 0 := by
    show tcode ((imgH m).N 2) ((imgH m).N 3) 272 _ = 0
    rw [f.n2, f.n3]
    exact first_fine f
  have t2 : tcode ((setN (imgH m) 5 (16 * (m.C.fs : Int) + (y : Int))).N 4) ((setN (imgH m) 5 (16 * (m.C.fs : Int) + (y : Int))).N 5) 272 (m.b.length : Int) = 5 := by
    show tcode ((imgH m).N 4) (16 * (m.C.fs : Int) + (y : Int)) 272 _ = 5
    rw [f.n4]
    unfold tcode
    rw [if_neg (by omega), if_pos (by omega)]
  rw [t1, t2, if_neg (by simp)]
/-- 7: the names' table in the head. -/
theorem bad7 {m : Mk} (f : Facts m) (y : Nat) (hy : 1 ≤ y ∧ y ≤ 7) : fcode (setN (imgH m) 4 (8 * (y : Int))) (m.b.length : Int) = 2 := by
  have hd := f.fs
  rw [tables f (setN (imgH m) 4 (8 * (y : Int))) rfl f.st f.n0 f.n1]
  have t1 : tcode ((setN (imgH m) 4 (8 * (y : Int))).N 2) ((setN (imgH m) 4 (8 * (y : Int))).N 3) 272 (m.b.length : Int) = 0 := by
    show tcode ((imgH m).N 2) ((imgH m).N 3) 272 _ = 0
    rw [f.n2, f.n3]
    exact first_fine f
  have t2 : tcode ((setN (imgH m) 4 (8 * (y : Int))).N 4) ((setN (imgH m) 4 (8 * (y : Int))).N 5) 272 (m.b.length : Int) = 2 := by
    show tcode (8 * (y : Int)) ((imgH m).N 5) 272 _ = 2
    rw [f.n5]
    unfold tcode
    rw [if_neg (by omega), if_neg (by omega), if_pos (by omega)]
  rw [t1, t2, if_neg (by simp)]
/-- 2: a state that is none. -/
theorem bad2 {m : Mk} (f : Facts m) (y : Nat) (hy : 1 ≤ y ∧ y ≤ 7) : fcode { imgH m with st := 2 + (y : Int) } (m.b.length : Int) = 8 := by
  have hs : stB (2 + (y : Int)) = false := by
    unfold stB
    simp
    omega
  unfold Gm.fcode
  rw [show flB ({ imgH m with st := 2 + (y : Int) } : HD).ic = false from flag_ok f.ic, show stB ({ imgH m with st := 2 + (y : Int) } : HD).st = false from hs, if_neg (by decide), if_pos rfl]
/-- 1: a flag that is none. -/
theorem bad1 {m : Mk} (f : Facts m) (v : Int) (hv : v = 8 ∨ v = 16 ∨ v = 32 ∨ v = 64) : fcode { imgH m with ic := bits .or .u8 (imgH m).ic v } (m.b.length : Int) = 7 ∧ 0 ≤ bits .or .u8 (imgH m).ic v ∧ bits .or .u8 (imgH m).ic v < 256 := by
  have h : flB (bits .or .u8 (imgH m).ic v) = true ∧ 0 ≤ bits .or .u8 (imgH m).ic v ∧ bits .or .u8 (imgH m).ic v < 256 := by
    rcases f.ic with e | e <;> rw [e] <;> rcases hv with rfl | rfl | rfl | rfl <;> decide +kernel
  refine ⟨?_, h.2⟩
  unfold Gm.fcode
  rw [show flB ({ imgH m with ic := bits .or .u8 (imgH m).ic v } : HD).ic = true from h.1, if_pos rfl]
/-- 0: a byte of the signature. -/
theorem turned (m : Mk) (i : Nat) (hi : 1 ≤ i ∧ i ≤ 7) : magicB ((imgB m).set i (bits .xor .u8 ((imgB m).getD i 0) 255)) = false ∧ 0 ≤ bits .xor .u8 ((imgB m).getD i 0) 255 ∧ bits .xor .u8 ((imgB m).getD i 0) 255 < 256 := by
  have e : ∃ q, imgB m = magicL ++ q := ⟨lowB (imgH m).cp 4 ++ (lowB (imgH m).ic 4 ++ (lowB ((imgH m).st % 256) 8 ++ ((imgH m).ids 4 ++ (Ob.nums ((imgH m).nums 21) ++ (lowB (imgH m).ta 4 ++ (lowB (imgH m).ti 4 ++ (lowB (imgH m).te 8 ++ m.b.drop 272))))))), by
    unfold imgB HD.bytes HD.front
    simp only [List.append_assoc]⟩
  obtain ⟨q, e⟩ := e
  rw [e]
  have h8 : magicL.length = 8 := rfl
  have hg : (magicL ++ q).getD i 0 = magicL.getD i 0 := by
    rw [List.getD_eq_getElem?_getD, List.getD_eq_getElem?_getD, List.getElem?_append_left (by omega)]
  have hset : ∀ x, ((magicL ++ q).set i x).take 8 = magicL.set i x := fun x => by
    rw [List.set_append_left _ _ (by omega)]
    exact List.take_left' (by simp [h8])
  rw [hg]
  unfold Go1.magicB
  rw [hset]
  obtain ⟨h1, h2⟩ := hi
  have hh : i = 1 ∨ i = 2 ∨ i = 3 ∨ i = 4 ∨ i = 5 ∨ i = 6 ∨ i = 7 := by omega
  rcases hh with rfl | rfl | rfl | rfl | rfl | rfl | rfl <;> decide +kernel
theorem bad0 {l : List Int} {n : Nat} (hn : 272 ≤ n) (h : magicB l = false) : Bad l n 6 := ⟨by unfold Go1.hcode; rw [if_neg (by omega), if_pos h], by decide⟩
end Go.Proofs.Ytecoenaojofgbaa.Nw
