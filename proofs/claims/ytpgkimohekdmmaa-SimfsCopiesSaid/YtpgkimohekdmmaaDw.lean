/-
  The program's directory: All, Sync, Rename, Write.
-/
import Derived.Test.YtpgkimohekdmmaaDg
import Derived.Test.YtpgkimohekdmmaaSfc
namespace Go.Proofs.Ytpgkimohekdmmaa.Dw
open Go.ChangeShapes Go.WideShapes Go.ChangeAt Go.RowKit
open Bytes8 Blk8 Own8 OwnA OwnM OwnE Fa Fo Ta Ua Kf Dm Dp Da Db Dc Dd Ds Dk Dl Df Dg Sfa Sfb Sfc Pv8 Go.Maps
set_option linter.unusedVariables false
set_option linter.unusedSimpArgs false
set_option maxRecDepth 100000

/-- Bytes of the call's own, and a code. -/
def NewGot (l : List Int) (c : Int) (w : World) (e : Ending) (w' : World) : Prop := ∃ A m, e = .returned (.tuple #[.slice A l.length m, .int .i64 c]) ∧ Bytes w' A l ∧ (∀ b off, A = some ⟨b, off, none⟩ → 0 < l.length → w.heap.size ≤ b) ∧ Below w.heap.size w w'
theorem own_at {w : World} {base n c : Nat} {A : Option Addr} {l : List Int} (h : Own w base A n c l) : ∀ b off, A = some ⟨b, off, none⟩ → 0 < l.length → base ≤ b := fun b off e h0 => by
  rcases h.2.2.2.2 with ⟨he, _⟩ | ⟨g, cap, cur, he, h1, _⟩
  · injection he with e1; rw [e] at e1; cases e1
  · injection he with e1
    rw [e] at e1
    injection e1 with e1
    injection e1 with e1
    omega

theorem all_any (w : World) (own : Nat → Nat) (g : Nat) (d : Dir) (h : DirP w own g d) (n : List Int) (hA : AllB n) (hl : n.length ≤ maxLen) :
    Calls Try.prog 22 #[.pointer (some ⟨g, 0, none⟩), .string (T n)] w (NewGot (d.all n).2 (d.all n).1 w) := by
  have HFd := Lib.hid (find_any w own g d h n hA hl)
  unfold Dir.all
  by_cases hc : (d.file n).1 = 0
  · rw [if_neg (by simpa using hc)]
    rw [hc] at HFd
    have HAt := Lib.hid fun w1 (hb : Below w.heap.size w w1) => file_at (h.below hb) hc
    clear h hc
    generalize T n = X at *
    go_enter Try.func22, Try.ntmps22
    go_wp2_with (first
      | (go_at_call 33; (with_reducible refine HFd.out.mono ?_); rintro e w1 ⟨rfl, hb1⟩; have HB1 := Lib.hid hb1; obtain ⟨Mf, q, c2, hlk, hF, _⟩ := HAt.out w1 hb1; have HA := Lib.hid (Sfb.all_any w1 _ _ _ _ hF); clear hb1 hF)
      | (go_at_call 45; (with_reducible refine HA.out.mono ?_); rintro e w2 ⟨A2, c2', rfl, ho, hb2⟩; have HO := Lib.hid ho; have HB2 := Lib.hid hb2; clear ho hb2))
    go_ret2
    have hs := HB1.out.size
    exact ⟨A2, c2', rfl, HO.out.bytes, fun b off e h0 => Nat.le_trans hs (own_at HO.out b off e h0), HB1.out.trans (HB2.out.mono hs)⟩
  · rw [if_pos (by simpa using hc)]
    have hne : ((d.file n).1 != 0) = true := by simp [hc]
    have hne2 : ((d.file n).1 == 0) = false := beq_eq_false_iff_ne.2 hc
    clear h
    generalize T n = X at *
    generalize (d.file n).2 = id at *
    generalize (d.file n).1 = cd at *
    go_enter Try.func22, Try.ntmps22
    go_wp2_with (go_at_call 33; (with_reducible refine HFd.out.mono ?_); rintro e w1 ⟨rfl, hb1⟩; have HB1 := Lib.hid hb1)
    go_ret2
    exact ⟨none, 0, rfl, Bytes.nil _ _, (fun b off e => by cases e), HB1.out⟩

theorem fl_burnt (d : Dir) (n : List Int) : d.burnt.fl = d.fl := d.burnt_same.2.2.2.1
/-- The file is the same behind the fuse. -/
theorem file_row {d : Dir} {n : List Int} (h : (d.file n).1 = 0) (hb : d.burns = false) : (d.burnt.file n) = d.file n := by
  obtain ⟨hq, hat, hk⟩ := file_code h
  have hoff : d.burnt.off = d.off := by
    unfold Dir.burns at hb
    have hb : ¬ d.fuse = 0 := by simpa using hb
    unfold Dir.burnt
    split
    · rfl
    · first | rfl | rw [if_neg hb]
  have e : d.burnt.ask n = d.ask n := by unfold Dir.ask; rw [hoff]
  unfold Dir.file
  rw [e, d.burnt_same.2.1]
theorem sync_any (w : World) (own : Nat → Nat) (g : Nat) (d : Dir) (h : DirP w own g d) (n : List Int) (hA : AllB n) (hl : n.length ≤ maxLen) :
    Calls Try.prog 16 #[.pointer (some ⟨g, 0, none⟩), .string (T n)] w fun e w' => e = .returned (.int .i64 (d.sync n).1) ∧ Did w own g (d.sync n).2 w' := by
  have HFd := Lib.hid (find_any w own g d h n hA hl)
  have H := Lib.hid h
  have hgood := h.good
  unfold Dir.sync
  by_cases hc : (d.file n).1 = 0
  · rw [if_neg (by simpa using hc)]
    rw [hc] at HFd
    unfold Dir.fine
    have HBu := Lib.hid fun w1 (h1 : DirP w1 own g d) => burn_any w1 own g d h1
    cases hb : d.burns with
    | true =>
      rw [hb] at HBu
      rw [if_pos rfl]
      clear h hc
      generalize T n = X at *
      generalize (d.file n).2 = id at *
      go_enter Try.func16, Try.ntmps16
      go_wp2_with (first
        | (go_at_call 33; (with_reducible refine HFd.out.mono ?_); rintro e w1 ⟨rfl, hb1⟩; have HB1 := Lib.hid hb1)
        | (go_at_call 30; refine (HBu.out w1 (H.out.below HB1.out)).mono ?_; rintro e w2 ⟨rfl, hD2, hk2, hs2⟩))
      go_ret
      exact ⟨rfl, own, hD2, (KeptF.of_below HB1.out).trans hk2 fun _ _ e => e, fun _ _ => rfl⟩
    | false =>
      rw [hb] at HBu
      rw [if_neg (by simp)]
      have hfile := file_row hc hb
      have hc2 : (d.burnt.file n).1 = 0 := by rw [hfile]; exact hc
      have HAt := Lib.hid fun w2 (h2 : DirP w2 own g d.burnt) => file_at h2 hc2
      rw [hfile, fl_burnt d n] at HAt
      have HGf := Lib.hid (hgood.fl (d.file n).2)
      clear h hc hc2 hfile hgood
      generalize T n = X at *
      generalize (d.file n).2 = id at *
      go_enter Try.func16, Try.ntmps16
      go_wp2_with (first
        | (go_at_call 33; (with_reducible refine HFd.out.mono ?_); rintro e w1 ⟨rfl, hb1⟩; have HB1 := Lib.hid hb1)
        | (go_at_call 30; refine (HBu.out w1 (H.out.below HB1.out)).mono ?_; rintro e w2 ⟨rfl, hD2, hk2, hs2⟩; obtain ⟨Mf, q, c2, hlk, hF, hend⟩ := HAt.out w2 hD2; have HSy := Lib.hid (Sfc.sync_any w2 _ _ _ _ hF.wide); have HE := Lib.hid hend; clear hF hend hD2 hs2)
        | (go_at_call 37; (with_reducible refine HSy.out.mono ?_); rintro e w3 ⟨rfl, hF3, hk3⟩))
      go_ret
      have hx := HGf.out
      have h4 := HE.out w3 ⟨_, _⟩ ⟨Nat.le_refl _, hx.max, hx.now, hx.now⟩ hF3 hk3
      exact ⟨rfl, Did.trans ((KeptF.of_below HB1.out).trans hk2 fun _ _ e => e) (fun _ _ => rfl) h4⟩
  · rw [if_pos (by simpa using hc)]
    have hne : ((d.file n).1 != 0) = true := by simp [hc]
    have hne2 : ((d.file n).1 == 0) = false := beq_eq_false_iff_ne.2 hc
    clear h
    generalize T n = X at *
    generalize (d.file n).2 = id at *
    generalize (d.file n).1 = cd at *
    go_enter Try.func16, Try.ntmps16
    go_wp2_with (go_at_call 33; (with_reducible refine HFd.out.mono ?_); rintro e w1 ⟨rfl, hb1⟩; have HB1 := Lib.hid hb1)
    go_ret
    exact ⟨rfl, Did.refl H.out HB1.out⟩

theorem txt_two (w : World) (o n : List Int) : Txts (w.alloc (.cells #[.string (T o), .string (T n)] 9)) (some ⟨w.heap.size, 0, none⟩) [o, n] := fun i hi => by
  have hB := Blk.new w [.string (T o), .string (T n)] 9
  match i, hi with
  | 0, _ => exact ⟨w.heap.size, 0, rfl, by simp, hB.cell rfl⟩
  | 1, _ => exact ⟨w.heap.size, 0, rfl, by simp, hB.cell rfl⟩
theorem inB_two (w : World) (own : Nat → Nat) (o n : List Int) (i j : Nat) (h : own w.heap.size = 0) : InB (w.alloc (.cells #[.string (T o), .int .i64 (i : Int), .string (T n), .int .i64 (j : Int)] 62)) own (some ⟨w.heap.size, 0, none⟩) [(o, i), (n, j)] := fun k hk => by
  have hB := Blk.new w [.string (T o), .int .i64 (i : Int), .string (T n), .int .i64 (j : Int)] 62
  match k, hk with
  | 0, _ => exact ⟨w.heap.size, 0, rfl, h, by simp, hB.cell rfl, hB.cell rfl⟩
  | 1, _ => exact ⟨w.heap.size, 0, rfl, h, by simp, hB.cell rfl, hB.cell rfl⟩

/-- The fuse, with all that is known of the directory's memory. -/
theorem burn_core (w : World) (own : Nat → Nat) (g : Nat) (d : Dir) (fz : Int) (Mf Mn : Nat) (Df Dn : DU) (A : Option Addr) (n c : Nat) (us : List Und) (S : Nat → Bool) (gs : Nat → Nat) (hc : Core w own g d.room d.made d.row d.fl fz d.off Mf Mn Df Dn A n c us S gs) (hf : d.fuse = max fz (-1)) :
    Calls Try.prog 30 #[.pointer (some ⟨g, 0, none⟩)] w fun e w' => e = .returned (.int .i64 (if d.burns = true then 18 else 0)) ∧ KeptF (Mine own) w w' ∧ ∃ fz', Core w' own g d.burnt.room d.burnt.made d.burnt.row d.burnt.fl fz' d.burnt.off Mf Mn Df Dn A n c us S gs ∧ d.burnt.fuse = max fz' (-1) := by
  have HC := Lib.hid hc
  have c5 := hc.blk.cell (i := 5) rfl
  have c6 := hc.blk.cell (i := 6) rfl
  have f5 := hc.blk.frozen 5
  have f6 := hc.blk.frozen 6
  have hfz := hc.fz64
  unfold Dir.burns
  have HE := Lib.hid (show d.burnt = if d.fuse < 0 then d else if d.fuse = 0 then { d with off := true } else { d with fuse := d.fuse - 1 } from rfl)
  rcases Int.lt_trichotomy fz 0 with h0 | h0 | h0
  · have e : d.fuse = -1 := by omega
    have hne : (fz == 0) = false := beq_eq_false_iff_ne.2 (by omega)
    have hng : ¬ 0 < fz := by omega
    rw [e]
    have HF := Lib.hid hf
    clear hc f5 f6 hf
    go_enter Try.func30, Try.ntmps30
    go_wp2
    go_ret
    refine ⟨rfl, KeptF.refl _ _, fz, ?_⟩
    have hb := HE.out
    rw [if_pos (by omega)] at hb
    rw [hb]
    exact ⟨HC.out, HF.out⟩
  · have e : d.fuse = 0 := by omega
    rw [e]
    subst h0
    have HF := Lib.hid hf
    clear hc f5 hf
    go_enter Try.func30, Try.ntmps30
    go_wp2
    go_ret
    refine ⟨rfl, HC.out.set_ _ _, 0, ?_⟩
    have hb := HE.out
    rw [if_neg (by omega), if_pos e] at hb
    rw [hb]
    exact ⟨HC.out.offBlk 6 (.bool true) rfl HC.out.pend HC.out.each HC.out.tA HC.out.fz64 ⟨Nat.le_refl _, HC.out.mmax⟩ HC.out.pmax rfl, HF.out⟩
  · have e : d.fuse = fz := by omega
    have hne : (fz == 0) = false := beq_eq_false_iff_ne.2 (by omega)
    have hne2 : ¬ d.fuse = 0 := by omega
    rw [decide_eq_false hne2]
    have hw : IntKind.i64.wrap (fz - 1) = fz - 1 := by rw [IntKind.wrap_i64]; omega
    clear hc f6 hf
    go_enter Try.func30, Try.ntmps30
    go_wp2
    go_ret
    refine ⟨rfl, HC.out.set_ _ _, fz - 1, ?_⟩
    have hb := HE.out
    rw [if_neg (by omega), if_neg hne2] at hb
    rw [hb]
    exact ⟨HC.out.offBlk 5 (.int .i64 (fz - 1)) rfl HC.out.pend HC.out.each HC.out.tA ⟨by omega, by omega⟩ ⟨Nat.le_refl _, HC.out.mmax⟩ HC.out.pmax rfl, by show d.fuse - 1 = _; omega⟩

theorem le_sum {f : List Int × Nat → Nat} {r : RowD} {p : List Int × Nat} (h : p ∈ r) : f p ≤ (r.map f).sum := by
  induction r with
  | nil => cases h
  | cons q r ih =>
    rw [List.map_cons, List.sum_cons]
    rcases List.mem_cons.1 h with h1 | h1
    · subst h1; omega
    · have := ih h1; omega
theorem wrN_len (now : List Int) {p : Int} {b : List Int} (h : wrE p b.length = 0) : (wrN now p b).length = if b.length = 0 then now.length else max now.length (p.toNat + b.length) := by
  unfold wrN
  rw [h, if_pos rfl]
  split
  · rename_i h0
    obtain rfl : b = [] := List.eq_nil_of_length_eq_zero h0
    rw [wr_nil]
  · rename_i h0
    exact wr_length (by omega)
/-- What the program asks of the room is what the chapter asks. -/
theorem room_plain {d : Dir} {n : List Int} {p : Int} {b : List Int} (hc : (d.file n).1 = 0) (he : wrE p b.length = 0) :
    (d.room < d.total - (d.fl (d.file n).2).now.length + (wrN (d.fl (d.file n).2).now p b).length ∧ (d.fl (d.file n).2).now.length < (wrN (d.fl (d.file n).2).now p b).length) ↔ (0 < b.length ∧ (d.free : Int) < p + b.length - (d.fl (d.file n).2).now.length) := by
  obtain ⟨hq, hat, _⟩ := file_code hc
  have hoff : d.off = false := by
    unfold Dir.ask at hq
    cases h : d.off with
    | false => rfl
    | true => rw [h] at hq; simp at hq
  have h1 : (d.fl (d.file n).2).now.length ≤ d.total := le_sum (f := fun p => (d.fl p.2).now.length) (at_some hat)
  have h2 := wrN_len (d.fl (d.file n).2).now he
  have hp : 0 ≤ p := by
    unfold wrE at he
    split at he
    · simp at he
    · omega
  rw [h2]
  unfold Dir.free
  rw [hoff]
  simp only [Bool.false_eq_true, if_false]
  generalize (d.fl (d.file n).2).now.length = L at *
  generalize d.total = tot at *
  by_cases h0 : b.length = 0
  · rw [if_pos h0]
    constructor
    · rintro ⟨_, h⟩; omega
    · rintro ⟨h, _⟩; omega
  · rw [if_neg h0]
    constructor
    · rintro ⟨h3, h4⟩
      exact ⟨by omega, by omega⟩
    · rintro ⟨h3, h4⟩
      exact ⟨by omega, by omega⟩

set_option maxHeartbeats 4000000 in
theorem write_any (w : World) (own : Nat → Nat) (g : Nat) (d : Dir) (h : DirP w own g d) (n : List Int) (hA : AllB n) (hl : n.length ≤ maxLen) (p : Int) (B : Option Addr) (m cb : Nat) (b : List Int) (hb : Bytes w B b) (hm : b.length = m) (hmx : m ≤ maxLen) (hoff : LiesOff B b (Mine own)) (hp1 : -9223372036854775808 ≤ p) (hp2 : p ≤ 9223372036854775807) :
    Calls Try.prog 15 #[.pointer (some ⟨g, 0, none⟩), .string (T n), .int .i64 p, .slice B m cb] w fun e w' => e = .returned (.int .i64 (d.write n p b).1) ∧ Did w own g (d.write n p b).2 w' := by
  have HFd := Lib.hid (find_any w own g d h n hA hl)
  have H := Lib.hid h
  have HG := Lib.hid h.good
  have HBy := Lib.hid hb
  have HM := Lib.hid hm
  have HOff := Lib.hid hoff
  have hmx2 : m ≤ 140737488355328 ∨ 140737488355328 < m := by omega
  by_cases hc : (d.file n).1 = 0
  · obtain ⟨hq, hat, hk⟩ := file_code hc
    rw [hc] at HFd
    obtain ⟨fz, Mf, Mn, Df, Dn, A, pn, pc, us, S, gs, hcr, hgd, hf, hul, hch, hcov⟩ := h
    have HS := Lib.hid (hcov _ (by simp) _ (at_some hat))
    have hid1 : 1 ≤ (d.file n).2 := (hcr.file _ HS.out).1.1
    have hid2 : (d.file n).2 < 9223372036854775808 := by
      have h1 := (hcr.file _ HS.out).1.2
      have h2 := hcr.mmax
      omega
    have HC := Lib.hid hcr
    have HF := Lib.hid hf
    have HUl := Lib.hid hul
    have HCh := Lib.hid hch
    have HCov := Lib.hid hcov
    by_cases he : wrE p m = 0
    · have hrp := room_plain (p := p) (b := b) hc (by rw [hm]; exact he)
      have hW : d.write n p b = if 0 < m ∧ (d.free : Int) < p + m - (d.fl (d.file n).2).now.length then (15, d) else d.fine fun d' => d'.lay (d.file n).2 ⟨wrN (d.fl (d.file n).2).now p b, (d.fl (d.file n).2).safe⟩ := by
        unfold Dir.write
        rw [if_neg (by simpa using hc), hm, if_neg (by simpa using he)]
        simp only
        rw [hm] at hrp
        simp only [hrp]
      have hp0 : 0 ≤ p := by
        unfold wrE at he
        split at he
        · simp at he
        · omega
      have hpm : p + m ≤ 32768 := by
        unfold wrE at he
        rw [if_neg (by omega)] at he
        split at he
        · simp at he
        · omega
      have hnp : ¬ p < 0 := by omega
      have hnm : ¬ 32768 - p < (m : Int) := by omega
      have hgf := hgd.fl (d.file n).2
      have hwx : Ua.GoodFl ⟨wrN (d.fl (d.file n).2).now p b, (d.fl (d.file n).2).safe⟩ := good_wrN hgf hb.1
      have HWx := Lib.hid hwx
      have HE0 := Lib.hid he
      have hLmax := hgf.max
      have fin : ∀ (w3 w4 : World) (fz3 : Int), d.burns = false → Core w3 own g d.burnt.room d.burnt.made d.burnt.row d.burnt.fl fz3 d.burnt.off Mf Mn Df Dn A pn pc us S gs → d.burnt.fuse = max fz3 (-1) → KeptF (Mine own) w w3 → FileP w4 (Ext (fun k => own k = (d.file n).2 + 2) w3 w4) (gs (d.file n).2) (Sfc.wcL (d.burnt.fl (d.file n).2).now p b) (d.burnt.fl (d.file n).2).safe → KeptF (fun k => own k = (d.file n).2 + 2) w3 w4 → Did w own g (d.burnt.lay (d.file n).2 ⟨wrN (d.fl (d.file n).2).now p b, (d.fl (d.file n).2).safe⟩) w4 := by
        intro w3 w4 fz3 hbn h3 hf3 hk3 hF4 hk4
        have e5 := d.burnt_same
        rw [e5.2.2.2.1] at hF4
        obtain ⟨own', q1, q2, q3⟩ := Core.fileTurn (x := ⟨wrN (d.fl (d.file n).2).now p b, (d.fl (d.file n).2).safe⟩) h3 HS.out hF4 hk4
        refine ⟨own', ⟨fz3, Mf, Mn, Df, Dn, A, pn, pc, us, S, gs, q1, good_lay (good_burnt HG.out) hwx, hf3, ?_, ?_, ?_⟩, keptF_mine (own1 := own) hk3 q2 (fun _ _ => rfl), fun k hk => q3 k (Nat.lt_of_lt_of_le hk hk3.size)⟩
        · show us.length = d.burnt.past.length
          rw [e5.2.2.1]; exact HUl.out
        · show ∀ j, j < us.length → undo ((d.burnt.past ++ [d.burnt.row]).getD (j + 1) []) (us.getD j default).cs = d.burnt.past.getD j []
          rw [e5.2.2.1, e5.2.1]; exact HCh.out
        · show ∀ r ∈ d.burnt.past ++ [d.burnt.row], ∀ p ∈ r, S p.2 = true
          rw [e5.2.2.1, e5.2.1]; exact HCov.out
      have HFin := Lib.hid fin
      have burned : ∀ (w3 : World) (fz3 : Int), Core w3 own g d.burnt.room d.burnt.made d.burnt.row d.burnt.fl fz3 d.burnt.off Mf Mn Df Dn A pn pc us S gs → d.burnt.fuse = max fz3 (-1) → KeptF (Mine own) w w3 → Did w own g d.burnt w3 := by
        intro w3 fz3 h3 hf3 hk3
        have e5 := d.burnt_same
        exact ⟨own, ⟨fz3, Mf, Mn, Df, Dn, A, pn, pc, us, S, gs, h3, good_burnt HG.out, hf3, by rw [e5.2.2.1]; exact HUl.out, by rw [e5.2.2.1, e5.2.1]; exact HCh.out, by rw [e5.2.2.1, e5.2.1]; exact HCov.out⟩, hk3, fun _ _ => rfl⟩
      have HBd := Lib.hid burned
      have hwce : Sfc.wcE p m = 0 := he
      clear hgf hwx fin burned he hcr hgd hf hul hch hcov hrp hc hat hk hq hb hoff
      rw [hW]
      have HfL : (d.fl (d.file n).2).now.length ≤ 32768 := hLmax
      obtain ⟨ln, hln⟩ : ∃ ln, ln = (d.fl (d.file n).2).now.length := ⟨_, rfl⟩
      have HLnE := Lib.hid hln
      rw [← hln] at HfL ⊢
      have hfree : d.free ≤ 1000000000 := by
        have := HC.out.rmax
        unfold Dir.free
        split <;> omega
      clear hW hLmax hln
      obtain ⟨X, hX⟩ : ∃ X, X = T n := ⟨_, rfl⟩
      rw [← hX] at HFd ⊢
      clear hX
      have HBcF := Lib.hid fun w2 (hb : Below w.heap.size w w2) => burn_core w2 own g d fz Mf Mn Df Dn A pn pc us S gs (HC.out.below hb) HF.out
      cases hbn : d.burns with
      | true =>
        have HBn := Lib.hid hbn
        rw [hbn] at HBcF
        have hfi : d.fine (fun d' => d'.lay (d.file n).2 ⟨wrN (d.fl (d.file n).2).now p b, (d.fl (d.file n).2).safe⟩) = (18, d.burnt) := by unfold Dir.fine; rw [hbn, if_pos rfl]
        rw [hfi]
        clear hfi hbn
        rcases Nat.eq_zero_or_pos m with hm0 | hm0
        · have hmi : ¬ (0 : Int) < (m : Int) := by omega
          rw [if_neg (by omega)]
          have hm0' : m = 0 := hm0
          have HM0 := Lib.hid hm0
          clear hm0 hm0'
          go_enter Try.func15, Try.ntmps15
          go_wp2_with (first
          | (go_at_call 33; (with_reducible refine HFd.out.mono ?_); rintro e w2 ⟨rfl, hb1⟩; have HB2 := Lib.hid hb1; have hc1 := HC.out.below hb1; have c21 := hc1.blk.cell (i := 2) rfl; have hlk := look_file hc1.mf hc1.vf HS.out hid2; have HBc := Lib.hid (HBcF.out w2 HB2.out); clear hb1 hc1)
          | (go_at_call 30; (with_reducible refine HBc.out.mono ?_); rintro e w3 ⟨he3, hk3, fz3, hc3, hf3⟩; subst he3))
          go_ret
          exact ⟨rfl, HBd.out w3 fz3 hc3 hf3 ((KeptF.of_below HB2.out).trans hk3 fun _ _ e => e)⟩
        · have hmi : (0 : Int) < (m : Int) := by omega
          have HM0 := Lib.hid hm0
          by_cases hfu : (d.free : Int) < p + m - ln
          · rw [if_pos ⟨hm0, hfu⟩]
            clear hm0
            go_enter Try.func15, Try.ntmps15
            go_wp2_with (first
            | (go_at_call 33; (with_reducible refine HFd.out.mono ?_); rintro e w1 ⟨rfl, hb1⟩; have HB1 := Lib.hid hb1; have hc1 := HC.out.below hb1; have c21 := hc1.blk.cell (i := 2) rfl; have hlk := look_file hc1.mf hc1.vf HS.out hid2; have HLn := Lib.hid (Sfb.len_any w1 _ _ _ _ (hc1.file _ HS.out).2); rw [← HLnE.out] at HLn; have HFr := Lib.hid (free_any w1 own g d (H.out.below hb1)); have HC1 := Lib.hid hc1; clear hb1 hc1)
            | (go_at_call 28; (with_reducible refine HLn.out.mono ?_); rintro e w' ⟨rfl, rfl⟩)
            | (go_at_call 10; (with_reducible refine HFr.out.mono ?_); rintro e w2 ⟨rfl, hb2⟩; have HB2 := Lib.hid (HB1.out.trans (hb2.mono HB1.out.size)); have HBc := Lib.hid (HBcF.out w2 HB2.out); clear hb2))
            go_ret
            exact ⟨rfl, Did.refl H.out HB2.out⟩
          · rw [if_neg (fun h => hfu h.2)]
            clear hm0
            go_enter Try.func15, Try.ntmps15
            go_wp2_with (first
            | (go_at_call 33; (with_reducible refine HFd.out.mono ?_); rintro e w1 ⟨rfl, hb1⟩; have HB1 := Lib.hid hb1; have hc1 := HC.out.below hb1; have c21 := hc1.blk.cell (i := 2) rfl; have hlk := look_file hc1.mf hc1.vf HS.out hid2; have HLn := Lib.hid (Sfb.len_any w1 _ _ _ _ (hc1.file _ HS.out).2); rw [← HLnE.out] at HLn; have HFr := Lib.hid (free_any w1 own g d (H.out.below hb1)); have HC1 := Lib.hid hc1; clear hb1 hc1)
            | (go_at_call 28; (with_reducible refine HLn.out.mono ?_); rintro e w' ⟨rfl, rfl⟩)
            | (go_at_call 10; (with_reducible refine HFr.out.mono ?_); rintro e w2 ⟨rfl, hb2⟩; have HB2 := Lib.hid (HB1.out.trans (hb2.mono HB1.out.size)); have HBc := Lib.hid (HBcF.out w2 HB2.out); clear hb2)
            | (go_at_call 30; (with_reducible refine HBc.out.mono ?_); rintro e w3 ⟨he3, hk3, fz3, hc3, hf3⟩; subst he3))
            go_ret
            exact ⟨rfl, HBd.out w3 fz3 hc3 hf3 ((KeptF.of_below HB2.out).trans hk3 fun _ _ e => e)⟩
      | false =>
        have HBn := Lib.hid hbn
        rw [hbn] at HBcF
        have hfi : d.fine (fun d' => d'.lay (d.file n).2 ⟨wrN (d.fl (d.file n).2).now p b, (d.fl (d.file n).2).safe⟩) = (0, d.burnt.lay (d.file n).2 ⟨wrN (d.fl (d.file n).2).now p b, (d.fl (d.file n).2).safe⟩) := by unfold Dir.fine; rw [hbn, if_neg (by simp)]
        rw [hfi]
        clear hfi hbn
        rcases Nat.eq_zero_or_pos m with hm0 | hm0
        · have hmi : ¬ (0 : Int) < (m : Int) := by omega
          rw [if_neg (by omega)]
          have hm0' : m = 0 := hm0
          have HM0 := Lib.hid hm0
          clear hm0 hm0'
          go_enter Try.func15, Try.ntmps15
          go_wp2_with (first
          | (go_at_call 33; (with_reducible refine HFd.out.mono ?_); rintro e w2 ⟨rfl, hb1⟩; have HB2 := Lib.hid hb1; have hc1 := HC.out.below hb1; have c21 := hc1.blk.cell (i := 2) rfl; have hlk := look_file hc1.mf hc1.vf HS.out hid2; have HBc := Lib.hid (HBcF.out w2 HB2.out); clear hb1 hc1)
          | (go_at_call 30; (with_reducible refine HBc.out.mono ?_); rintro e w3 ⟨he3, hk3, fz3, hc3, hf3⟩; subst he3; have HC3 := Lib.hid hc3; have HK3 := Lib.hid hk3; have HF3 := Lib.hid hf3; have HWr := Lib.hid (Sfc.write_any w3 _ _ _ _ p B m cb b (hc3.file _ HS.out).2 (Kf.Bytes.keptF (HBy.out.below HB2.out (Nat.le_refl _)) hk3 HOff.out) HM.out hmx (fun b' off e h0 h1 => HOff.out b' off e h0 (.inr (by have h1 : own b' = (d.file n).2 + 2 := h1; omega))) hp1 hp2); clear hc3 hk3 hf3)
          | (go_at_call 36; (with_reducible refine HWr.out.mono ?_); rintro e w4 ⟨rfl, hF4, hk4⟩))
          go_ret
          exact ⟨by first | rfl | rw [hwce], HFin.out w3 w4 fz3 HBn.out HC3.out HF3.out ((KeptF.of_below HB2.out).trans HK3.out fun _ _ e => e) hF4 hk4⟩
        · have hmi : (0 : Int) < (m : Int) := by omega
          have HM0 := Lib.hid hm0
          by_cases hfu : (d.free : Int) < p + m - ln
          · rw [if_pos ⟨hm0, hfu⟩]
            clear hm0
            go_enter Try.func15, Try.ntmps15
            go_wp2_with (first
            | (go_at_call 33; (with_reducible refine HFd.out.mono ?_); rintro e w1 ⟨rfl, hb1⟩; have HB1 := Lib.hid hb1; have hc1 := HC.out.below hb1; have c21 := hc1.blk.cell (i := 2) rfl; have hlk := look_file hc1.mf hc1.vf HS.out hid2; have HLn := Lib.hid (Sfb.len_any w1 _ _ _ _ (hc1.file _ HS.out).2); rw [← HLnE.out] at HLn; have HFr := Lib.hid (free_any w1 own g d (H.out.below hb1)); have HC1 := Lib.hid hc1; clear hb1 hc1)
            | (go_at_call 28; (with_reducible refine HLn.out.mono ?_); rintro e w' ⟨rfl, rfl⟩)
            | (go_at_call 10; (with_reducible refine HFr.out.mono ?_); rintro e w2 ⟨rfl, hb2⟩; have HB2 := Lib.hid (HB1.out.trans (hb2.mono HB1.out.size)); have HBc := Lib.hid (HBcF.out w2 HB2.out); clear hb2))
            go_ret
            exact ⟨rfl, Did.refl H.out HB2.out⟩
          · rw [if_neg (fun h => hfu h.2)]
            clear hm0
            go_enter Try.func15, Try.ntmps15
            go_wp2_with (first
            | (go_at_call 33; (with_reducible refine HFd.out.mono ?_); rintro e w1 ⟨rfl, hb1⟩; have HB1 := Lib.hid hb1; have hc1 := HC.out.below hb1; have c21 := hc1.blk.cell (i := 2) rfl; have hlk := look_file hc1.mf hc1.vf HS.out hid2; have HLn := Lib.hid (Sfb.len_any w1 _ _ _ _ (hc1.file _ HS.out).2); rw [← HLnE.out] at HLn; have HFr := Lib.hid (free_any w1 own g d (H.out.below hb1)); have HC1 := Lib.hid hc1; clear hb1 hc1)
            | (go_at_call 28; (with_reducible refine HLn.out.mono ?_); rintro e w' ⟨rfl, rfl⟩)
            | (go_at_call 10; (with_reducible refine HFr.out.mono ?_); rintro e w2 ⟨rfl, hb2⟩; have HB2 := Lib.hid (HB1.out.trans (hb2.mono HB1.out.size)); have HBc := Lib.hid (HBcF.out w2 HB2.out); clear hb2)
            | (go_at_call 30; (with_reducible refine HBc.out.mono ?_); rintro e w3 ⟨he3, hk3, fz3, hc3, hf3⟩; subst he3; have HC3 := Lib.hid hc3; have HK3 := Lib.hid hk3; have HF3 := Lib.hid hf3; have HWr := Lib.hid (Sfc.write_any w3 _ _ _ _ p B m cb b (hc3.file _ HS.out).2 (Kf.Bytes.keptF (HBy.out.below HB2.out (Nat.le_refl _)) hk3 HOff.out) HM.out hmx (fun b' off e h0 h1 => HOff.out b' off e h0 (.inr (by have h1 : own b' = (d.file n).2 + 2 := h1; omega))) hp1 hp2); clear hc3 hk3 hf3)
            | (go_at_call 36; (with_reducible refine HWr.out.mono ?_); rintro e w4 ⟨rfl, hF4, hk4⟩))
            go_ret
            exact ⟨by first | rfl | rw [hwce], HFin.out w3 w4 fz3 HBn.out HC3.out HF3.out ((KeptF.of_below HB2.out).trans HK3.out fun _ _ e => e) hF4 hk4⟩
    · have hW : d.write n p b = (wrE p m, d) := by
        unfold Dir.write
        rw [if_neg (by simpa using hc), hm, if_pos he]
      rw [hW]
      clear hW hgd hf hul hch hcov hat hk hq hb hoff hcr
      obtain ⟨X, hX⟩ : ∃ X, X = T n := ⟨_, rfl⟩
      rw [← hX] at HFd ⊢
      clear hX
      have HBcF := Lib.hid fun w2 (hb : Below w.heap.size w w2) => burn_core w2 own g d fz Mf Mn Df Dn A pn pc us S gs (HC.out.below hb) HF.out
      unfold wrE at he ⊢
      by_cases h0 : p < 0
      · rw [if_pos h0]
        clear he
        go_enter Try.func15, Try.ntmps15
        go_wp2_with (first
          | (go_at_call 33; (with_reducible refine HFd.out.mono ?_); rintro e w2 ⟨rfl, hb1⟩; have HB2 := Lib.hid hb1; have hc1 := HC.out.below hb1; have c21 := hc1.blk.cell (i := 2) rfl; have hlk := look_file hc1.mf hc1.vf HS.out hid2; have HBc := Lib.hid (HBcF.out w2 HB2.out); clear hb1 hc1)
          | fail)
        go_ret
        exact ⟨rfl, Did.refl H.out HB2.out⟩
      · rw [if_neg h0] at he ⊢
        have h1 : 32768 - p < (m : Int) := by
          by_cases h1 : 32768 - p < (m : Int)
          · exact h1
          · rw [if_neg h1] at he; exact absurd rfl he
        rw [if_pos h1]
        clear he
        go_enter Try.func15, Try.ntmps15
        go_wp2_with (first
          | (go_at_call 33; (with_reducible refine HFd.out.mono ?_); rintro e w2 ⟨rfl, hb1⟩; have HB2 := Lib.hid hb1; have hc1 := HC.out.below hb1; have c21 := hc1.blk.cell (i := 2) rfl; have hlk := look_file hc1.mf hc1.vf HS.out hid2; have HBc := Lib.hid (HBcF.out w2 HB2.out); clear hb1 hc1)
          | fail)
        go_ret
        exact ⟨rfl, Did.refl H.out HB2.out⟩
  · have hW : d.write n p b = ((d.file n).1, d) := by unfold Dir.write; rw [if_pos (by simpa using hc)]
    rw [hW]
    have hne : ((d.file n).1 != 0) = true := by simp [hc]
    have hne2 : ((d.file n).1 == 0) = false := beq_eq_false_iff_ne.2 hc
    clear h hW hb hoff
    generalize T n = X at *
    generalize (d.file n).2 = id at *
    generalize (d.file n).1 = cd at *
    go_enter Try.func15, Try.ntmps15
    go_wp2_with (go_at_call 33; (with_reducible refine HFd.out.mono ?_); rintro e w1 ⟨rfl, hb1⟩; have HB1 := Lib.hid hb1)
    go_ret
    exact ⟨rfl, Did.refl H.out HB1.out⟩
end Go.Proofs.Ytpgkimohekdmmaa.Dw
