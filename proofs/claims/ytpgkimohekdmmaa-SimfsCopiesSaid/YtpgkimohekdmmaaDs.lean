/-
  The program's directory: the loops over all names: what is free, what is kept.
-/
import Derived.Test.YtpgkimohekdmmaaDd
namespace Go.Proofs.Ytpgkimohekdmmaa.Ds
open Go.ChangeShapes Go.WideShapes Go.ChangeAt Go.RowKit
open Bytes8 Blk8 Own8 OwnA OwnM OwnE Fa Fo Ta Ua Kf Dm Dp Da Db Dc Dd Sfb Go.Maps
set_option linter.unusedVariables false
set_option linter.unusedSimpArgs false
set_option maxRecDepth 100000

theorem same_key {n m : List Int} (hn : AllB n) (hm : AllB m) : (kS n).sameKey (kS m) = decide (n = m) := by
  by_cases e : n = m
  · subst e; rw [WideAt.sameKey_self (kS_key n)]; simp
  · rw [sameKey_ne (fun h => e (kS_inj hn hm h))]; simp [e]
/-- What stands at the next key. -/
theorem next_name {D : DU} {r : RowD} (hV : NamesV D r) {x : ByteArray} {c : Int} {kl : Lit} {y : DU × List MemPlace} (hk : keyOf Try.prog 9 (.string x) = some kl) (hy : plainElem Try.prog 3 (.int .i64 c) = some y) (hat : ∀ zd, D.atKey kl zd = y.1) :
    ∃ n i, AllB n ∧ x = T n ∧ kl = kS n ∧ Ua.at_ r n = some i ∧ c = ((i : Nat) : Int) := by
  obtain ⟨x', e1, rfl, hl⟩ := Maps.keyOf_str Try.underlying9 hk
  have ex : x = ⟨x'.toArray⟩ := by simpa [Go.Proofs.encStr] using e1
  obtain ⟨a, e2, rfl, _⟩ := plainElem_int_inv Try.underlying3 hy
  injection e2 with _ e2
  subst e2
  have hn := num_all x
  have hkS : Lit.string x' = kS (num x) := by unfold kS; rw [T_num, ex]
  rw [hkS] at hat
  have h1 := hV.at_ (num x) hn
  refine ⟨num x, ?_⟩
  cases ha : Ua.at_ r (num x) with
  | none =>
    simp only [ha] at h1
    have := (h1 .nil).symm.trans (hat .nil)
    cases this
  | some i =>
    simp only [ha] at h1
    have := (h1 .nil).symm.trans (hat .nil)
    unfold dI at this
    injection this with this
    injection this with _ this
    exact ⟨i, hn, (T_num x).symm, hkS, rfl, this.symm⟩

/-! ## plain: what has been met -/
def strike (left : Lit → Bool) (n : List Int) : Lit → Bool := fun z => left z && !z.sameKey (kS n)
theorem any_step {r : RowD} {left : Lit → Bool} {n : List Int} {b : Nat} (hr : Rises r) (hA : ∀ p ∈ r, AllB p.1) (hn : AllB n) (hat : Ua.at_ r n = some b) (j : Nat) :
    (r.any fun p => p.2 == j && !strike left n (kS p.1)) = ((r.any fun p => p.2 == j && !left (kS p.1)) || j == b) := by
  rw [Bool.eq_iff_iff]
  simp only [List.any_eq_true, Bool.or_eq_true, Bool.and_eq_true, beq_iff_eq, Bool.not_eq_true']
  constructor
  · rintro ⟨p, hp, h1, h2⟩
    unfold strike at h2
    rw [same_key (hA p hp) hn] at h2
    by_cases e : p.1 = n
    · right
      have := at_mem hr (show (p.1, p.2) ∈ r from hp)
      rw [e, hat] at this
      injection this with this
      omega
    · left
      exact ⟨p, hp, h1, by simpa [e] using h2⟩
  · rintro (⟨p, hp, h1, h2⟩ | h)
    · exact ⟨p, hp, h1, by unfold strike; rw [h2]; rfl⟩
    · exact ⟨(n, b), at_some hat, h.symm, by unfold strike; rw [same_key hn hn]; simp⟩
def sumV (f : List Int × Nat → Nat) (left : Lit → Bool) (r : RowD) : Nat := ((r.filter fun p => !left (kS p.1)).map f).sum
theorem sum_step {f : List Int × Nat → Nat} {r : RowD} {left : Lit → Bool} {n : List Int} {b : Nat} (hr : Rises r) (hA : ∀ p ∈ r, AllB p.1) (hn : AllB n) (hat : Ua.at_ r n = some b) (hl : left (kS n) = true) :
    sumV f (strike left n) r = sumV f left r + f (n, b) := by
  induction r with
  | nil => cases hat
  | cons p r ih =>
    have h1 := List.pairwise_cons.1 hr
    have ih := ih h1.2 (fun q hq => hA q (List.mem_cons_of_mem _ hq))
    have hp := hA p (List.mem_cons_self ..)
    unfold sumV at ih ⊢
    unfold Ua.at_ at hat
    by_cases e : p.1 = n
    · rw [if_pos e] at hat
      injection hat with hat
      have e1 : (!strike left n (kS p.1)) = true := by unfold strike; rw [same_key hp hn]; simp [e]
      have e2 : ¬ (!left (kS p.1)) = true := by rw [e, hl]; simp
      rw [List.filter_cons_of_pos (by exact e1), List.filter_cons_of_neg (by exact e2), List.map_cons, List.sum_cons]
      have e3 : (r.filter fun q => !strike left n (kS q.1)) = r.filter fun q => !left (kS q.1) := by
        refine List.filter_congr fun q hq => ?_
        have := lt_ne (h1.1 q hq)
        unfold strike
        rw [same_key (hA q (List.mem_cons_of_mem _ hq)) hn]
        have hq2 : ¬ q.1 = n := fun e2 => this (by rw [e, e2])
        simp [hq2]
      rw [e3]
      have : p = (n, b) := by rw [← e, ← hat]
      rw [this]; omega
    · rw [if_neg e] at hat
      have ih := ih hat
      have e1 : strike left n (kS p.1) = left (kS p.1) := by unfold strike; rw [same_key hp hn]; simp [e]
      cases hlp : left (kS p.1) with
      | true =>
        rw [List.filter_cons_of_neg (by rw [e1, hlp]; simp), List.filter_cons_of_neg (by rw [hlp]; simp)]
        exact ih
      | false =>
        rw [List.filter_cons_of_pos (by rw [e1, hlp]; rfl), List.filter_cons_of_pos (by rw [hlp]; rfl), List.map_cons, List.map_cons, List.sum_cons, List.sum_cons]
        omega
theorem sum_start {f : List Int × Nat → Nat} {D : DU} {r : RowD} (hV : NamesV D r) (hr : Rises r) (hA : ∀ p ∈ r, AllB p.1) : sumV f (Maps.has D) r = 0 := by
  unfold sumV
  rw [List.filter_eq_nil_iff.2]
  · rfl
  · intro p hp
    rw [hV.has (hA p hp), at_mem hr (show (p.1, p.2) ∈ r from hp)]
    simp
theorem sum_end {f : List Int × Nat → Nat} {left : Lit → Bool} {r : RowD} (hl : ∀ kl, left kl = false) : sumV f left r = (r.map f).sum := by
  unfold sumV
  rw [List.filter_eq_self.2]
  intro p hp
  rw [hl]; rfl
theorem any_start {D : DU} {r : RowD} (hV : NamesV D r) (hr : Rises r) (hA : ∀ p ∈ r, AllB p.1) (j : Nat) : (r.any fun p => p.2 == j && !Maps.has D (kS p.1)) = false := by
  rw [List.any_eq_false]
  intro p hp
  rw [hV.has (hA p hp), at_mem hr (show (p.1, p.2) ∈ r from hp)]
  simp
theorem any_end {left : Lit → Bool} {r : RowD} (hl : ∀ kl, left kl = false) (j : Nat) : (r.any fun p => p.2 == j && !left (kS p.1)) = (r.map (·.2)).contains j := by
  rw [List.contains_eq_any_beq, List.any_map]
  congr 1
  funext p
  rw [hl]
  simp [Bool.beq_comm]

theorem settle_end {w wr : World} {own : Nat → Nat} {g room made : Nat} {row : RowD} {fl : Nat → Fl} {fz : Int} {off : Bool} {Mf Mn : Nat} {Df Dn : DU} {A : Option Addr} {n c : Nat} {us : List Und} {S S' : Nat → Bool} {gs : Nat → Nat} {k : Nat} {Dk : DU}
    (h : Core w own g room made row fl fz off Mf Mn Df Dn A n c us S gs) (hb : Below w.heap.size w wr) (hm : wr.ownsMap Try.prog 3 rP w.heap.size k Dk) (hk : k ≤ 24) (hv : FilesV Dk S' gs) (hS : ∀ i, S' i = true → S i = true) :
    ∃ own', Core ((wr.setCell ⟨g, 2, none⟩ (.map (some w.heap.size))).setCell ⟨g, 4, none⟩ (.slice none 0 0)) own' g room made row fl fz off w.heap.size Mn Dk Dn none 0 0 [] S' gs ∧ KeptF (Mine own) w ((wr.setCell ⟨g, 2, none⟩ (.map (some w.heap.size))).setCell ⟨g, 4, none⟩ (.slice none 0 0)) ∧ ∀ k, k < w.heap.size → own' k = own k := by
  have hlt := hm.lt
  have h1 := h.below hb
  have hgl := h.foot g (by rw [h.tg]; decide)
  have hMl := h.foot Mn (by rw [h.tMn]; decide)
  have hw0 : own w.heap.size = 0 := by
    rcases Nat.eq_zero_or_pos (own w.heap.size) with e | e
    · exact e
    · have := h.foot w.heap.size (by omega); omega
  have k2 : KeptF (One g) wr ((wr.setCell ⟨g, 2, none⟩ (.map (some w.heap.size))).setCell ⟨g, 4, none⟩ (.slice none 0 0)) := ((KeptF.refl (One g) wr).setCell (p := ⟨g, 2, none⟩) (fun _ => (rfl : g = g)) _).setCell (p := ⟨g, 4, none⟩) (fun _ => (rfl : g = g)) _
  have hsz : ((wr.setCell ⟨g, 2, none⟩ (.map (some w.heap.size))).setCell ⟨g, 4, none⟩ (.slice none 0 0)).heap.size = wr.heap.size := by simp [World.setCell]
  have hF : ∀ k, 2 ≤ own k → ¬ One g k := fun k e h2 => by rw [show k = g from h2, h.tg] at e; omega
  have ho : ∀ k, own k ≠ 0 → (if k = w.heap.size then 1 else own k) = own k := fun k h0 => if_neg (fun e => by rw [e] at h0; exact h0 hw0)
  refine ⟨fun k => if k = w.heap.size then 1 else own k, ?_, (KeptF.of_below hb).trans (k2.mono fun k e => by rw [show k = g from e]; exact .inl h.tg) fun _ _ e => e, fun k hk => if_neg (by omega)⟩
  exact {
    blk := (h1.blk.set_ 2 _).set_ 4 _
    mf := map_small (map_keptF hm k2 (fun e => by have : w.heap.size = g := e; omega))
    vf := hv
    mn := map_keptF h1.mn k2 (fun e => h.ne.2.2 e)
    vn := h1.vn
    pend := OwnE.nil _ _ (Nat.zero_le _)
    each := fun u hu => by cases hu
    file := fun i hi => ⟨(h.file i (hS i hi)).1, ((h1.file i (hS i hi)).2.keptF k2 (fun k e => hF k (by rw [show own k = i + 2 from e]; omega))).more (fun k e => by
        have e1 : own k = i + 2 := e
        show (if k = w.heap.size then 1 else own k) = i + 2
        rw [ho k (by omega)]; exact e1) (fun k e => by
        have e1 : (if k = w.heap.size then 1 else own k) = i + 2 := e
        rw [hsz]
        split at e1
        · omega
        · have := h.foot k (by omega); have := hb.size; omega)⟩
    tg := by rw [ho g (by rw [h.tg]; decide)]; exact h.tg
    tMf := if_pos rfl
    tMn := by rw [ho Mn (by rw [h.tMn]; decide)]; exact h.tMn
    tA := fun k e => by cases e
    ne := ⟨by omega, by omega, h.ne.2.2⟩
    foot := fun k h0 => by
      rw [hsz]
      by_cases e : k = w.heap.size
      · omega
      · have h0 : own k ≠ 0 := by simpa [e] using h0
        have := h.foot k h0; have := hb.size; omega
    fz64 := h.fz64
    szf := by
      have : Maps.size Dk ≤ k := hm.size_le
      omega
    mmax := h.mmax
    pmax := by omega
    rmax := h.rmax }

set_option maxHeartbeats 2000000 in
theorem settle_any (w : World) (own : Nat → Nat) (g room made : Nat) (row : RowD) (fl : Nat → Fl) (fz : Int) (off : Bool) (Mf Mn : Nat) (Df Dn : DU) (A : Option Addr) (n c : Nat) (us : List Und) (S : Nat → Bool) (gs : Nat → Nat)
    (h : Core w own g room made row fl fz off Mf Mn Df Dn A n c us S gs) (hr : Rises row) (hA : ∀ p ∈ row, AllB p.1) (hrl : row.length ≤ 24) (hS : ∀ p ∈ row, S p.2 = true) :
    Calls Try.prog 38 #[.pointer (some ⟨g, 0, none⟩)] w fun e w' => e = .returned (.tuple #[]) ∧ ∃ own' Mf' Df', Core w' own' g room made row fl fz off Mf' Mn Df' Dn none 0 0 [] (fun i => (row.map (·.2)).contains i) gs ∧ KeptF (Mine own) w w' ∧ ∀ k, k < w.heap.size → own' k = own k := by
  have hmm := @run_makeMap Try.prog
  have e1 : (w.alloc (.map #[] 0)).heap.size = w.heap.size + 1 := by simp
  have H0 := Lib.hid h
  have c3 := (h.alloc (.map #[] 0)).blk.cell (i := 3) rfl
  have HN := Lib.hid ((h.mn).alloc (.map #[] 0))
  have HV := Lib.hid h.vn
  have hsz : Maps.size Dn ≤ 24 := by rw [h.vn.size]; exact hrl
  have hF := Lib.hid h.foot
  have HR := Lib.hid hr
  have HA := Lib.hid hA
  have HS := Lib.hid hS
  have hMn := h.foot Mn (by rw [h.tMn]; decide)
  have hMf := h.foot Mf (by rw [h.tMf]; decide)
  have hgg := h.foot g (by rw [h.tg]; decide)
  clear h hr hA hS
  go_enter Try.func38, Try.ntmps38
  go_wp2_with (first
    | (at_range; refine wpList_range_own _ rfl _ 53 rfl 9 3 lawS Try.underlying53 _ Mn _ _ rfl HN.out ?_; intro w0 hrg0 hg0 hs0)
    | go_in)
  go_frame
  rw [e1] at hrg0 hs0 ⊢
  have HRg := Lib.hid hrg0
  have HG0 := Lib.hid hg0
  have HB0 := Lib.hid (((Below.refl w.heap.size w).alloc (Nat.le_refl _) (.map #[] 0)).grown hg0 (by simp) (fun j hj => by cases hj))
  clear hrg0 hg0
  go_loopw [11, 12] (fun _ _ wr => ∃ (left : Lit → Bool) (cnt k : Nat) (Dk : DU), Hid (wr.ranges Try.prog 9 (plainElem Try.prog 3) Mn (w.heap.size + 1) (Maps.size Dn) Dn left cnt) ∧ k + cnt ≤ 24 ∧
      Hid (wr.ownsMap Try.prog 3 rP w.heap.size k Dk) ∧ Hid (FilesV Dk (fun j => row.any fun p => p.2 == j && !left (kS p.1)) gs) ∧ Hid (Below w.heap.size w wr))
    (fun _ _ wr => wr.rangeLeft Mn (w.heap.size + 1))
  case atStart =>
    refine ⟨_, _, 0, .map [], HRg, by omega, Lib.hid ((World.ownsMap_made _ _ _ _).kept HG0.out (by simp)), Lib.hid ?_, HB0⟩
    have := FilesV.nil gs
    have e : (fun _ : Nat => false) = fun j => row.any fun p => p.2 == j && !Maps.has Dn (kS p.1) := funext fun j => (any_start HV.out HR.out HA.out j).symm
    rw [e] at this
    exact this
  case round =>
    obtain ⟨left, cnt, k, Dk, hrg, hcs, hout, hfv, hnx⟩ := hrel
    go_wp2_with (first
      | (at_next; refine wpList_next_ranges (α := ByteArray) (β := Int) _ rfl _ rfl 9 lawS (plainElem Try.prog 3) Value.string (Value.int .i64) (fun key kl h => by obtain ⟨x, hx, _⟩ := Maps.keyOf_str Try.underlying9 h; exact ⟨⟨x.toArray⟩, hx⟩) (fun v y h => by obtain ⟨q, hq, _⟩ := plainElem_int_inv Try.underlying3 h; exact ⟨q, hq⟩) Mn (w.heap.size + 1) _ _ _ _ rfl hrg.out ?_ ?_)
      | go_in)
    · intro hc0 hl0
      have h1 := H0.out.below hnx.out
      have f2 := h1.blk.frozen 2
      have f4 := h1.blk.frozen 4
      have c2 := h1.blk.cell (i := 2) rfl
      have c4 := h1.blk.cell (i := 4) rfl
      have H1 := Lib.hid h1
      have HL := Lib.hid hl0
      clear h1 hl0
      go_wp2
      go_end0
      have e2 : (fun j => row.any fun p => p.2 == j && !left (kS p.1)) = fun j => (row.map (·.2)).contains j := funext fun j => any_end HL.out j
      have hv2 := hfv.out
      rw [e2] at hv2
      obtain ⟨own', q1, q2, q3⟩ := settle_end H0.out hnx.out hout.out (by omega) hv2 (fun i hi => by
        simp only [List.contains_eq_mem, decide_eq_true_eq] at hi
        obtain ⟨p, hp, rfl⟩ := List.mem_map.1 hi
        exact HS.out p hp)
      exact ⟨rfl, own', _, _, q1, q2, q3⟩
    · intro x q kl dd ps w1 cnt1 hkx hlx hyx hat hrg1 hlt hg1 hs1 hen
      obtain ⟨nm, i, hnm, rfl, rfl, hai, rfl⟩ := next_name (y := (dd, ps)) HV.out hkx hyx hat
      have hb1 : Below w.heap.size w w1 := hnx.out.grown hg1 (hnx.out.size) (fun j hj => by cases hj; omega)
      have H1 := Lib.hid (H0.out.below hb1)
      have c2 := H1.out.blk.cell (i := 2) rfl
      have hSi := HS.out _ (at_some hai)
      have hi1 := (H0.out.file _ hSi).1.2
      have hmk := H0.out.mmax
      have hlk := look_file H1.out.mf H1.out.vf hSi (by simp only at hi1; omega)
      obtain ⟨w2, D2, hrun, hm2, hv2, ht2⟩ := put_file (hout.out.kept hg1 (by simp)) (by unfold maxLen; omega) hfv.out (i := i) (by simp only at hi1; omega) (gs i)
      have HM2 := Lib.hid hm2
      have HV2 := Lib.hid hv2
      have HT2 := Lib.hid ht2
      have HR1 := Lib.hid hrg1
      clear hm2 hv2 ht2 hrg1 hkx hyx hat
      generalize T nm = X at *
      go_wp2
      have hrg2 := HR1.out.kept HT2.out.grown (fun e => by have := Option.some.inj e; omega) (fun e => by have := Option.some.inj e; omega)
      go_roundw
      case rel =>
        refine ⟨_, cnt1, k + 1, D2, Lib.hid hrg2, by omega, HM2, Lib.hid ?_, Lib.hid (hb1.grown HT2.out.grown hb1.size (fun j hj => by cases hj; exact Nat.le_refl _))⟩
        have e1 : (fun j => if j = i then gs i else gs j) = gs := funext fun j => by split <;> rename_i h <;> simp [h]
        have e2 : (fun j => (row.any fun p => p.2 == j && !left (kS p.1)) || j == i) = fun j => row.any fun p => p.2 == j && !(left (kS p.1) && !(kS p.1).sameKey (kS nm)) := funext fun j => (any_step HR.out HA.out hnm hai j).symm
        have := HV2.out
        rw [e1, e2] at this
        exact this
      case measure => rw [hrg2.left_eq, hrg.out.left_eq]; exact hlt

def Dir.lens (d : Dir) (p : List Int × Nat) : Nat := (d.fl p.2).now.length
set_option maxHeartbeats 2000000 in
theorem free_any (w : World) (own : Nat → Nat) (g : Nat) (d : Dir) (h : DirP w own g d) :
    Calls Try.prog 10 #[.pointer (some ⟨g, 0, none⟩)] w fun e w' => e = .returned (.int .i64 (d.free : Nat)) ∧ Below w.heap.size w w' := by
  have hgood := h.good
  obtain ⟨fz, Mf, Mn, Df, Dn, A, n, c, us, S, gs, hc, _, _, _, _, hrs⟩ := h
  have c6 := hc.blk.cell (i := 6) rfl
  have c3 := hc.blk.cell (i := 3) rfl
  have c0 := hc.blk.cell (i := 0) rfl
  unfold Dir.free
  cases hoff : d.off with
  | true =>
    rw [hoff] at c6
    rw [if_pos rfl]
    clear hc hgood
    go_enter Try.func10, Try.ntmps10
    go_wp2
    go_ret
    exact ⟨rfl, Below.refl _ _⟩
  | false =>
    rw [hoff] at c6 hc
    rw [if_neg (by simp)]
    have HTot := Lib.hid (show d.total = (d.row.map (Dir.lens d)).sum from rfl)
    have hrm := hc.rmax
    have hrises := hgood.row.rises
    have hAl : ∀ p ∈ d.row, AllB p.1 := fun p hp => (nmOk_all (hgood.row.names p hp)).1
    have HR := Lib.hid hrises
    have HA := Lib.hid hAl
    have HS := Lib.hid fun p hp => hrs d.row (by simp) p hp
    have H0 := Lib.hid hc
    have HGd := Lib.hid hgood
    have hMn := hc.foot Mn (by rw [hc.tMn]; decide)
    have HMn := Lib.hid hc.mn
    have HV := Lib.hid hc.vn
    have hst : sumV (Dir.lens d) (Maps.has Dn) d.row = 0 := sum_start hc.vn hrises hAl
    have hsz : Maps.size Dn ≤ 24 := by rw [hc.vn.size]; exact hgood.row.few
    have HSt := Lib.hid hst
    clear hc hgood hrises hAl hrs hst
    generalize hrow : d.row = row at *
    go_enter Try.func10, Try.ntmps10
    go_wp2_with (first
      | (at_range; refine wpList_range_own _ rfl _ 53 rfl 9 3 lawS Try.underlying53 _ Mn _ _ rfl HMn.out ?_; intro w0 hrg0 hg0 hs0)
      | go_in)
    go_frame
    have HRg := Lib.hid hrg0
    have HB0 := Lib.hid ((Below.refl w.heap.size w).grown hg0 (Nat.le_refl _) (fun j hj => by cases hj))
    clear hrg0 hg0
    go_loopw [3] (fun s wr => ∃ (left : Lit → Bool) (cnt : Nat), s = .int .i64 ((d.room : Int) - (sumV (Dir.lens d) left row : Nat)) ∧ Hid (wr.ranges Try.prog 9 (plainElem Try.prog 3) Mn w.heap.size (Maps.size Dn) Dn left cnt) ∧ sumV (Dir.lens d) left row + cnt * 32768 ≤ 1000000 ∧ Hid (Below w.heap.size w wr))
      (fun _ wr => wr.rangeLeft Mn w.heap.size)
    case atStart =>
      exact ⟨_, _, by rw [HSt.out]; simp, HRg, by rw [HSt.out]; omega, HB0⟩
    case round =>
      obtain ⟨left, cnt, rfl, hrg, hcs, hnx⟩ := hrel
      go_wp2_with (first
        | (at_next; refine wpList_next_ranges (α := ByteArray) (β := Int) _ rfl _ rfl 9 lawS (plainElem Try.prog 3) Value.string (Value.int .i64) (fun key kl h => by obtain ⟨x, hx, _⟩ := Maps.keyOf_str Try.underlying9 h; exact ⟨⟨x.toArray⟩, hx⟩) (fun v y h => by obtain ⟨q, hq, _⟩ := plainElem_int_inv Try.underlying3 h; exact ⟨q, hq⟩) Mn w.heap.size _ _ _ _ rfl hrg.out ?_ ?_)
        | go_in)
      · intro hc0 hl0
        have he := sum_end (f := Dir.lens d) (r := row) hl0
        have HE := Lib.hid he
        clear hl0 he
        generalize sumV (Dir.lens d) left row = tot at *
        go_wp2
        all_goals go_ret
        all_goals
          refine ⟨ret_int ?_, hnx.out⟩
          have h1 := HTot.out
          have h2 := HE.out
          omega
      · intro x q kl dd ps w1 cnt1 hkx hlx hyx hat hrg1 hlt hg1 hs1 hen
        obtain ⟨nm, i, hnm, rfl, rfl, hai, rfl⟩ := next_name (y := (dd, ps)) HV.out hkx hyx hat
        have hb1 : Below w.heap.size w w1 := hnx.out.grown hg1 (hnx.out.size) (fun j hj => by cases hj; omega)
        have H1 := Lib.hid (H0.out.below hb1)
        have c2 := H1.out.blk.cell (i := 2) rfl
        have hSi := HS.out _ (at_some hai)
        have hi1 := (H0.out.file _ hSi).1.2
        have hmk := H0.out.mmax
        have hlk := look_file H1.out.mf H1.out.vf hSi (by simp only at hi1; omega)
        have HL := Lib.hid (len_any w1 _ _ _ _ (H1.out.file _ hSi).2)
        have hll := (HGd.out.fl i).max
        have hst := sum_step (f := Dir.lens d) HR.out HA.out hnm hai hlx
        have HR1 := Lib.hid hrg1
        have HSt2 := Lib.hid hst
        have hli : Dir.lens d (nm, i) = (d.fl i).now.length := rfl
        have HLi := Lib.hid hli
        clear hrg1 hkx hyx hat hst hli
        simp only at HL
        generalize (d.fl i).now.length = ln at *
        generalize hsv : sumV (Dir.lens d) left row = tot at *
        generalize T nm = X at *
        have hw : IntKind.i64.wrap ((d.room : Int) - (tot : Nat) - (ln : Nat)) = (d.room : Int) - (tot : Nat) - (ln : Nat) := by rw [IntKind.wrap_i64]; omega
        go_wp2_with (go_at_call 28; (with_reducible refine HL.out.mono ?_); rintro e w2 ⟨rfl, rfl⟩)
        go_roundw
        case rel =>
          refine ⟨_, cnt1, ?_, HR1, ?_, Lib.hid hb1⟩
          · have h1 := HSt2.out
            have h2 := HLi.out
            show Value.int .i64 _ = Value.int .i64 ((d.room : Int) - (sumV (Dir.lens d) (strike left nm) row : Nat))
            congr 1
            omega
          · have h1 := HSt2.out
            have h2 := HLi.out
            show sumV (Dir.lens d) (strike left nm) row + _ ≤ _
            omega
        case measure => rw [HR1.out.left_eq, hrg.out.left_eq]; exact hlt
end Go.Proofs.Ytpgkimohekdmmaa.Ds
