/-
  The program's directory: Make.
-/
import Derived.Test.YtpgkimohekdmmaaDs
namespace Go.Proofs.Ytpgkimohekdmmaa.Dk
open Go.ChangeShapes Go.WideShapes Go.ChangeAt Go.RowKit
open Bytes8 Blk8 Own8 OwnA OwnM OwnE Fa Fo Ta Ua Kf Dm Dp Da Db Dc Dd Ds Sfb Pv8 Go.Maps
set_option linter.unusedVariables false
set_option linter.unusedSimpArgs false
set_option maxRecDepth 100000

/-! ## plain -/
theorem rises_ext {r r' : RowD} (hr : Rises r) (hr' : Rises r') (h : ∀ m, at_ r m = at_ r' m) : r = r' := by
  induction r generalizing r' with
  | nil =>
    cases r' with
    | nil => rfl
    | cons q r' =>
      have := h q.1
      unfold at_ at this
      rw [if_pos rfl] at this
      cases this
  | cons p r ih =>
    cases r' with
    | nil =>
      have := h p.1
      unfold at_ at this
      rw [if_pos rfl] at this
      cases this
    | cons q r' =>
      have h1 := List.pairwise_cons.1 hr
      have h2 := List.pairwise_cons.1 hr'
      have ap : at_ (p :: r) p.1 = some p.2 := by unfold at_; rw [if_pos rfl]
      have aq : at_ (q :: r') q.1 = some q.2 := by unfold at_; rw [if_pos rfl]
      cases hpq : ltL p.1 q.1 with
      | true =>
        have e1 : at_ (q :: r') p.1 = none := at_none.2 fun x hx e => by
          rcases List.mem_cons.1 hx with h3 | h3
          · subst h3; rw [e, ltL_irrefl] at hpq; cases hpq
          · have h4 := ltL_trans _ _ _ hpq (h2.1 x h3)
            rw [e, ltL_irrefl] at h4; cases h4
        rw [← h, ap] at e1; cases e1
      | false =>
        cases hqp : ltL q.1 p.1 with
        | true =>
          have e1 : at_ (p :: r) q.1 = none := at_none.2 fun x hx e => by
            rcases List.mem_cons.1 hx with h3 | h3
            · subst h3; rw [e, ltL_irrefl] at hqp; cases hqp
            · have h4 := ltL_trans _ _ _ hqp (h1.1 x h3)
              rw [e, ltL_irrefl] at h4; cases h4
          rw [h, aq] at e1; cases e1
        | false =>
          have e := ltL_total _ _ hpq hqp
          have e2 : p.2 = q.2 := by
            have := h p.1
            rw [ap, e, aq] at this
            injection this
          have e3 : p = q := Prod.ext e e2
          subst e3
          rw [ih h1.2 h2.2]
          intro m
          by_cases hm : p.1 = m
          · subst hm
            rw [at_none.2 (fun x hx => (lt_ne (h1.1 x hx)).symm), at_none.2 (fun x hx => (lt_ne (h2.1 x hx)).symm)]
          · have := h m
            unfold at_ at this
            rwa [if_neg hm, if_neg hm] at this
theorem at_setRow (r : RowD) (b : Bd) (m : List Int) : at_ (setRow r b) m = if m = b.1 then (if b.2 = 0 then none else some b.2) else at_ r m := by
  unfold setRow
  split
  · rw [out_at]
  · rw [put_at]
theorem binds_one (r : RowD) (b : Bd) : binds r [b] = (setRow r b, [(b.1, (at_ r b.1).getD 0)]) := rfl
theorem binds_two (r : RowD) (b b2 : Bd) : binds r [b, b2] = (setRow (setRow r b) b2, [(b.1, (at_ r b.1).getD 0), (b2.1, (at_ (setRow r b) b2.1).getD 0)]) := rfl
theorem undo_one {r : RowD} {made : Nat} (h : GoodRow made r) (b : Bd) : undo (binds r [b]).1 (binds r [b]).2 = r := by
  rw [binds_one]
  refine rises_ext (undo_rises (setRow_rises h.rises b) _) h.rises fun m => ?_
  show at_ (setRow (setRow r b) (b.1, (at_ r b.1).getD 0)) m = _
  rw [at_setRow, at_setRow]
  by_cases e : m = b.1
  · subst e
    rw [if_pos rfl]
    cases ha : at_ r b.1 with
    | none => simp
    | some i => have := (h.ids _ (at_some ha)).1; simp at this; simp; omega
  · rw [if_neg e, if_neg e]
theorem undo_two {r : RowD} {made : Nat} (h : GoodRow made r) (b b2 : Bd) (hne : b.1 ≠ b2.1) : undo (binds r [b, b2]).1 (binds r [b, b2]).2 = r := by
  rw [binds_two]
  refine rises_ext (undo_rises (setRow_rises (setRow_rises h.rises b) b2) _) h.rises fun m => ?_
  show at_ (setRow (setRow (setRow (setRow r b) b2) (b.1, (at_ r b.1).getD 0)) (b2.1, (at_ (setRow r b) b2.1).getD 0)) m = _
  have e2 : at_ (setRow r b) b2.1 = at_ r b2.1 := by rw [at_setRow, if_neg (fun e => hne e.symm)]
  have key : ∀ x : List Int, (if (at_ r x).getD 0 = 0 then none else some ((at_ r x).getD 0)) = at_ r x := fun x => by
    cases ha : at_ r x with
    | none => simp
    | some i => have := (h.ids _ (at_some ha)).1; simp at this; simp; omega
  rw [e2, at_setRow, at_setRow, at_setRow, at_setRow]
  simp only
  by_cases e : m = b2.1
  · subst e; rw [if_pos rfl]; exact key _
  · rw [if_neg e, if_neg e]
    by_cases e3 : m = b.1
    · subst e3; rw [if_pos rfl]; exact key _
    · rw [if_neg e3, if_neg e3]
theorem chain_snoc {past : List RowD} {row r' : RowD} {us : List Und} {u : Und} (hl : us.length = past.length) (hch : ∀ j, j < us.length → undo ((past ++ [row]).getD (j + 1) []) (us.getD j default).cs = past.getD j []) (hu : undo r' u.cs = row) :
    ∀ j, j < (us ++ [u]).length → undo (((past ++ [row]) ++ [r']).getD (j + 1) []) ((us ++ [u]).getD j default).cs = (past ++ [row]).getD j [] := fun j hj => by
  rw [List.length_append, List.length_singleton] at hj
  by_cases h1 : j < us.length
  · have := hch j h1
    have e1 : ((past ++ [row]) ++ [r']).getD (j + 1) [] = (past ++ [row]).getD (j + 1) [] := by
      rw [List.getD_eq_getElem?_getD, List.getD_eq_getElem?_getD, List.getElem?_append_left (by simp; omega)]
    have e2 : (us ++ [u]).getD j default = us.getD j default := by
      rw [List.getD_eq_getElem?_getD, List.getD_eq_getElem?_getD, List.getElem?_append_left h1]
    have e3 : (past ++ [row]).getD j [] = past.getD j [] := by
      rw [List.getD_eq_getElem?_getD, List.getD_eq_getElem?_getD, List.getElem?_append_left (by omega)]
    rw [e1, e2, e3]; exact this
  · have e : j = us.length := by omega
    subst e
    have e1 : ((past ++ [row]) ++ [r']).getD (us.length + 1) [] = r' := by
      rw [List.getD_eq_getElem?_getD, List.getElem?_append_right (by simp; omega)]; simp [hl]
    have e2 : (us ++ [u]).getD us.length default = u := by simp
    have e3 : (past ++ [row]).getD us.length [] = row := by rw [hl]; simp
    rw [e1, e2, e3]; exact hu
theorem BOk.of_good {made : Nat} {r : RowD} (h : GoodRow made r) : BOk made 100 (r, []) := ⟨fun p hp => ⟨h.names p hp, (h.ids p hp).2⟩, (fun b hb => by cases hb), h.rises, by have := h.few; show r.length ≤ 100; omega⟩

/-- A new file laid. -/
theorem Core.newfile {w w4 w5 : World} {own : Nat → Nat} {g room made : Nat} {row : RowD} {fl : Nat → Fl} {fz : Int} {off : Bool} {Mf Mn : Nat} {Df Dn D5 : DU} {A : Option Addr} {n c : Nat} {us : List Und} {S : Nat → Bool} {gs : Nat → Nat} {k q : Nat}
    (h : Core w own g room made row fl fz off Mf Mn Df Dn A n c us S gs) (hS : ∀ i, S i = true → i < made) (h1 : 1 ≤ made) (hb : Below w.heap.size w w4) (hf : FileP w4 (Ext None' w w4) q [] []) (ht : w4.mapTurned w5 Mf) (hm : w5.ownsMap Try.prog 3 rP Mf k D5) (hk : k ≤ made + 24)
    (hv : FilesV D5 (fun j => S j || j == made) (fun j => if j = made then q else gs j)) :
    ∃ own', Core w5 own' g room made row (fun j => if j = made then default else fl j) fz off Mf Mn D5 Dn A n c us (fun j => S j || j == made) (fun j => if j = made then q else gs j) ∧ KeptF (Mine own) w w5 ∧ ∀ k, k < w.heap.size → own' k = own k := by
  have h4 := h.below hb
  have hMl := h.foot Mf (by rw [h.tMf]; decide)
  have kT := turned_keptF ht
  have hsz := turned_size ht
  have hs4 := hb.size
  have o0 : ∀ k, w.heap.size ≤ k → own k = 0 := fun k hk => by
    rcases Nat.eq_zero_or_pos (own k) with e | e
    · exact e
    · have := h.foot k (by omega); omega
  have hF : ∀ k, 2 ≤ own k → ¬ One Mf k := fun k e h2 => by rw [show k = Mf from h2, h.tMf] at e; omega
  have ho : ∀ k, own k ≠ 0 → (if w.heap.size ≤ k ∧ k < w4.heap.size then made + 2 else own k) = own k := fun k h0 => if_neg (fun e => h0 (o0 k e.1))
  refine ⟨fun k => if w.heap.size ≤ k ∧ k < w4.heap.size then made + 2 else own k, ?_, (KeptF.of_below hb).trans (kT.mono fun k e => by rw [show k = Mf from e]; exact .inl h.tMf) fun _ _ e => e, fun k hk => if_neg (by omega)⟩
  have hfoot : ∀ k, (if w.heap.size ≤ k ∧ k < w4.heap.size then made + 2 else own k) ≠ 0 → k < w5.heap.size := fun k h0 => by
    rw [hsz]
    split at h0
    · omega
    · have := h.foot k h0; omega
  exact {
    blk := Kf.Blk.keptF h4.blk kT (fun e => h.ne.2.1 (show g = Mf from e).symm)
    mf := map_small hm
    vf := hv
    mn := map_keptF h4.mn kT (fun e => h.ne.1 (show Mn = Mf from e).symm)
    vn := h.vn
    pend := OwnE.keptF h4.pend kT (fun k e => (h.tA k e).2.2.1)
    each := fun u hu => ⟨OwnE.keptF (h4.each u hu).1 kT (fun k e => hF k (by rw [(h.each u hu).2.1 k e]; decide)), fun k e => by
      have h2 := (h.each u hu).2.1 k e
      have := ho k (by omega)
      show (if w.heap.size ≤ k ∧ k < w4.heap.size then made + 2 else own k) = 2
      omega, (h.each u hu).2.2⟩
    file := fun i hi => by
      by_cases e : i = made
      · subst e
        refine ⟨⟨h1, Nat.le_refl _⟩, ?_⟩
        simp only [if_pos]
        exact (hf.keptF kT (fun k hk h2 => by
          rcases hk with hk | hk
          · exact hk
          · have : k = Mf := h2; omega)).more (fun k hk => by
          rcases hk with hk | hk
          · exact hk.elim
          · exact if_pos hk) (fun k hk => hfoot k (by have e1 : (if w.heap.size ≤ k ∧ k < w4.heap.size then i + 2 else own k) = i + 2 := hk; omega))
      · have hi2 : S i = true := by simpa [e] using hi
        simp only [if_neg e]
        refine ⟨(h.file i hi2).1, ((h4.file i hi2).2.keptF kT (fun k e2 => hF k (by rw [show own k = i + 2 from e2]; omega))).more (fun k e2 => ?_) (fun k e2 => hfoot k (by have e1 : (if w.heap.size ≤ k ∧ k < w4.heap.size then made + 2 else own k) = i + 2 := e2; omega))⟩
        have e1 : own k = i + 2 := e2
        show (if w.heap.size ≤ k ∧ k < w4.heap.size then made + 2 else own k) = i + 2
        rw [ho k (by omega)]; exact e1
    tg := (ho g (by rw [h.tg]; decide)).trans h.tg
    tMf := (ho Mf (by rw [h.tMf]; decide)).trans h.tMf
    tMn := (ho Mn (by rw [h.tMn]; decide)).trans h.tMn
    tA := fun k e => ⟨(ho k (by rw [(h.tA k e).1]; decide)).trans (h.tA k e).1, (h.tA k e).2⟩
    ne := h.ne
    foot := hfoot
    fz64 := h.fz64
    szf := Nat.le_trans hm.size_le hk
    mmax := h.mmax
    pmax := h.pmax
    rmax := h.rmax }
end Go.Proofs.Ytpgkimohekdmmaa.Dk
