/-
  The program's directory: names bound, and what they stood for kept.
-/
import Derived.Test.YtpgkimohekdmmaaDb
import Derived.Maps.AppendAt
namespace Go.Proofs.Ytpgkimohekdmmaa.Dc
open Go.ChangeShapes Go.WideShapes Go.ChangeAt Go.RowKit
open Bytes8 Blk8 Own8 OwnA OwnM OwnE Fa Fo Ta Ua Kf Dm Dp Da Db Sfb Go.Maps
set_option linter.unusedVariables false
set_option linter.unusedSimpArgs false
set_option maxRecDepth 100000

/-! ## 'append' onto a slice of whatever elements: where the new one lies -/
theorem run_append_elt_at {E S : TypeId} {size bytes : Nat} {z : Value} (he : Elt E S size bytes z) (w : World) (ty : TypeId) (base : Nat) (A : Option Addr) (n c : Nat) (xs : List Value) (ho : OwnE E size w base A n c xs) (ad : Addr) (m c2 : Nat) (news : List Value) (hl : news.length = m * size)
    (hnews : ∀ j u, news[j]? = some u → w.cell? (ad.add j) = some u) (h1 : ∀ u ∈ news, u.oneCell' = true) (h63 : n + m ≤ 4611686018427387904) (hbytes : (n + m) * bytes ≤ 140737488355328) (hml : n + m ≤ maxLen) :
    ∃ A' c' w', (Builtin.append_ #[S, S] ty #[.slice A n c, .slice (some ad) m c2]).run Try.prog w = .ok (.slice A' (n + m) c') w' ∧ OwnE E size w' base A' (n + m) c' (xs ++ news) ∧ w.grownBy w' (ownB A) ∧ (ownB A' = ownB A ∨ ownB A' = some w.heap.size) := by
  obtain ⟨i, hi, hzz⟩ := Option.map_eq_some_iff.1 he.info
  simp only [Prod.mk.injEq] at hzz
  obtain ⟨hz, hs, hby⟩ := hzz
  obtain ⟨v', w', hr, h2, h3, h4, h5⟩ := run_append_own_at (P := Try.prog) w base S ty E i z size bytes he.under hi hz hs hby he.zero he.pos _ n xs ho.2 ad m c2 news hl hnews h1 hml hbytes ho.1
  rw [ownB_eq] at h3 h5
  rcases h2.2 with ⟨rfl, h0⟩ | ⟨g, cap, cur, rfl, _⟩
  · rw [h0] at h2 ⊢
    rw [ownB_eq] at h5
    exact ⟨none, 0, w', hr, ⟨Nat.le_trans ho.1 h3.size, h2⟩, h3, h5⟩
  · rw [ownB_eq] at h5
    exact ⟨_, _, w', hr, ⟨Nat.le_trans ho.1 h3.size, h2⟩, h3, h5⟩
theorem wpList_append_elt_at {E S : TypeId} {size bytes : Nat} {z : Value} (he : Elt E S size bytes z) {w : World} {ops : Array Oper} {rest : List Oper} {o : Oper} {a : Act} {Q : Exit → Act → World → Prop} (hgd : o.guard = none) (s x : Operand)
    (hop : o.op = .call { callee := .builtin .append, args := #[s, x], argTypes := #[S, S] })
    (base : Nat) (A : Option Addr) (n c : Nat) (xs : List Value) (hs : a.eval s = .slice A n c) (ho : OwnE E size w base A n c xs) (ad : Addr) (m c2 : Nat) (news : List Value) (hx : a.eval x = .slice (some ad) m c2) (hl : news.length = m * size)
    (hnews : ∀ j u, news[j]? = some u → w.cell? (ad.add j) = some u) (h1 : ∀ u ∈ news, u.oneCell' = true) (h63 : n + m ≤ 4611686018427387904) (hbytes : (n + m) * bytes ≤ 140737488355328) (hml : n + m ≤ maxLen)
    (h : ∀ A' c' w', OwnE E size w' base A' (n + m) c' (xs ++ news) → w.grownBy w' (ownB A) → (ownB A' = ownB A ∨ ownB A' = some w.heap.size) → wpList Try.prog ops Q rest (a.put o.dst (.slice A' (n + m) c')) w') : wpList Try.prog ops Q (o :: rest) a w :=
  wpList_plain hgd fun _ hK => by
    obtain ⟨A', c', w', hr, h2, h3, h4⟩ := run_append_elt_at he w o.type base A n c xs ho ad m c2 news hl hnews h1 h63 hbytes hml
    unfold Oper.wp execOp
    simp only [hop, resolve, invoke, builtin, Sem.run_bind, Sem.run_pure, Result.andThen_ok, List.map_toArray, List.map_cons, List.map_nil, hs, hx, hr]
    exact hK _ _ (h A' c' w' h2 h3 h4)
theorem step_append_elt_at {E S : TypeId} {size bytes : Nat} {z : Value} (he : Elt E S size bytes z) {w : World} {ops : Array Oper} {o : Oper} {a : Act} {K : Act → World → Prop} {Q : Exit → Act → World → Prop} {F : Prop} (hgd : o.guard = none) (s x : Operand)
    (hop : o.op = .call { callee := .builtin .append, args := #[s, x], argTypes := #[S, S] })
    (base : Nat) (A : Option Addr) (n c : Nat) (xs : List Value) (hs : a.eval s = .slice A n c) (ho : OwnE E size w base A n c xs) (ad : Addr) (m c2 : Nat) (news : List Value) (hx : a.eval x = .slice (some ad) m c2) (hl : news.length = m * size)
    (hnews : ∀ j u, news[j]? = some u → w.cell? (ad.add j) = some u) (h1 : ∀ u ∈ news, u.oneCell' = true) (h63 : n + m ≤ 4611686018427387904) (hbytes : (n + m) * bytes ≤ 140737488355328) (hml : n + m ≤ maxLen)
    (h : ∀ A' c' w', OwnE E size w' base A' (n + m) c' (xs ++ news) → w.grownBy w' (ownB A) → (ownB A' = ownB A ∨ ownB A' = some w.heap.size) → K (a.put o.dst (.slice A' (n + m) c')) w') :
    if Region.wanted o (yielded ops a.tmps) = true then Oper.wp Try.prog o a w K Q else F := by
  have hw : Region.wanted o (yielded ops a.tmps) = true := by simp [Region.wanted, hgd]
  rw [if_pos hw]
  obtain ⟨A', c', w', hr, h2, h3, h4⟩ := run_append_elt_at he w o.type base A n c xs ho ad m c2 news hl hnews h1 h63 hbytes hml
  unfold Oper.wp execOp
  simp only [hop, resolve, invoke, builtin, Sem.run_bind, Sem.run_pure, Result.andThen_ok, List.map_toArray, List.map_cons, List.map_nil, hs, hx, hr]
  exact h A' c' w' h2 h3 h4
theorem bindElt : Elt 62 73 2 24 (.agg #[.string { data := #[] }, .int .i64 0]) := ⟨Try.underlying73, by kernel_rfl, rfl, by decide⟩
theorem pendElt : Elt 73 54 1 24 (.slice none 0 0) := ⟨Try.underlying54, by kernel_rfl, rfl, by decide⟩

/-! ## plain -/
def bstep (q : RowD × List Bd) (b : Bd) : RowD × List Bd := (setRow q.1 b, q.2 ++ [(b.1, (at_ q.1 b.1).getD 0)])
def binds (r : RowD) (bs : List Bd) : RowD × List Bd := bs.foldl bstep (r, [])
theorem take_snoc {α : Type} [Inhabited α] {l : List α} {k : Nat} (z : α) (hk : k < l.length) : l.take (k + 1) = l.take k ++ [l.getD k z] := by
  rw [List.take_add_one, List.getD_eq_getElem?_getD, List.getElem?_eq_getElem hk]; simp
theorem binds_step (r : RowD) (bs : List Bd) {k : Nat} (hk : k < bs.length) : binds r (bs.take (k + 1)) = bstep (binds r (bs.take k)) (bs.getD k ([], 0)) := by
  unfold binds
  rw [take_snoc ([], 0) hk, List.foldl_append]; rfl
structure BOk (made L : Nat) (q : RowD × List Bd) : Prop where
  row : ∀ p ∈ q.1, nmOk p.1 = true ∧ p.2 ≤ made
  cs : ∀ b ∈ q.2, nmOk b.1 = true ∧ b.2 ≤ made
  rises : Rises q.1
  len : q.1.length ≤ L
theorem BOk.step {made L : Nat} {q : RowD × List Bd} (h : BOk made L q) {b : Bd} (hb : nmOk b.1 = true ∧ b.2 ≤ made) : BOk made (L + 1) (bstep q b) := by
  refine ⟨fun p hp => ?_, fun x hx => ?_, setRow_rises h.rises b, ?_⟩
  · unfold bstep setRow at hp
    simp only at hp
    split at hp
    · exact h.row p (List.mem_filter.1 hp).1
    · rcases put_mem hp with h1 | h1
      · rw [h1]; exact hb
      · exact h.row p h1
  · rcases List.mem_append.1 hx with h1 | h1
    · exact h.cs x h1
    · simp only [List.mem_cons, List.not_mem_nil, or_false] at h1
      rw [h1]
      refine ⟨hb.1, ?_⟩
      cases ha : at_ q.1 b.1 with
      | none => simp
      | some i => exact (h.row _ (at_some ha)).2
  · unfold bstep setRow
    simp only
    have := h.len
    split
    · rw [out_length h.rises]; split <;> omega
    · rw [put_length h.rises]; split <;> omega
theorem BOk.all {made L : Nat} {r : RowD} (h : BOk made L (r, [])) (bs : List Bd) (hb : ∀ b ∈ bs, nmOk b.1 = true ∧ b.2 ≤ made) : BOk made (L + bs.length) (binds r bs) := by
  unfold binds
  generalize ((r, []) : RowD × List Bd) = q at *
  induction bs generalizing q L with
  | nil => exact h
  | cons b bs ih =>
    have := ih (L := L + 1) (q := bstep q b) (fun x hx => hb x (List.mem_cons_of_mem _ hx)) (h.step (hb b (List.mem_cons_self ..)))
    rw [List.length_cons, show L + (bs.length + 1) = L + 1 + bs.length by omega]
    exact this
theorem binds_len (r : RowD) (bs : List Bd) : (binds r bs).2.length = bs.length := by
  unfold binds
  suffices ∀ q : RowD × List Bd, (bs.foldl bstep q).2.length = q.2.length + bs.length by rw [this]; simp
  induction bs with
  | nil => intro q; rfl
  | cons b bs ih => intro q; rw [List.foldl_cons, ih]; simp [bstep]; omega

/-- What comes in, to be bound. -/
def InB (w : World) (own : Nat → Nat) (a : Option Addr) (bs : List Bd) : Prop :=
  ∀ i, i < bs.length → ∃ b off, a = some ⟨b, off, none⟩ ∧ own b = 0 ∧ b < w.heap.size ∧ w.cell? ⟨b, off + i * 2, none⟩ = some (.string (T (bs.getD i ([], 0)).1)) ∧ w.cell? ⟨b, off + i * 2 + 1, none⟩ = some (.int .i64 ((bs.getD i ([], 0)).2 : Int))
theorem InB.keptF {w w' : World} {own : Nat → Nat} {a : Option Addr} {bs : List Bd} {G : Nat → Prop} (h : InB w own a bs) (hk : KeptF G w w') (ho : ∀ k, own k = 0 → k < w.heap.size → ¬ G k) : InB w' own a bs := fun i hi => by
  obtain ⟨b, off, e, h0, hlt, c1, c2⟩ := h i hi
  exact ⟨b, off, e, h0, Nat.lt_of_lt_of_le hlt hk.size, (World.cell?_of_block (hk.block b hlt (ho b h0 hlt))).trans c1, (World.cell?_of_block (hk.block b hlt (ho b h0 hlt))).trans c2⟩

section
variable {w : World} {own : Nat → Nat} {g room made : Nat} {row : RowD} {fl : Nat → Fl} {fz : Int} {off : Bool} {Mf Mn : Nat} {Df Dn : DU} {A : Option Addr} {n c : Nat} {us : List Und} {S : Nat → Bool} {gs : Nat → Nat}
theorem Core.retag {own' : Nat → Nat} (h : Core w own g room made row fl fz off Mf Mn Df Dn A n c us S gs) (ho : ∀ k, own k ≠ 0 → own' k = own k) (hf : ∀ k, own' k ≠ 0 → k < w.heap.size) : Core w own' g room made row fl fz off Mf Mn Df Dn A n c us S gs where
  blk := h.blk
  mf := h.mf
  vf := h.vf
  mn := h.mn
  vn := h.vn
  pend := h.pend
  each := fun u hu => ⟨(h.each u hu).1, fun k e => by have := (h.each u hu).2.1 k e; rw [ho k (by omega)]; exact this, (h.each u hu).2.2⟩
  file := fun i hi => ⟨(h.file i hi).1, (h.file i hi).2.more (fun k e => by have e1 : own k = i + 2 := e; show own' k = i + 2; rw [ho k (by omega)]; exact e1) (fun k e => hf k (by have e1 : own' k = i + 2 := e; omega))⟩
  tg := by rw [ho g (by rw [h.tg]; decide)]; exact h.tg
  tMf := by rw [ho Mf (by rw [h.tMf]; decide)]; exact h.tMf
  tMn := by rw [ho Mn (by rw [h.tMn]; decide)]; exact h.tMn
  tA := fun k e => ⟨by rw [ho k (by rw [(h.tA k e).1]; decide)]; exact (h.tA k e).1, (h.tA k e).2⟩
  ne := h.ne
  foot := hf
  fz64 := h.fz64
  szf := h.szf
  mmax := h.mmax
  pmax := h.pmax
  rmax := h.rmax
end
/-- The core but for what hangs on the world's pending rows: the end of 'bind'. -/
theorem bind_end {w wr w3 : World} {own : Nat → Nat} {g room made : Nat} {row row' : RowD} {fl : Nat → Fl} {fz : Int} {off : Bool} {Mf Mn : Nat} {Df Dn Dn' : DU} {A Ab A' : Option Addr} {n c m cb c' : Nat} {us : List Und} {S : Nat → Bool} {gs : Nat → Nat} {cs : List Bd}
    (h : Core w own g room made row fl fz off Mf Mn Df Dn A n c us S gs) (hr : Core wr own g room made row' fl fz off Mf Mn Df Dn' A n c us S gs) (hk : KeptF (One Mn) w wr)
    (hw : OwnE 62 2 wr w.heap.size Ab m cb (cellsB cs)) (hcs : ∀ b ∈ cs, nmOk b.1 = true ∧ b.2 ≤ made) (hn : n < 2000000) (hm2 : m ≤ 2)
    (hp : OwnE 73 1 w3 0 A' (n + 1) c' (us.map Und.val ++ [.slice Ab m cb])) (hg : (wr.alloc (.cells #[.slice Ab m cb] 73)).grownBy w3 (ownB A)) (hat : ownB A' = ownB A ∨ ownB A' = some (wr.alloc (.cells #[.slice Ab m cb] 73)).heap.size) :
    ∃ own' u, Core (w3.setCell ⟨g, 4, none⟩ (.slice A' (n + 1) c')) own' g room made row' fl fz off Mf Mn Df Dn' A' (n + 1) c' (us ++ [u]) S gs ∧ u.cs = cs ∧ KeptF (Mine own) w (w3.setCell ⟨g, 4, none⟩ (.slice A' (n + 1) c')) ∧ ∀ k, k < w.heap.size → own' k = own k := by
  have k1 : KeptF (fun k => ownB A = some k) wr w3 := ((KeptF.refl _ wr).alloc _).grown hg fun k e _ => e
  have hsz : wr.heap.size < w3.heap.size := by have := hg.size; simp at this; omega
  have kM : KeptF (Mine own) w w3 := (hk.mono fun k e => by rw [show k = Mn from e]; exact h.mine_n).trans k1 fun i _ e => .inl (h.tA i e).1
  have hbel : Below wr.heap.size wr wr := Below.refl _ _
  have hAlt : ∀ k, ownB A = some k → k < w.heap.size := fun k e => h.foot k (by rw [(h.tA k e).1]; decide)
  have hAb : ∀ k, ownB Ab = some k → w.heap.size ≤ k ∧ k < wr.heap.size := fun k e => OwnE.blk hw e
  have hA3 : ∀ k, ownB A' = some k → (own k = 1 ∧ k < w.heap.size ∧ ownB A = some k) ∨ (wr.heap.size ≤ k ∧ k < w3.heap.size) := fun k e => by
    rcases hat with h1 | h1
    · rw [h1] at e
      exact .inl ⟨(h.tA k e).1, hAlt k e, e⟩
    · have h2 := (OwnE.blk hp e).2
      rw [h1] at e
      injection e with e
      simp at e
      exact .inr ⟨by omega, h2⟩
  have hks := hk.size
  -- who owns what
  let own' : Nat → Nat := fun k => if ownB Ab = some k then 2 else if ownB A' = some k then 1 else own k
  have o1 : ∀ k, own k ≠ 0 → own' k = own k := fun k h0 => by
    have hlt := h.foot k h0
    show (if ownB Ab = some k then 2 else if ownB A' = some k then 1 else own k) = own k
    rw [if_neg (fun e => by have := (hAb k e).1; omega)]
    split
    · rename_i e
      rcases hA3 k e with h1 | h1
      · exact h1.1.symm
      · omega
    · rfl
  have o2 : ∀ k, ownB Ab = some k → own' k = 2 := fun k e => by
    show (if ownB Ab = some k then 2 else if ownB A' = some k then 1 else own k) = 2
    rw [if_pos e]
  have o3 : ∀ k, ownB A' = some k → own' k = 1 := fun k e => by
    show (if ownB Ab = some k then 2 else if ownB A' = some k then 1 else own k) = 1
    rw [if_neg (fun e2 => by have h1 := hAb k e2; rcases hA3 k e with h2 | h2 <;> omega), if_pos e]
  have o4 : ∀ k, own' k ≠ 0 → k < w3.heap.size := fun k h0 => by
    have e : own' k = (if ownB Ab = some k then 2 else if ownB A' = some k then 1 else own k) := rfl
    rw [e] at h0
    split at h0
    · rename_i e2; have := hAb k e2; omega
    · split at h0
      · rename_i e2; rcases hA3 k e2 with h2 | h2 <;> omega
      · have := h.foot k h0; omega
  have o5 : ∀ k, k < w.heap.size → own' k = own k := fun k hlt => by
    show (if ownB Ab = some k then 2 else if ownB A' = some k then 1 else own k) = own k
    rw [if_neg (fun e => by have := (hAb k e).1; omega)]
    split
    · rename_i e
      rcases hA3 k e with h1 | h1
      · exact h1.1.symm
      · omega
    · rfl
  -- the core behind the append: all but the pending rows' own block
  have hne : ∀ k, ownB A = some k → k ≠ g ∧ k ≠ Mf ∧ k ≠ Mn := fun k e => (h.tA k e).2
  have k2 : KeptF (fun k => ownB A = some k ∨ k = g) wr (w3.setCell ⟨g, 4, none⟩ (.slice A' (n + 1) c')) := (k1.mono fun k e => .inl e).setCell (p := ⟨g, 4, none⟩) (fun _ => .inr rfl) _
  have hM : ∀ k, k = Mf ∨ k = Mn → ¬ (ownB A = some k ∨ k = g) := fun k e h2 => by
    rcases h2 with h2 | h2
    · have := hne k h2; rcases e with e | e <;> omega
    · have := h.ne; rcases e with e | e <;> omega
  have hF : ∀ k, 2 ≤ own k → ¬ (ownB A = some k ∨ k = g) := fun k e h2 => by
    rcases h2 with h2 | h2
    · have := (h.tA k h2).1; omega
    · rw [h2, h.tg] at e; omega
  have kS : KeptF (One g) w3 (w3.setCell ⟨g, 4, none⟩ (.slice A' (n + 1) c')) := KeptF.set1 w3 g 4 _
  have hsW : (w3.setCell ⟨g, 4, none⟩ (.slice A' (n + 1) c')).heap.size = w3.heap.size := by simp [World.setCell]
  have hAg : ∀ k, ownB A' = some k → k ≠ g ∧ k ≠ Mf ∧ k ≠ Mn := fun k e => by
    rcases hA3 k e with ⟨_, _, h1⟩ | h1
    · exact hne k h1
    · have a1 := h.foot g (by rw [h.tg]; decide)
      have a2 := h.foot Mf (by rw [h.tMf]; decide)
      have a3 := h.foot Mn (by rw [h.tMn]; decide)
      omega
  have hgl := h.foot g (by rw [h.tg]; decide)
  have hrow : OwnE 62 2 (w3.setCell ⟨g, 4, none⟩ (.slice A' (n + 1) c')) 0 Ab m cb (cellsB cs) := by
    have h1 := OwnE.keptF hw k2 (fun k e h2 => by
      have := hAb k e
      rcases h2 with h2 | h2
      · have := hAlt k h2; omega
      · omega)
    refine ⟨Nat.zero_le _, h1.2.1, ?_⟩
    rcases h1.2.2 with h2 | ⟨q, cap, cur, h2, h3, h4⟩
    · exact .inl h2
    · exact .inr ⟨q, cap, cur, h2, Nat.zero_le _, h4⟩
  refine ⟨own', ⟨Ab, m, cb, cs⟩, ?_, rfl, kM.setCell (p := ⟨g, 4, none⟩) (fun _ => .inl h.tg) _, o5⟩
  refine Core.retag (own := fun k => if ownB Ab = some k then 2 else if ownB A' = some k then 1 else own k) ?_ (fun _ _ => rfl) (fun k h0 => by rw [hsW]; exact o4 k h0)
  exact {
    blk := (Kf.Blk.keptF hr.blk k1 (fun e => (hne g e).1 rfl)).set_ 4 _
    mf := map_keptF hr.mf k2 (hM _ (.inl rfl))
    vf := hr.vf
    mn := map_keptF hr.mn k2 (hM _ (.inr rfl))
    vn := hr.vn
    pend := by
      rw [List.map_append]
      exact OwnE.keptF hp kS (fun k e e2 => (hAg k e).1 e2)
    each := fun u hu => by
      rcases List.mem_append.1 hu with h1 | h1
      · refine ⟨OwnE.keptF (hr.each u h1).1 k2 (fun k e => hF k (by rw [(hr.each u h1).2.1 k e]; decide)), fun k e => ?_, (hr.each u h1).2.2⟩
        have h2 := (hr.each u h1).2.1 k e
        have := o1 k (by omega)
        show own' k = 2
        omega
      · simp only [List.mem_cons, List.not_mem_nil, or_false] at h1
        subst h1
        exact ⟨hrow, o2, hcs, hm2⟩
    file := fun i hi => ⟨(hr.file i hi).1, ((hr.file i hi).2.keptF k2 (fun k e => hF k (by rw [show own k = i + 2 from e]; omega))).more (fun k e => by
        have e1 : own k = i + 2 := e
        have := o1 k (by omega)
        show own' k = i + 2
        omega) (fun k e => by rw [hsW]; exact o4 k (by have e1 : own' k = i + 2 := e; omega))⟩
    tg := by have := o1 g (by rw [h.tg]; decide); rw [h.tg] at this; exact this
    tMf := by have := o1 Mf (by rw [h.tMf]; decide); rw [h.tMf] at this; exact this
    tMn := by have := o1 Mn (by rw [h.tMn]; decide); rw [h.tMn] at this; exact this
    tA := fun k e => ⟨o3 k e, hAg k e⟩
    ne := hr.ne
    foot := fun k h0 => by rw [hsW]; exact o4 k h0
    fz64 := hr.fz64
    szf := hr.szf
    mmax := hr.mmax
    pmax := by omega
    rmax := hr.rmax }
end Go.Proofs.Ytpgkimohekdmmaa.Dc
