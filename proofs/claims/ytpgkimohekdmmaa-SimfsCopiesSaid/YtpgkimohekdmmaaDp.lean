/-
  The program's directory: what is known of it in memory.
-/
import Derived.Test.YtpgkimohekdmmaaDm
import Derived.Test.YtpgkimohekdmmaaSfb
import Derived.Test.YtpgkimohekdmmaaTt
namespace Go.Proofs.Ytpgkimohekdmmaa.Dp
open Go.ChangeShapes Go.WideShapes Go.ChangeAt Go.RowKit
open Bytes8 Blk8 Own8 OwnA OwnM OwnE Fa Fo Ta Ua Kf Dm Sfb Go.Maps
set_option linter.unusedVariables false
set_option linter.unusedSimpArgs false
set_option maxRecDepth 100000

abbrev Bd := List Int × Nat
def cellsB (cs : List Bd) : List Value := cs.flatMap fun b => [.string (T b.1), .int .i64 (b.2 : Int)]
theorem cellsB_app (a b : List Bd) : cellsB (a ++ b) = cellsB a ++ cellsB b := by simp [cellsB]
theorem cellsB_len (a : List Bd) : (cellsB a).length = a.length * 2 := by
  induction a with
  | nil => rfl
  | cons x r ih => simp only [cellsB, List.flatMap_cons, List.length_append, List.length_cons, List.length_nil] at ih ⊢; omega
theorem cellsB_one (a : List Bd) : ∀ u ∈ cellsB a, u.oneCell' = true := fun u hu => by
  obtain ⟨b, _, h⟩ := List.mem_flatMap.1 hu
  simp only [List.mem_cons, List.not_mem_nil, or_false] at h
  rcases h with rfl | rfl <;> rfl
theorem cellsB_at (a : List Bd) (i : Nat) (hi : i < a.length) : (cellsB a)[i * 2]? = some (.string (T (a.getD i ([], 0)).1)) ∧ (cellsB a)[i * 2 + 1]? = some (.int .i64 ((a.getD i ([], 0)).2 : Int)) := by
  induction a generalizing i with
  | nil => simp at hi
  | cons x r ih =>
    cases i with
    | zero => exact ⟨rfl, rfl⟩
    | succ i =>
      have := ih i (by simpa using hi)
      have e1 : (i + 1) * 2 = i * 2 + 1 + 1 := by omega
      have e2 : (i + 1) * 2 + 1 = i * 2 + 1 + 1 + 1 := by omega
      rw [e2, e1]
      exact this
def setRow (r : RowD) (b : Bd) : RowD := if b.2 = 0 then out r b.1 else put r b.1 b.2
def undo (r : RowD) (cs : List Bd) : RowD := cs.foldl setRow r
theorem setRow_rises {r : RowD} (h : Rises r) (b : Bd) : Rises (setRow r b) := by
  unfold setRow; split
  · exact out_rises h _
  · exact put_rises h _ _
theorem undo_rises {r : RowD} (h : Rises r) (cs : List Bd) : Rises (undo r cs) := by
  unfold undo
  induction cs generalizing r with
  | nil => exact h
  | cons b cs ih => exact ih (setRow_rises h b)

/-- What one call did, to be undone. -/
structure Und where
  A : Option Addr
  n : Nat
  c : Nat
  cs : List Bd
instance : Inhabited Und := ⟨⟨none, 0, 0, []⟩⟩
def Und.val (u : Und) : Value := .slice u.A u.n u.c
def InU (w : World) (own : Nat → Nat) (made : Nat) (u : Und) : Prop :=
  OwnE 62 2 w 0 u.A u.n u.c (cellsB u.cs) ∧ (∀ k, ownB u.A = some k → own k = 2) ∧ (∀ b ∈ u.cs, nmOk b.1 = true ∧ b.2 ≤ made) ∧ u.n ≤ 2
theorem OwnE.keptF {E : TypeId} {size : Nat} {F : Nat → Prop} {w w' : World} {base n c : Nat} {A : Option Addr} {xs : List Value} (h : OwnE E size w base A n c xs) (hk : KeptF F w w') (hF : ∀ g, ownB A = some g → ¬ F g) : OwnE E size w' base A n c xs := by
  refine ⟨Nat.le_trans h.1 hk.size, h.2.1, ?_⟩
  rcases h.2.2 with h1 | ⟨g, cap, cur, h1, h2, h3, h4⟩
  · exact .inl h1
  · refine .inr ⟨g, cap, cur, h1, h2, ?_, h4⟩
    have hlt : g < w.heap.size := by
      rcases Nat.lt_or_ge g w.heap.size with h | h
      · exact h
      · rw [Array.getElem?_eq_none h] at h3; cases h3
    injection h1 with e1 e2 e3
    subst e1
    rw [hk.block g hlt (hF g rfl)]; exact h3
theorem OwnE.blk {E : TypeId} {size : Nat} {w : World} {base n c g : Nat} {A : Option Addr} {xs : List Value} (h : OwnE E size w base A n c xs) (hg : ownB A = some g) : base ≤ g ∧ g < w.heap.size := h.lt g (by rw [ownB_eq]; exact hg)
theorem InU.keptF {w w' : World} {own : Nat → Nat} {made : Nat} {u : Und} {G : Nat → Prop} (h : InU w own made u) (hk : KeptF G w w') (ho : ∀ k, own k ≠ 0 → ¬ G k) : InU w' own made u :=
  ⟨OwnE.keptF h.1 hk (fun k e => ho k (by rw [h.2.1 k e]; decide)), h.2.1, h.2.2⟩

/-- Blocks that the directory writes. -/
def Mine (own : Nat → Nat) (k : Nat) : Prop := own k = 1 ∨ 3 ≤ own k

structure Core (w : World) (own : Nat → Nat) (g room made : Nat) (row : RowD) (fl : Nat → Fl) (fz : Int) (off : Bool) (Mf Mn : Nat) (Df Dn : DU) (A : Option Addr) (n c : Nat) (us : List Und) (S : Nat → Bool) (gs : Nat → Nat) : Prop where
  blk : Blk w g [.int .i64 (room : Int), .int .i64 (made : Int), .map (some Mf), .map (some Mn), .slice A n c, .int .i64 fz, .bool off] 56
  mf : w.ownsMap Try.prog 3 rP Mf (Maps.size Df) Df
  vf : FilesV Df S gs
  mn : w.ownsMap Try.prog 9 (plainElem Try.prog 3) Mn (Maps.size Dn) Dn
  vn : NamesV Dn row
  pend : OwnE 73 1 w 0 A n c (us.map Und.val)
  each : ∀ u ∈ us, InU w own made u
  file : ∀ i, S i = true → (1 ≤ i ∧ i ≤ made) ∧ FileP w (fun k => own k = i + 2) (gs i) (fl i).now (fl i).safe
  tg : own g = 1
  tMf : own Mf = 1
  tMn : own Mn = 1
  tA : ∀ k, ownB A = some k → own k = 1 ∧ k ≠ g ∧ k ≠ Mf ∧ k ≠ Mn
  ne : Mf ≠ Mn ∧ Mf ≠ g ∧ Mn ≠ g
  foot : ∀ k, own k ≠ 0 → k < w.heap.size
  fz64 : -9223372036854775808 ≤ fz ∧ fz ≤ 9223372036854775807
  szf : Maps.size Df ≤ made + 24
  mmax : made ≤ 2000000
  pmax : n ≤ 2000000
  rmax : room ≤ 1000000000

section
variable {w : World} {own : Nat → Nat} {g room made : Nat} {row : RowD} {fl : Nat → Fl} {fz : Int} {off : Bool} {Mf Mn : Nat} {Df Dn : DU} {A : Option Addr} {n c : Nat} {us : List Und} {S : Nat → Bool} {gs : Nat → Nat}
theorem Core.keptF {w' : World} {G : Nat → Prop} (h : Core w own g room made row fl fz off Mf Mn Df Dn A n c us S gs) (hk : KeptF G w w') (ho : ∀ k, own k ≠ 0 → ¬ G k) : Core w' own g room made row fl fz off Mf Mn Df Dn A n c us S gs where
  blk := Kf.Blk.keptF h.blk hk (ho _ (by rw [h.tg]; decide))
  mf := map_keptF h.mf hk (ho _ (by rw [h.tMf]; decide))
  vf := h.vf
  mn := map_keptF h.mn hk (ho _ (by rw [h.tMn]; decide))
  vn := h.vn
  pend := OwnE.keptF h.pend hk (fun k e => ho k (by rw [(h.tA k e).1]; decide))
  each := fun u hu => (h.each u hu).keptF hk ho
  file := fun i hi => ⟨(h.file i hi).1, (h.file i hi).2.keptF hk (fun k e => ho k (by rw [show own k = i + 2 from e]; omega))⟩
  tg := h.tg
  tMf := h.tMf
  tMn := h.tMn
  tA := h.tA
  ne := h.ne
  foot := fun k hk' => Nat.lt_of_lt_of_le (h.foot k hk') hk.size
  fz64 := h.fz64
  szf := h.szf
  mmax := h.mmax
  pmax := h.pmax
  rmax := h.rmax
theorem Core.below {w' : World} (h : Core w own g room made row fl fz off Mf Mn Df Dn A n c us S gs) (hb : Below w.heap.size w w') : Core w' own g room made row fl fz off Mf Mn Df Dn A n c us S gs :=
  h.keptF (G := None') (KeptF.of_below hb) fun _ _ h => h
theorem Core.alloc (h : Core w own g room made row fl fz off Mf Mn Df Dn A n c us S gs) (o : Obj) : Core (w.alloc o) own g room made row fl fz off Mf Mn Df Dn A n c us S gs := h.below ((Below.refl _ _).alloc (Nat.le_refl _) o)
theorem Core.drew (h : Core w own g room made row fl fz off Mf Mn Df Dn A n c us S gs) : Core w.drew own g room made row fl fz off Mf Mn Df Dn A n c us S gs := h.below ⟨rfl, rfl, rfl, Nat.le_refl _, fun _ _ => rfl⟩
theorem Core.drewN (h : Core w own g room made row fl fz off Mf Mn Df Dn A n c us S gs) (m : Nat) : Core (w.drewN m) own g room made row fl fz off Mf Mn Df Dn A n c us S gs := h.below (below_drewN (Below.refl _ _) m)

/-- The names' map turned. -/
theorem Core.names {w' : World} {D' : DU} {row' : RowD} {k : Nat} (h : Core w own g room made row fl fz off Mf Mn Df Dn A n c us S gs) (ht : w.mapTurned w' Mn) (hm : w'.ownsMap Try.prog 9 (plainElem Try.prog 3) Mn k D') (hv : NamesV D' row') :
    Core w' own g room made row' fl fz off Mf Mn Df D' A n c us S gs where
  blk := Kf.Blk.keptF h.blk (turned_keptF ht) (fun e => h.ne.2.2 (show g = Mn from e).symm)
  mf := map_keptF h.mf (turned_keptF ht) h.ne.1
  vf := h.vf
  mn := map_small hm
  vn := hv
  pend := OwnE.keptF h.pend (turned_keptF ht) (fun k e => (h.tA k e).2.2.2)
  each := fun u hu => ⟨OwnE.keptF (h.each u hu).1 (turned_keptF ht) (fun k e e2 => by have := (h.each u hu).2.1 k e; rw [show k = Mn from e2, h.tMn] at this; omega), (h.each u hu).2⟩
  file := fun i hi => ⟨(h.file i hi).1, (h.file i hi).2.keptF (turned_keptF ht) (fun k e e2 => by have e1 : own k = i + 2 := e; rw [show k = Mn from e2, h.tMn] at e1; omega)⟩
  tg := h.tg
  tMf := h.tMf
  tMn := h.tMn
  tA := h.tA
  ne := h.ne
  foot := fun k hk' => by rw [turned_size ht]; exact h.foot k hk'
  fz64 := h.fz64
  szf := h.szf
  mmax := h.mmax
  pmax := h.pmax
  rmax := h.rmax
theorem Core.mine_n (h : Core w own g room made row fl fz off Mf Mn Df Dn A n c us S gs) : Mine own Mn := .inl h.tMn
theorem Core.set_ (h : Core w own g room made row fl fz off Mf Mn Df Dn A n c us S gs) (i : Nat) (v : Value) : KeptF (Mine own) w (w.setCell ⟨g, i, none⟩ v) :=
  (KeptF.refl (Mine own) w).setCell (p := ⟨g, i, none⟩) (fun _ => .inl h.tg) v
/-- A cell of the struct's own block turned: all but the block. -/
theorem Core.offBlk (h : Core w own g room made row fl fz off Mf Mn Df Dn A n c us S gs) (i : Nat) (v : Value) {room' made' : Nat} {fz' : Int} {off' : Bool} {A' : Option Addr} {n' c' : Nat} {us' : List Und}
    (hb : [.int .i64 (room : Int), .int .i64 (made : Int), .map (some Mf), .map (some Mn), .slice A n c, .int .i64 fz, .bool off].set i v = [.int .i64 (room' : Int), .int .i64 (made' : Int), .map (some Mf), .map (some Mn), .slice A' n' c', .int .i64 fz', .bool off'])
    (hp : OwnE 73 1 w 0 A' n' c' (us'.map Und.val)) (hu : ∀ u ∈ us', InU w own made' u) (hA : ∀ k, ownB A' = some k → own k = 1 ∧ k ≠ g ∧ k ≠ Mf ∧ k ≠ Mn) (hfz : -9223372036854775808 ≤ fz' ∧ fz' ≤ 9223372036854775807) (hm : made ≤ made' ∧ made' ≤ 2000000) (hpm : n' ≤ 2000000) (hr : room' = room) :
    Core (w.setCell ⟨g, i, none⟩ v) own g room' made' row fl fz' off' Mf Mn Df Dn A' n' c' us' S gs where
  blk := hb ▸ h.blk.set_ i v
  mf := map_keptF h.mf (KeptF.set1 w g i v) h.ne.2.1
  vf := h.vf
  mn := map_keptF h.mn (KeptF.set1 w g i v) h.ne.2.2
  vn := h.vn
  pend := OwnE.keptF hp (KeptF.set1 w g i v) (fun k e => (hA k e).2.1)
  each := fun u hu' => ⟨OwnE.keptF (hu u hu').1 (KeptF.set1 w g i v) (fun k e e2 => by have := (hu u hu').2.1 k e; rw [show k = g from e2, h.tg] at this; omega), (hu u hu').2⟩
  file := fun i hi => ⟨⟨(h.file i hi).1.1, Nat.le_trans (h.file i hi).1.2 hm.1⟩, (h.file i hi).2.keptF (KeptF.set1 w g _ v) (fun k e e2 => by have e1 : own k = i + 2 := e; rw [show k = g from e2, h.tg] at e1; omega)⟩
  tg := h.tg
  tMf := h.tMf
  tMn := h.tMn
  tA := hA
  ne := h.ne
  foot := fun k hk' => by have := h.foot k hk'; simpa [World.setCell] using this
  fz64 := hfz
  szf := Nat.le_trans h.szf (by omega)
  mmax := hm.2
  pmax := hpm
  rmax := by rw [hr]; exact h.rmax
end

/-- The directory at the block g is d. -/
def DirP (w : World) (own : Nat → Nat) (g : Nat) (d : Dir) : Prop :=
  ∃ fz Mf Mn Df Dn A n c us S gs, Core w own g d.room d.made d.row d.fl fz d.off Mf Mn Df Dn A n c us S gs ∧ Ua.Good d ∧ d.fuse = max fz (-1) ∧ us.length = d.past.length ∧
    (∀ j, j < us.length → undo ((d.past ++ [d.row]).getD (j + 1) []) (us.getD j default).cs = d.past.getD j []) ∧ (∀ r ∈ d.past ++ [d.row], ∀ p ∈ r, S p.2 = true)
theorem DirP.keptF {w w' : World} {own : Nat → Nat} {g : Nat} {d : Dir} {G : Nat → Prop} (h : DirP w own g d) (hk : KeptF G w w') (ho : ∀ k, own k ≠ 0 → ¬ G k) : DirP w' own g d := by
  obtain ⟨fz, Mf, Mn, Df, Dn, A, n, c, us, S, gs, h1, h2⟩ := h
  exact ⟨fz, Mf, Mn, Df, Dn, A, n, c, us, S, gs, h1.keptF hk ho, h2⟩
theorem DirP.below {w w' : World} {own : Nat → Nat} {g : Nat} {d : Dir} (h : DirP w own g d) (hb : Below w.heap.size w w') : DirP w' own g d := h.keptF (G := None') (KeptF.of_below hb) fun _ _ h => h
theorem DirP.good {w : World} {own : Nat → Nat} {g : Nat} {d : Dir} (h : DirP w own g d) : Ua.Good d := by
  obtain ⟨fz, Mf, Mn, Df, Dn, A, n, c, us, S, gs, _, h2, _⟩ := h
  exact h2
theorem DirP.foot {w : World} {own : Nat → Nat} {g : Nat} {d : Dir} (h : DirP w own g d) : ∀ k, own k ≠ 0 → k < w.heap.size := by
  obtain ⟨fz, Mf, Mn, Df, Dn, A, n, c, us, S, gs, h1, _⟩ := h
  exact h1.foot

/-- What a call leaves: the directory is d' now; it wrote its own blocks alone; what was there belongs to whom it did. -/
def Did (w : World) (own : Nat → Nat) (g : Nat) (d' : Dir) (w' : World) : Prop :=
  ∃ own', DirP w' own' g d' ∧ KeptF (Mine own) w w' ∧ ∀ k, k < w.heap.size → own' k = own k
theorem Did.refl {w w' : World} {own : Nat → Nat} {g : Nat} {d : Dir} (h : DirP w own g d) (hb : Below w.heap.size w w') : Did w own g d w' := ⟨own, h.below hb, KeptF.of_below hb, fun _ _ => rfl⟩
theorem keptF_mine {w w1 w2 : World} {own own1 : Nat → Nat} (h1 : KeptF (Mine own) w w1) (h2 : KeptF (Mine own1) w1 w2) (ho : ∀ k, k < w.heap.size → own1 k = own k) : KeptF (Mine own) w w2 :=
  h1.trans h2 fun i hi hm => by unfold Mine at hm ⊢; rwa [ho i hi] at hm
theorem Did.trans {w w1 w2 : World} {own own1 : Nat → Nat} {g : Nat} {d2 : Dir} (h1 : KeptF (Mine own) w w1) (ho : ∀ k, k < w.heap.size → own1 k = own k) (h2 : Did w1 own1 g d2 w2) : Did w own g d2 w2 := by
  obtain ⟨own2, h3, h4, h5⟩ := h2
  exact ⟨own2, h3, keptF_mine h1 h4 ho, fun k hk => (h5 k (Nat.lt_of_lt_of_le hk h1.size)).trans (ho k hk)⟩
end Go.Proofs.Ytpgkimohekdmmaa.Dp
