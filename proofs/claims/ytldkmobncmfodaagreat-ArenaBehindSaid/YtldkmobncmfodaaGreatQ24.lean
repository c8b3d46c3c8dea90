/-
  Texts beneath the proof, one behind the other.
-/
import Derived.Test.YtldkmobncmfodaaGreatQ23
import Derived.Test.YtldkmobncmfodaaGreatQ16
import Derived.Test.YtldkmobncmfodaaGreatQ21

/-
  The document's writer: all of it in memory; plain: what its calls make of it.
-/
namespace Go.Proofs.YtldkmobncmfodaaGreat.Na
open Go.ChangeShapes Go.WideShapes Go.ChangeAt Go.RowKit
open Bytes8 Blk8 Own8 OwnM OwnA OwnE LeA LeNum LeB LeP RefA RefB Ob Oc Od Oj Ga Ma Kf Mb Mc Md Me Mf Mg Fa Fb Fc Sg Dc
set_option linter.unusedVariables false
set_option linter.unusedSimpArgs false
set_option maxRecDepth 100000

/-! ## in memory -/
/-- Where a writer's parts lie. -/
structure Pl where
  bb : Nat
  cb : Nat
  D : Option Addr
  nd : Nat
  cd : Nat
  F : Option Addr
  nf : Nat
  cf : Nat
  M : Value
  dl : List (Kn × Value)
  fl : List (Kn × Value)
def Pl.S (p : Pl) : Sl := ⟨.bool false, .slice p.D p.nd p.cd, .slice p.F p.nf p.cf, p.M⟩
/-- The blocks that its calls write. -/
def Pl.foot (p : Pl) (g : Nat) (k : Nat) : Prop := k = g ∨ k = p.bb ∨ ownB p.D = some k ∨ ownB p.F = some k
/-- .. and what was there ahead of the writer. -/
def Pl.away (p : Pl) (B g : Nat) (k : Nat) : Prop := p.foot g k ∨ k < B
/-- A row of places that can be read, off the blocks that are written. -/
def Arr (w : World) (Ft : Nat → Prop) (v : Value) (l : List Nat) : Prop :=
  ∃ A n c, v = .slice A n c ∧ l.length = n ∧ ∀ i (h : i < l.length), ∃ b, A = some ⟨b, 0, none⟩ ∧ b < w.heap.size ∧ ¬ Ft b ∧ w.cell? ⟨b, i, none⟩ = some (.int .u64 (l[i] : Int))
theorem Arr.nil (w : World) (Ft : Nat → Prop) : Arr w Ft (.slice none 0 0) [] := ⟨none, 0, 0, rfl, rfl, fun i h => absurd h (by simp)⟩
theorem Arr.kept {w w' : World} {Ft Ft' G : Nat → Prop} {v : Value} {l : List Nat} (h : Arr w Ft v l) (hk : KeptF G w w') (hG : ∀ b, b < w.heap.size → ¬ Ft b → ¬ G b) (hF : ∀ b, b < w.heap.size → ¬ Ft b → ¬ Ft' b) : Arr w' Ft' v l := by
  obtain ⟨A, n, c, rfl, hl, h⟩ := h
  refine ⟨A, n, c, rfl, hl, fun i hi => ?_⟩
  obtain ⟨b, e, hb, hf, hc⟩ := h i hi
  exact ⟨b, e, Nat.lt_of_lt_of_le hb hk.size, hF b hb hf, (World.cell?_of_block (a := ⟨b, i, none⟩) (hk.block b hb (hG b hb hf))).trans hc⟩
/-- The writer behind a pointer, with all that hangs on it. -/
structure At (w : World) (B g : Nat) (p : Pl) (m : Mk) : Prop where
  st : MkB w B g p.bb p.cb p.S m
  dr : OwnK w B p.D p.nd p.cd p.dl
  fr : OwnK w B p.F p.nf p.cf p.fl
  dm : p.dl.map Prod.fst = m.datas
  fm : p.fl.map Prod.fst = m.fields
  da : ∀ q ∈ p.dl, Arr w (p.away B g) q.2 q.1.arrays
  ma : Arr w (p.away B g) p.M m.main
  dg : ∀ k, ownB p.D = some k → k ≠ g ∧ k ≠ p.bb
  fg : ∀ k, ownB p.F = some k → k ≠ g ∧ k ≠ p.bb
  df : ∀ k, ownB p.D = some k → ownB p.F ≠ some k
  gB : B ≤ g
  fo : ∀ q ∈ p.fl, q.2 = .slice none 0 0
theorem At.lt {w : World} {B g : Nat} {p : Pl} {m : Mk} (h : At w B g p m) : ∀ k, p.foot g k → B ≤ k ∧ k < w.heap.size := by
  rintro k (rfl | rfl | h1 | h1)
  · exact ⟨h.gB, h.st.st.lt⟩
  · exact own_lt h.st.own
  · exact OwnE.ltB h.dr k h1
  · exact OwnE.ltB h.fr k h1
/-- A call that writes none of its blocks. -/
theorem At.off {w w' : World} {B g : Nat} {p : Pl} {m : Mk} {G : Nat → Prop} (h : At w B g p m) (hk : KeptF G w w') (hG : ∀ k, k < w.heap.size → ¬ G k) : At w' B g p m :=
  have hs := h.lt
  have off : ∀ k, p.foot g k → ¬ G k := fun k hf => hG k (hs k hf).2
  { st := ⟨Kf.Blk.keptF h.st.st hk (off _ (.inl rfl)), Kf.Own.keptF h.st.own hk (fun k hk' => off k (.inr (.inl (by injection hk' with e; exact e.symm)))), h.st.ne⟩
    dr := OwnE.keptF h.dr hk (fun k e => off k (.inr (.inr (.inl e))))
    fr := OwnE.keptF h.fr hk (fun k e => off k (.inr (.inr (.inr e))))
    dm := h.dm, fm := h.fm
    da := fun q hq => (h.da q hq).kept hk (fun b hb _ => hG b hb) (fun _ _ h => h)
    ma := h.ma.kept hk (fun b hb _ => hG b hb) (fun _ _ h => h)
    dg := h.dg, fg := h.fg, df := h.df, gB := h.gB, fo := h.fo }
theorem At.below {w w' : World} {B g : Nat} {p : Pl} {m : Mk} (h : At w B g p m) (hb : Below w.heap.size w w') : At w' B g p m := h.off (KeptF.of_below (F := None') hb) (fun _ _ h => h)
/-- What a call leaves that turned the writer. -/
def Step (B g : Nat) (p : Pl) (m : Mk) (w w' : World) : Prop := ∃ p', At w' B g p' m ∧ (∀ k, p'.foot g k → p.foot g k ∨ w.heap.size ≤ k) ∧ KeptF (p.foot g) w w'
theorem At.step {w : World} {B g : Nat} {p : Pl} {m : Mk} (h : At w B g p m) : Step B g p m w w := ⟨p, h, fun _ h => .inl h, KeptF.refl _ _⟩
/-- Parts of it are another ones, the rest as it was. -/
theorem At.turn {w w' : World} {B g : Nat} {p p' : Pl} {m m' : Mk} (h : At w B g p m) (hk : KeptF (p.foot g) w w') (hf : ∀ k, p'.foot g k → p.foot g k ∨ w.heap.size ≤ k)
    (st : MkB w' B g p'.bb p'.cb p'.S m') (dr : OwnK w' B p'.D p'.nd p'.cd p'.dl) (fr : OwnK w' B p'.F p'.nf p'.cf p'.fl) (dm : p'.dl.map Prod.fst = m'.datas) (fm : p'.fl.map Prod.fst = m'.fields)
    (da : ∀ q ∈ p'.dl, q ∈ p.dl ∨ Arr w' (p'.away B g) q.2 q.1.arrays) (ma : (p'.M = p.M ∧ m'.main = m.main) ∨ Arr w' (p'.away B g) p'.M m'.main)
    (dg : ∀ k, ownB p'.D = some k → k ≠ g ∧ k ≠ p'.bb) (fg : ∀ k, ownB p'.F = some k → k ≠ g ∧ k ≠ p'.bb) (df : ∀ k, ownB p'.D = some k → ownB p'.F ≠ some k) (fo : ∀ q ∈ p'.fl, q ∈ p.fl ∨ q.2 = .slice none 0 0) : At w' B g p' m' :=
  have hn : ∀ b, b < w.heap.size → ¬ p.away B g b → ¬ p'.away B g b := fun b hb hnf h1 => h1.elim (fun h1 => (hf b h1).elim (fun h => hnf (.inl h)) (fun h2 => absurd hb (by omega))) (fun h => hnf (.inr h))
  { st := st, dr := dr, fr := fr, dm := dm, fm := fm, dg := dg, fg := fg, df := df, gB := h.gB
    fo := fun q hq => (fo q hq).elim (h.fo q) id
    da := fun q hq => (da q hq).elim (fun h1 => (h.da q h1).kept hk (fun _ _ h h2 => h (.inl h2)) hn) id
    ma := ma.elim (fun h1 => by rw [h1.1, h1.2]; exact h.ma.kept hk (fun _ _ h h2 => h (.inl h2)) hn) id }

/-! ## plain -/
def Mk.tf (m : Mk) : Nat := 304 + 16 * m.C.ds
def Mk.dslot (m : Mk) (s : List Int) : Nat := (Mk.sum m s % (m.C.ds : Int)).toNat
def Mk.dobj (m : Mk) (s : List Int) : List Int := objB 1 (nums [Mk.sum m s, 0, 0, 0, 0, 0] ++ s)
def findK (l : List Kn) (s : List Int) : Option Kn := l.find? fun k => k.text == s
/-- A payload gets its object, which hangs in no name's chain yet. -/
def Mk.put1 (m : Mk) (s : List Int) : Mk :=
  { m.object (Mk.dobj m s) with
    b := hung (m.b ++ Mk.dobj m s) m.datas 288 m.b.length (Mk.dslot m s)
    h := setN (setN (m.object (Mk.dobj m s)).h 19 (max (m.h.N 19) (inSlot m.datas (Mk.dslot m s) : Nat))) 15 (m.h.N 15 + 1)
    datas := m.datas ++ [⟨s, m.b.length, Mk.dslot m s, 0, []⟩] }
/-- The place of a name's object, and what there is then. -/
def Mk.fieldOf (m : Mk) (s : List Int) : Nat × Mk := match findK m.fields s with
  | some k => (k.at_, m)
  | none => (m.b.length, Mk.named m m.fields (Mk.tf m) s)
def Mk.put2 (m : Mk) (at_ k : Nat) : Mk := { m with b := put8 (put8 m.b (at_ + 32) (u8 m.b (k + 32))) (k + 32) at_ }
/-- A new payload of a name. -/
def Mk.dataNew (m : Mk) (nm s : List Int) : Mk := Mk.put2 (Mk.fieldOf (Mk.put1 m s) nm).2 m.b.length (Mk.fieldOf (Mk.put1 m s) nm).1
def idxK (l : List Kn) (s : List Int) : Option Nat := l.findIdx? fun k => k.text == s
/-- Which of the datas a payload is; what there is then. -/
def Mk.dataOf (m : Mk) (nm s : List Int) : Nat × Mk := match idxK m.datas s with
  | some i => (i, m)
  | none => (m.datas.length, Mk.dataNew m nm s)
/-- A chain of arrays of n items: each of it within so many bytes. -/
structure Chain (L : Nat) (arr : List Nat) (n : Nat) : Prop where
  le : n ≤ rooms arr.length
  ge : 0 < arr.length → rooms (arr.length - 1) ≤ n
  fits : ∀ i (h : i < arr.length), arr[i] + 24 + 8 * roomN i ≤ L
theorem Chain.mono {L L' : Nat} {arr : List Nat} {n : Nat} (h : Chain L arr n) (hL : L ≤ L') : Chain L' arr n := ⟨h.le, h.ge, fun i hi => Nat.le_trans (h.fits i hi) hL⟩
theorem Chain.nil (L : Nat) : Chain L [] 0 := ⟨Nat.zero_le _, fun h => absurd h (by simp), fun i h => absurd h (by simp)⟩
/-- What is so of a writer at any time. -/
structure Inv (m : Mk) : Prop where
  F : IdOk m.C.F
  ds : 0 < m.C.ds ∧ m.C.ds ≤ 64
  fs : 0 < m.C.fs ∧ m.C.fs ≤ 64
  n2 : m.h.N 2 = ((288 : Nat) : Int)
  n4 : m.h.N 4 = (Mk.tf m : Int)
  len : 304 + 16 * (m.C.ds + m.C.fs) ≤ m.b.length
  l8 : m.b.length % 8 = 0
  dat : ∀ k ∈ m.datas, k.at_ + 64 ≤ m.b.length ∧ AllB k.text ∧ k.text.length ≤ 400 ∧ Chain m.b.length k.arrays (k.count - 1) ∧ k.count ≤ m.b.length
  fld : ∀ k ∈ m.fields, k.at_ + 40 ≤ m.b.length ∧ AllB k.text
  mn : ∃ n : Nat, m.h.N 8 = (n : Int) ∧ Chain m.b.length m.main n ∧ n ≤ m.b.length
  n7 : 0 ≤ m.h.N 7 ∧ m.h.N 7 ≤ m.b.length
  n15 : 0 ≤ m.h.N 15 ∧ m.h.N 15 ≤ m.b.length
  n16 : 0 ≤ m.h.N 16 ∧ m.h.N 16 ≤ m.b.length
  n18 : 0 ≤ m.h.N 18 ∧ m.h.N 18 ≤ m.b.length
  n19 : 0 ≤ m.h.N 19 ∧ m.h.N 19 ≤ m.b.length
  dep : m.depth ≤ m.b.length
  dn : m.datas.length ≤ m.b.length
  fn : m.fields.length ≤ m.b.length
end Go.Proofs.YtldkmobncmfodaaGreat.Na

/-
  The document's writer, plain: what its calls keep.
-/
namespace Go.Proofs.YtldkmobncmfodaaGreat.Nb
open Bytes8 LeNum Ob Oc Ga Ma Mb Mc Mf Mg Yd Yc Sg Na
set_option linter.unusedVariables false
set_option linter.unusedSimpArgs false

theorem hung_len (b : List Int) (l : List Kn) (t a slot : Nat) (ht : t + 16 * slot + 16 ≤ b.length) (ha : ∀ k ∈ l, k.at_ + 32 ≤ b.length) : (hung b l t a slot).length = b.length := by
  unfold hung
  by_cases h : inSlot l slot = 0
  · rw [if_pos h, put8_len _ _ _ (by rw [put8_len _ _ _ (by omega)]; omega), put8_len _ _ _ (by omega)]
  · rw [if_neg h]
    obtain ⟨q, hq, e⟩ := Me.lastIn_mem h
    have := ha q hq
    rw [e, put8_len _ _ _ (by rw [put8_len _ _ _ (by omega)]; omega), put8_len _ _ _ (by omega)]
theorem object_len (m : Mk) (l : List Int) : (m.object l).b.length = m.b.length + l.length := by simp [Mk.object]
theorem setN_same (h : HD) (i : Nat) (v : Int) : (setN h i v).N i = v := by simp [setN]
theorem setN_ne (h : HD) (i j : Nat) (v : Int) (e : j ≠ i) : (setN h i v).N j = h.N j := by simp [setN, e]
theorem dslot_lt {m : Mk} (h : 0 < m.C.ds) (s : List Int) : Mk.dslot m s < m.C.ds := by
  unfold Mk.dslot
  have h1 := Int.emod_nonneg (Mk.sum m s) (show (m.C.ds : Int) ≠ 0 by omega)
  have h2 := Int.emod_lt_of_pos (Mk.sum m s) (show (0 : Int) < (m.C.ds : Int) by omega)
  omega
theorem fslot_lt {m : Mk} (h : 0 < m.C.fs) (s : List Int) : Mk.fslot m s < m.C.fs := by
  unfold Mk.fslot
  have h1 := Int.emod_nonneg (Mk.sum m s) (show (m.C.fs : Int) ≠ 0 by omega)
  have h2 := Int.emod_lt_of_pos (Mk.sum m s) (show (0 : Int) < (m.C.fs : Int) by omega)
  omega
theorem dobj_len (m : Mk) (s : List Int) : (Mk.dobj m s).length = 64 + s.length + padN s.length ∧ (64 + s.length + padN s.length) % 8 = 0 ∧ padN s.length ≤ 7 := by
  have := padN_le s.length
  have e : padN (48 + s.length) = padN s.length := by unfold padN; omega
  refine ⟨?_, by omega, this.1⟩
  unfold Mk.dobj
  rw [objB_len, List.length_append, nums_len]
  simp only [List.length_cons, List.length_nil]
  rw [e]
  omega
theorem fobj_len (m : Mk) (s : List Int) : (Mk.fobj m s).length = 40 + s.length + padN s.length ∧ (40 + s.length + padN s.length) % 8 = 0 ∧ padN s.length ≤ 7 := by
  have := padN_le s.length
  have e : padN (24 + s.length) = padN s.length := by unfold padN; omega
  refine ⟨?_, by omega, this.1⟩
  unfold Mk.fobj
  rw [objB_len, List.length_append, nums_len]
  simp only [List.length_cons, List.length_nil]
  rw [e]
  omega
/-- Of a head what its numbers ask. -/
theorem put1_len {m : Mk} (h : Inv m) (s : List Int) : (Mk.put1 m s).b.length = m.b.length + (Mk.dobj m s).length := by
  have hs := dslot_lt h.ds.1 s
  have hl := h.len
  show (hung (m.b ++ Mk.dobj m s) m.datas 288 m.b.length (Mk.dslot m s)).length = _
  rw [hung_len, List.length_append]
  · rw [List.length_append]; omega
  · intro k hk
    have := (h.dat k hk).1
    rw [List.length_append]; omega
theorem named_len {m : Mk} (h : Inv m) (s : List Int) : (Mk.named m m.fields (Mk.tf m) s).b.length = m.b.length + (Mk.fobj m s).length := by
  have hs := fslot_lt h.fs.1 s
  have hl := h.len
  show (hung (m.b ++ Mk.fobj m s) m.fields (Mk.tf m) m.b.length (Mk.fslot m s)).length = _
  rw [hung_len, List.length_append]
  · rw [List.length_append]; unfold Mk.tf; omega
  · intro k hk
    have := (h.fld k hk).1
    rw [List.length_append]; omega
theorem inSlot_len (l : List Kn) (s : Nat) : inSlot l s ≤ l.length := Me.inSlot_le l s
theorem inv_put1 {m : Mk} (h : Inv m) (s : List Int) (hs : AllB s) (hl : s.length ≤ 400) : Inv (Mk.put1 m s) := by
  have hL := put1_len h s
  obtain ⟨d1, d2, d3⟩ := dobj_len m s
  rw [d1] at hL
  have := h.l8
  refine { F := h.F, ds := h.ds, fs := h.fs, n2 := ?_, n4 := ?_, len := by rw [hL]; exact Nat.le_trans h.len (by omega), l8 := by omega, dat := ?_, fld := ?_, mn := ?_, n7 := ?_, n15 := ?_, n16 := ?_, n18 := ?_, n19 := ?_, dep := Nat.le_trans h.dep (by omega), dn := ?_, fn := Nat.le_trans h.fn (by omega) }
  · rw [← h.n2]; rfl
  · show _ = ((Mk.tf m : Nat) : Int)
    rw [← h.n4]; rfl
  · intro k hk
    rcases List.mem_append.1 (show k ∈ m.datas ++ _ from hk) with hk | hk
    · obtain ⟨a, b, c, d, e⟩ := h.dat k hk
      exact ⟨by omega, b, c, d.mono (by omega), by omega⟩
    · rw [List.mem_singleton.1 hk]
      exact ⟨by show m.b.length + 64 ≤ _; omega, hs, hl, Chain.nil _, Nat.zero_le _⟩
  · intro k hk
    obtain ⟨a, b⟩ := h.fld k hk
    exact ⟨by omega, b⟩
  · obtain ⟨n, h1, h2, h3⟩ := h.mn
    exact ⟨n, by rw [← h1]; rfl, h2.mono (by omega), by omega⟩
  · have := h.n7
    show 0 ≤ m.h.N 7 + 1 ∧ m.h.N 7 + 1 ≤ _
    omega
  · have := h.n15
    show 0 ≤ m.h.N 15 + 1 ∧ m.h.N 15 + 1 ≤ _
    omega
  · have := h.n16
    show 0 ≤ m.h.N 16 ∧ m.h.N 16 ≤ _
    omega
  · have := h.n18
    show 0 ≤ m.h.N 18 ∧ m.h.N 18 ≤ _
    omega
  · have h19 := h.n19
    have h2 := inSlot_len m.datas (Mk.dslot m s)
    have h3 := h.dn
    show 0 ≤ max (m.h.N 19) (inSlot m.datas (Mk.dslot m s) : Nat) ∧ max (m.h.N 19) (inSlot m.datas (Mk.dslot m s) : Nat) ≤ _
    omega
  · show (m.datas ++ _).length ≤ _
    have := h.dn
    rw [List.length_append, List.length_singleton]
    omega
theorem inv_named {m : Mk} (h : Inv m) (s : List Int) (hs : AllB s) : Inv (Mk.named m m.fields (Mk.tf m) s) := by
  have hL := named_len h s
  obtain ⟨d1, d2, d3⟩ := fobj_len m s
  rw [d1] at hL
  have := h.l8
  refine { F := h.F, ds := h.ds, fs := h.fs, n2 := ?_, n4 := ?_, len := by rw [hL]; exact Nat.le_trans h.len (by omega), l8 := by omega, dat := ?_, fld := ?_, mn := ?_, n7 := ?_, n15 := ?_, n16 := ?_, n18 := ?_, n19 := ?_, dep := ?_, dn := Nat.le_trans h.dn (by omega), fn := ?_ }
  · rw [← h.n2]; rfl
  · show _ = ((Mk.tf m : Nat) : Int)
    rw [← h.n4]; rfl
  · intro k hk
    obtain ⟨a, b, c, d, e⟩ := h.dat k hk
    exact ⟨by omega, b, c, d.mono (by omega), by omega⟩
  · intro k hk
    rcases List.mem_append.1 (show k ∈ m.fields ++ _ from hk) with hk | hk
    · obtain ⟨a, b⟩ := h.fld k hk
      exact ⟨by omega, b⟩
    · rw [List.mem_singleton.1 hk]
      exact ⟨by show m.b.length + 40 ≤ _; omega, hs⟩
  · obtain ⟨n, h1, h2, h3⟩ := h.mn
    exact ⟨n, by rw [← h1]; rfl, h2.mono (by omega), by omega⟩
  · have := h.n7
    show 0 ≤ m.h.N 7 + 1 ∧ m.h.N 7 + 1 ≤ _
    omega
  · have := h.n15
    show 0 ≤ m.h.N 15 ∧ m.h.N 15 ≤ _
    omega
  · have := h.n16
    show 0 ≤ m.h.N 16 + 1 ∧ m.h.N 16 + 1 ≤ _
    omega
  · have := h.n18
    show 0 ≤ m.h.N 18 ∧ m.h.N 18 ≤ _
    omega
  · have := h.n19
    show 0 ≤ m.h.N 19 ∧ m.h.N 19 ≤ _
    omega
  · have h2 := inSlot_len m.fields (Mk.fslot m s)
    have h3 := h.fn
    have := h.dep
    show max m.depth (inSlot m.fields (Mk.fslot m s)) ≤ _
    omega
  · show (m.fields ++ _).length ≤ _
    have := h.fn
    rw [List.length_append, List.length_singleton]
    omega
/-- Bytes alone are other ones. -/
theorem inv_bytes {m : Mk} (h : Inv m) {l : List Int} (hl : l.length = m.b.length) : Inv { m with b := l } :=
  { F := h.F, ds := h.ds, fs := h.fs, n2 := h.n2, n4 := h.n4, len := by show _ ≤ l.length; rw [hl]; exact h.len, l8 := by show l.length % 8 = 0; rw [hl]; exact h.l8
    dat := by show ∀ k ∈ m.datas, k.at_ + 64 ≤ l.length ∧ AllB k.text ∧ k.text.length ≤ 400 ∧ Chain l.length k.arrays (k.count - 1) ∧ k.count ≤ l.length
              rw [hl]; exact h.dat
    fld := by show ∀ k ∈ m.fields, k.at_ + 40 ≤ l.length ∧ AllB k.text
              rw [hl]; exact h.fld
    mn := by show ∃ n : Nat, m.h.N 8 = (n : Int) ∧ Chain l.length m.main n ∧ n ≤ l.length
             rw [hl]; exact h.mn
    n7 := by show _ ∧ _ ≤ (l.length : Int); rw [hl]; exact h.n7
    n15 := by show _ ∧ _ ≤ (l.length : Int); rw [hl]; exact h.n15
    n16 := by show _ ∧ _ ≤ (l.length : Int); rw [hl]; exact h.n16
    n18 := by show _ ∧ _ ≤ (l.length : Int); rw [hl]; exact h.n18
    n19 := by show _ ∧ _ ≤ (l.length : Int); rw [hl]; exact h.n19
    dep := by show _ ≤ l.length; rw [hl]; exact h.dep
    dn := by show _ ≤ l.length; rw [hl]; exact h.dn
    fn := by show _ ≤ l.length; rw [hl]; exact h.fn }
theorem put2_len {m : Mk} {a k : Nat} (ha : a + 64 ≤ m.b.length) (hk : k + 40 ≤ m.b.length) : (Mk.put2 m a k).b.length = m.b.length := by
  show (put8 (put8 _ _ _) _ _).length = _
  rw [put8_len _ _ _ (by rw [put8_len _ _ _ (by omega)]; omega), put8_len _ _ _ (by omega)]
theorem inv_put2 {m : Mk} (h : Inv m) {a k : Nat} (ha : a + 64 ≤ m.b.length) (hk : k + 40 ≤ m.b.length) : Inv (Mk.put2 m a k) := inv_bytes h (put2_len ha hk)
theorem findK_mem {l : List Kn} {s : List Int} {k : Kn} (h : findK l s = some k) : k ∈ l := List.mem_of_find?_eq_some h
/-- A name's object is there; so long may it be. -/
theorem inv_fieldOf {m : Mk} (h : Inv m) (s : List Int) (hs : AllB s) (hl : s.length ≤ 64) : Inv (Mk.fieldOf m s).2 ∧ (Mk.fieldOf m s).1 + 40 ≤ (Mk.fieldOf m s).2.b.length ∧ m.b.length ≤ (Mk.fieldOf m s).2.b.length ∧ (Mk.fieldOf m s).2.b.length ≤ m.b.length + 112 ∧ (Mk.fieldOf m s).2.datas = m.datas ∧ (Mk.fieldOf m s).2.C = m.C ∧ (Mk.fieldOf m s).2.main = m.main ∧ (Mk.fieldOf m s).2.h.N 8 = m.h.N 8 ∧ (Mk.fieldOf m s).2.h.N 9 = m.h.N 9 := by
  unfold Mk.fieldOf
  cases e : findK m.fields s with
  | some k =>
    dsimp only
    exact ⟨h, (h.fld k (findK_mem e)).1, Nat.le_refl _, Nat.le_add_right _ _, rfl, rfl, rfl, rfl, rfl⟩
  | none =>
    dsimp only
    have hL := named_len h s
    obtain ⟨d1, d2, d3⟩ := fobj_len m s
    exact ⟨inv_named h s hs, by show m.b.length + 40 ≤ _; omega, by show m.b.length ≤ (Mk.named m m.fields (Mk.tf m) s).b.length; omega, by show (Mk.named m m.fields (Mk.tf m) s).b.length ≤ _; omega, rfl, rfl, rfl, rfl, rfl⟩
theorem inv_dataNew {m : Mk} (h : Inv m) (nm s : List Int) (hn : AllB nm) (hnl : nm.length ≤ 64) (hs : AllB s) (hsl : s.length ≤ 400) :
    Inv (Mk.dataNew m nm s) ∧ m.b.length ≤ (Mk.dataNew m nm s).b.length ∧ (Mk.dataNew m nm s).b.length ≤ m.b.length + 600 ∧ (Mk.dataNew m nm s).datas = m.datas ++ [⟨s, m.b.length, Mk.dslot m s, 0, []⟩] ∧ (Mk.dataNew m nm s).C = m.C ∧ (Mk.dataNew m nm s).main = m.main ∧ (Mk.dataNew m nm s).h.N 8 = m.h.N 8 ∧ (Mk.dataNew m nm s).h.N 9 = m.h.N 9 := by
  have h1 := inv_put1 h s hs hsl
  have l1 := put1_len h s
  obtain ⟨d1, d2, d3⟩ := dobj_len m s
  obtain ⟨f1, f2, f3, f4, f5, f6, f7, f8, f9⟩ := inv_fieldOf h1 nm hn hnl
  have l2 := put2_len (m := (Mk.fieldOf (Mk.put1 m s) nm).2) (a := m.b.length) (k := (Mk.fieldOf (Mk.put1 m s) nm).1) (by omega) f2
  refine ⟨inv_put2 f1 (by omega) f2, ?_, ?_, ?_, ?_, ?_, ?_, ?_⟩
  · show _ ≤ (Mk.put2 _ _ _).b.length; omega
  · show (Mk.put2 _ _ _).b.length ≤ _; omega
  · exact f5
  · exact f6
  · exact f7
  · exact f8
  · exact f9
end Go.Proofs.YtldkmobncmfodaaGreat.Nb

/-
  The document's writer, plain: chains of arrays.
-/
namespace Go.Proofs.YtldkmobncmfodaaGreat.Nc
open Bytes8 LeNum Ob Oc Ga Ma Mb Mc Mf Mg Yd Yc Sg Na Nb
set_option linter.unusedVariables false
set_option linter.unusedSimpArgs false

theorem roomN_bd (k : Nat) : 4 ≤ roomN k ∧ roomN k ≤ 256 := by
  unfold roomN
  by_cases h : k > 6
  · rw [if_pos h]; decide
  · rw [if_neg h]
    have : 1 ≤ 2 ^ k := Nat.one_le_two_pow
    omega
theorem rooms_zero : rooms 0 = 0 := rfl
theorem rooms_le (k : Nat) : rooms k ≤ 256 * k := by
  induction k with
  | zero => rw [rooms_zero]; omega
  | succ k ih => rw [rooms_succ]; have := (roomN_bd k).2; omega
theorem rooms_ge (k : Nat) : 4 * k ≤ rooms k := by
  induction k with
  | zero => omega
  | succ k ih => rw [rooms_succ]; have := (roomN_bd k).1; omega
/-- A new array's bytes. -/
def aobj (k : Nat) : List Int := objB 6 (arrB 0 (List.replicate (roomN k) 0))
theorem aobj_len (k : Nat) : (aobj k).length = 24 + 8 * roomN k := by
  unfold aobj arrB
  rw [objB_len, List.length_append, nums_len, nums_len, List.length_replicate]
  have e : padN (8 * [(0 : Int)].length + 8 * roomN k) = 0 := by unfold padN; simp only [List.length_cons, List.length_nil]; omega
  rw [e]
  simp only [List.length_cons, List.length_nil]
  omega
/-- An array more, which an item is the first one of. -/
def Mk.linkNew (m : Mk) (arr : List Nat) (fr item : Nat) : Mk :=
  { m.object (aobj arr.length) with
    h := setN (m.object (aobj arr.length)).h 18 (m.h.N 18 + 1)
    b := put8 (put8 (m.b ++ aobj arr.length) (if arr = [] then fr else arr.getLastD 0 + 16) m.b.length) (m.b.length + 24) item }
def Mk.linkOld (m : Mk) (arr : List Nat) (n item : Nat) : Mk := { m with b := put8 m.b (arr.getLastD 0 + 24 + 8 * (n - rooms (arr.length - 1))) item }
/-- An item behind n others into a chain: what there is then, the chain, how many are in its last one. -/
def Mk.link (m : Mk) (arr : List Nat) (n fr item : Nat) : Mk × List Nat × Nat :=
  if n = rooms arr.length then (Mk.linkNew m arr fr item, arr ++ [m.b.length], 1) else (Mk.linkOld m arr n item, arr, n - rooms (arr.length - 1) + 1)
theorem getLastD_mem {arr : List Nat} (h : arr ≠ []) : arr.getLastD 0 = arr[arr.length - 1]'(by have := List.length_pos_iff.2 h; omega) := by
  rw [List.getLastD_eq_getLast?, List.getLast?_eq_getElem?, List.getElem?_eq_getElem (by have := List.length_pos_iff.2 h; omega)]
  rfl
theorem chain_last {L : Nat} {arr : List Nat} {n : Nat} (h : Chain L arr n) (hne : arr ≠ []) : arr.getLastD 0 + 24 + 8 * roomN (arr.length - 1) ≤ L := by
  rw [getLastD_mem hne]; exact h.fits _ _
theorem chain_ne {L : Nat} {arr : List Nat} {n : Nat} (h : Chain L arr n) (hn : n ≠ rooms arr.length) : arr ≠ [] := by
  intro e
  subst e
  have := h.le
  exact hn (by rw [show rooms ([] : List Nat).length = 0 from rfl] at this ⊢; omega)
theorem chain_old {L : Nat} {arr : List Nat} {n : Nat} (h : Chain L arr n) (hn : n ≠ rooms arr.length) : rooms (arr.length - 1) ≤ n ∧ n - rooms (arr.length - 1) < roomN (arr.length - 1) := by
  have hp := List.length_pos_iff.2 (chain_ne h hn)
  have h1 := h.ge hp
  have h2 := h.le
  have h3 := rooms_succ (arr.length - 1)
  rw [show arr.length - 1 + 1 = arr.length by omega] at h3
  omega
theorem linkNew_len {m : Mk} {arr : List Nat} {n fr item : Nat} (h : Chain m.b.length arr n) (hf : fr + 8 ≤ m.b.length) : (Mk.linkNew m arr fr item).b.length = m.b.length + (24 + 8 * roomN arr.length) := by
  have ha := aobj_len arr.length
  have hr := roomN_bd arr.length
  show (put8 (put8 (m.b ++ aobj arr.length) _ _) _ _).length = _
  have h1 : (if arr = [] then fr else arr.getLastD 0 + 16) + 8 ≤ (m.b ++ aobj arr.length).length := by
    rw [List.length_append, ha]
    split
    · omega
    · next hne => have := chain_last h hne; omega
  rw [put8_len _ _ _ (by rw [put8_len _ _ _ h1, List.length_append, ha]; omega), put8_len _ _ _ h1, List.length_append, ha]
theorem linkOld_len {m : Mk} {arr : List Nat} {n item : Nat} (h : Chain m.b.length arr n) (hn : n ≠ rooms arr.length) : (Mk.linkOld m arr n item).b.length = m.b.length := by
  have h1 := chain_last h (chain_ne h hn)
  have h2 := chain_old h hn
  exact put8_len _ _ _ (by omega)
theorem chain_new {L L' at_ : Nat} {arr : List Nat} {n : Nat} (h : Chain L arr n) (hL : L ≤ L') (hn : n = rooms arr.length) (ha : at_ + 24 + 8 * roomN arr.length ≤ L') : Chain L' (arr ++ [at_]) (n + 1) := by
  have hr := roomN_bd arr.length
  refine ⟨?_, fun _ => ?_, fun i hi => ?_⟩
  · rw [List.length_append, List.length_singleton, rooms_succ]; omega
  · rw [List.length_append, List.length_singleton, Nat.add_sub_cancel]; omega
  · rw [List.length_append, List.length_singleton] at hi
    rcases Nat.lt_or_ge i arr.length with h1 | h1
    · rw [List.getElem_append_left h1]
      have := h.fits i h1
      omega
    · rw [List.getElem_append_right h1]
      obtain rfl : i = arr.length := by omega
      simpa using ha
theorem chain_more {L : Nat} {arr : List Nat} {n : Nat} (h : Chain L arr n) (hn : n ≠ rooms arr.length) : Chain L arr (n + 1) :=
  ⟨by have := h.le; omega, fun hp => by have := h.ge hp; omega, h.fits⟩
/-- What an object more, and so many arrays more, leave. -/
theorem inv_grow {m m' : Mk} (h : Inv m) (hC : m'.C = m.C) (hL : m.b.length ≤ m'.b.length) (h8 : m'.b.length % 8 = 0) (hd : m'.datas = m.datas) (hf : m'.fields = m.fields) (hm : m'.main = m.main) (hdp : m'.depth = m.depth)
    (hN : ∀ i, i = 2 ∨ i = 4 ∨ i = 8 ∨ i = 15 ∨ i = 16 ∨ i = 19 → m'.h.N i = m.h.N i) (h7 : 0 ≤ m'.h.N 7 ∧ m'.h.N 7 ≤ m'.b.length) (h18 : 0 ≤ m'.h.N 18 ∧ m'.h.N 18 ≤ m'.b.length) : Inv m' :=
  { F := by rw [hC]; exact h.F
    ds := by rw [hC]; exact h.ds
    fs := by rw [hC]; exact h.fs
    n2 := by rw [hN 2 (by simp)]; exact h.n2
    n4 := by rw [hN 4 (by simp), show Mk.tf m' = Mk.tf m by unfold Mk.tf; rw [hC]]; exact h.n4
    len := by rw [hC]; exact Nat.le_trans h.len hL
    l8 := h8
    dat := fun k hk => by
      rw [hd] at hk
      obtain ⟨a, b, c, d, e⟩ := h.dat k hk
      exact ⟨by omega, b, c, d.mono hL, by omega⟩
    fld := fun k hk => by
      rw [hf] at hk
      obtain ⟨a, b⟩ := h.fld k hk
      exact ⟨by omega, b⟩
    mn := by
      obtain ⟨n, h1, h2, h3⟩ := h.mn
      exact ⟨n, by rw [hN 8 (by simp), h1], by rw [hm]; exact h2.mono hL, by omega⟩
    n7 := h7
    n15 := by rw [hN 15 (by simp)]; have := h.n15; omega
    n16 := by rw [hN 16 (by simp)]; have := h.n16; omega
    n18 := h18
    n19 := by rw [hN 19 (by simp)]; have := h.n19; omega
    dep := by rw [hdp]; exact Nat.le_trans h.dep hL
    dn := by rw [hd]; exact Nat.le_trans h.dn hL
    fn := by rw [hf]; exact Nat.le_trans h.fn hL }
theorem inv_object {m : Mk} (h : Inv m) (l : List Int) (hl : l.length % 8 = 0) (h0 : 0 < l.length) : Inv (m.object l) := by
  have e := object_len m l
  have := h.l8
  refine inv_grow h rfl (by omega) (by omega) rfl rfl rfl rfl ?_ ?_ ?_
  · rintro i (rfl | rfl | rfl | rfl | rfl | rfl) <;> rfl
  · have := h.n7
    show 0 ≤ m.h.N 7 + 1 ∧ m.h.N 7 + 1 ≤ _
    omega
  · have := h.n18
    show 0 ≤ m.h.N 18 ∧ m.h.N 18 ≤ _
    omega
/-- A chain's link keeps the writer right. -/
theorem inv_link {m : Mk} (h : Inv m) {arr : List Nat} {n fr : Nat} (item : Nat) (hc : Chain m.b.length arr n) (hf : fr + 8 ≤ m.b.length) :
    Inv (Mk.link m arr n fr item).1 ∧ Chain (Mk.link m arr n fr item).1.b.length (Mk.link m arr n fr item).2.1 (n + 1) ∧ m.b.length ≤ (Mk.link m arr n fr item).1.b.length ∧ (Mk.link m arr n fr item).1.b.length ≤ m.b.length + 2100 ∧
    (Mk.link m arr n fr item).1.datas = m.datas ∧ (Mk.link m arr n fr item).1.fields = m.fields ∧ (Mk.link m arr n fr item).1.main = m.main ∧ (Mk.link m arr n fr item).1.C = m.C ∧ (Mk.link m arr n fr item).1.depth = m.depth ∧ (∀ i, i ≠ 6 → i ≠ 7 → i ≠ 18 → (Mk.link m arr n fr item).1.h.N i = m.h.N i) ∧ (Mk.link m arr n fr item).1.h.st = m.h.st ∧ (Mk.link m arr n fr item).2.2 ≤ 256 := by
  unfold Mk.link
  by_cases e : n = rooms arr.length
  · simp only [if_pos e]
    have hL := linkNew_len (item := item) hc hf
    have hr := roomN_bd arr.length
    have hx := inv_object h (aobj arr.length) (by rw [aobj_len]; omega) (by rw [aobj_len]; omega)
    have hxl := object_len m (aobj arr.length)
    rw [aobj_len] at hxl
    refine ⟨?_, ?_, by omega, by omega, rfl, rfl, rfl, rfl, rfl, ?_, rfl, by decide⟩
    · have := h.l8
      refine inv_grow h rfl (by omega) (by omega) rfl rfl rfl rfl ?_ ?_ ?_
      · rintro i (rfl | rfl | rfl | rfl | rfl | rfl) <;> rfl
      · have := h.n7
        show 0 ≤ m.h.N 7 + 1 ∧ m.h.N 7 + 1 ≤ _
        omega
      · have := h.n18
        show 0 ≤ m.h.N 18 + 1 ∧ m.h.N 18 + 1 ≤ _
        omega
    · exact chain_new hc (by omega) e (by omega)
    · intro i h6 h7 h18
      show (setN (setN (setN m.h 6 _) 7 _) 18 _).N i = _
      rw [setN_ne _ _ _ _ h18, setN_ne _ _ _ _ h7, setN_ne _ _ _ _ h6]
  · simp only [if_neg e]
    have hL := linkOld_len (item := item) hc e
    have h2 := chain_old hc e
    have hr := roomN_bd (arr.length - 1)
    exact ⟨inv_bytes h hL, by rw [hL]; exact chain_more hc e, by omega, by omega, rfl, rfl, rfl, rfl, rfl, fun _ _ _ _ => rfl, rfl, by omega⟩
end Go.Proofs.YtldkmobncmfodaaGreat.Nc
