/-
  Texts beneath the proof, one behind the other.
-/
import Derived.Deep.RegionHeld3
import Derived.Test.YtldkmobncmfodaaGreatR15
import Derived.Test.YtldkmobncmfodaaGreatR10
import Derived.Test.YtldkmobncmfodaaGreatR14

/-
  The document's writer: the object of a name.
-/
namespace Go.Proofs.YtldkmobncmfodaaGreat.Mg
open Go.ChangeShapes Go.WideShapes Go.ChangeAt Go.RowKit
open Bytes8 Blk8 Own8 OwnM OwnA OwnE LeA LeNum LeB LeP RefA RefB Ob Oc Od Oj Ga Ma Kf Mb Mc Md Me Mf Fa Fb Fc Sg Dc
set_option linter.unusedVariables false
set_option linter.unusedSimpArgs false
set_option maxRecDepth 100000

def Cf.file (C : Cf) : List Int := idL C.F
def Mk.sum (m : Mk) (s : List Int) : Int := ofS m.C.keyed (Cf.file m.C) s
/-- The slot of a name. -/
def Mk.fslot (m : Mk) (s : List Int) : Nat := (Mk.sum m s % (m.C.fs : Int)).toNat
def Mk.fobj (m : Mk) (s : List Int) : List Int := objB 2 (nums [Mk.sum m s, 0, 0] ++ s)
/-- A name gets its object. -/
def Mk.named (m : Mk) (ks : List Kn) (tf : Nat) (s : List Int) : Mk :=
  { m.object (Mk.fobj m s) with
    b := hung (m.b ++ Mk.fobj m s) ks tf m.b.length (Mk.fslot m s)
    depth := max m.depth (inSlot ks (Mk.fslot m s))
    h := setN (m.object (Mk.fobj m s)).h 16 (m.h.N 16 + 1)
    fields := m.fields ++ [⟨s, m.b.length, Mk.fslot m s, 0, []⟩] }
attribute [local irreducible] Mk.cells wpList Code.wp
end Go.Proofs.YtldkmobncmfodaaGreat.Mg

/-
  The document's writer: all of it in memory; plain: what its calls make of it.
-/
namespace Go.Proofs.YtldkmobncmfodaaGreat.Na
open Go.ChangeShapes Go.WideShapes Go.ChangeAt Go.RowKit
open Bytes8 Blk8 Own8 OwnM OwnA OwnE LeA LeNum LeB LeP RefA RefB Ob Oc Od Oj Ga Ma Kf Mb Mc Md Me Mf Mg Fa Fb Fc Sg Dc
set_option linter.unusedVariables false
set_option linter.unusedSimpArgs false
set_option maxRecDepth 100000

/-! ## in memory -/
/-- Where a writer's parts lie. -/
structure Pl where
  bb : Nat
  cb : Nat
  D : Option Addr
  nd : Nat
  cd : Nat
  F : Option Addr
  nf : Nat
  cf : Nat
  M : Value
  dl : List (Kn × Value)
  fl : List (Kn × Value)
def Pl.S (p : Pl) : Sl := ⟨.bool false, .slice p.D p.nd p.cd, .slice p.F p.nf p.cf, p.M⟩
/-- The blocks that its calls write. -/
def Pl.foot (p : Pl) (g : Nat) (k : Nat) : Prop := k = g ∨ k = p.bb ∨ ownB p.D = some k ∨ ownB p.F = some k
/-- .. and what was there ahead of the writer. -/
def Pl.away (p : Pl) (B g : Nat) (k : Nat) : Prop := p.foot g k ∨ k < B
/-- A row of places that can be read, off the blocks that are written. -/
def Arr (w : World) (Ft : Nat → Prop) (v : Value) (l : List Nat) : Prop :=
  ∃ A n c, v = .slice A n c ∧ l.length = n ∧ ∀ i (h : i < l.length), ∃ b, A = some ⟨b, 0, none⟩ ∧ b < w.heap.size ∧ ¬ Ft b ∧ w.cell? ⟨b, i, none⟩ = some (.int .u64 (l[i] : Int))
theorem Arr.nil (w : World) (Ft : Nat → Prop) : Arr w Ft (.slice none 0 0) [] := ⟨none, 0, 0, rfl, rfl, fun i h => absurd h (by simp)⟩
theorem Arr.kept {w w' : World} {Ft Ft' G : Nat → Prop} {v : Value} {l : List Nat} (h : Arr w Ft v l) (hk : KeptF G w w') (hG : ∀ b, b < w.heap.size → ¬ Ft b → ¬ G b) (hF : ∀ b, b < w.heap.size → ¬ Ft b → ¬ Ft' b) : Arr w' Ft' v l := by
  obtain ⟨A, n, c, rfl, hl, h⟩ := h
  refine ⟨A, n, c, rfl, hl, fun i hi => ?_⟩
  obtain ⟨b, e, hb, hf, hc⟩ := h i hi
  exact ⟨b, e, Nat.lt_of_lt_of_le hb hk.size, hF b hb hf, (World.cell?_of_block (a := ⟨b, i, none⟩) (hk.block b hb (hG b hb hf))).trans hc⟩
/-- The writer behind a pointer, with all that hangs on it. -/
structure At (w : World) (B g : Nat) (p : Pl) (m : Mk) : Prop where
  st : MkB w B g p.bb p.cb p.S m
  dr : OwnK w B p.D p.nd p.cd p.dl
  fr : OwnK w B p.F p.nf p.cf p.fl
  dm : p.dl.map Prod.fst = m.datas
  fm : p.fl.map Prod.fst = m.fields
  da : ∀ q ∈ p.dl, Arr w (p.away B g) q.2 q.1.arrays
  ma : Arr w (p.away B g) p.M m.main
  dg : ∀ k, ownB p.D = some k → k ≠ g ∧ k ≠ p.bb
  fg : ∀ k, ownB p.F = some k → k ≠ g ∧ k ≠ p.bb
  df : ∀ k, ownB p.D = some k → ownB p.F ≠ some k
  gB : B ≤ g
  fo : ∀ q ∈ p.fl, q.2 = .slice none 0 0
theorem At.lt {w : World} {B g : Nat} {p : Pl} {m : Mk} (h : At w B g p m) : ∀ k, p.foot g k → B ≤ k ∧ k < w.heap.size := by
  rintro k (rfl | rfl | h1 | h1)
  · exact ⟨h.gB, h.st.st.lt⟩
  · exact own_lt h.st.own
  · exact OwnE.ltB h.dr k h1
  · exact OwnE.ltB h.fr k h1
/-- A call that writes none of its blocks. -/
theorem At.off {w w' : World} {B g : Nat} {p : Pl} {m : Mk} {G : Nat → Prop} (h : At w B g p m) (hk : KeptF G w w') (hG : ∀ k, k < w.heap.size → ¬ G k) : At w' B g p m :=
  have hs := h.lt
  have off : ∀ k, p.foot g k → ¬ G k := fun k hf => hG k (hs k hf).2
  { st := ⟨Kf.Blk.keptF h.st.st hk (off _ (.inl rfl)), Kf.Own.keptF h.st.own hk (fun k hk' => off k (.inr (.inl (by injection hk' with e; exact e.symm)))), h.st.ne⟩
    dr := OwnE.keptF h.dr hk (fun k e => off k (.inr (.inr (.inl e))))
    fr := OwnE.keptF h.fr hk (fun k e => off k (.inr (.inr (.inr e))))
    dm := h.dm, fm := h.fm
    da := fun q hq => (h.da q hq).kept hk (fun b hb _ => hG b hb) (fun _ _ h => h)
    ma := h.ma.kept hk (fun b hb _ => hG b hb) (fun _ _ h => h)
    dg := h.dg, fg := h.fg, df := h.df, gB := h.gB, fo := h.fo }
theorem At.below {w w' : World} {B g : Nat} {p : Pl} {m : Mk} (h : At w B g p m) (hb : Below w.heap.size w w') : At w' B g p m := h.off (KeptF.of_below (F := None') hb) (fun _ _ h => h)
/-- What a call leaves that turned the writer. -/
def Step (B g : Nat) (p : Pl) (m : Mk) (w w' : World) : Prop := ∃ p', At w' B g p' m ∧ (∀ k, p'.foot g k → p.foot g k ∨ w.heap.size ≤ k) ∧ KeptF (p.foot g) w w'
theorem At.step {w : World} {B g : Nat} {p : Pl} {m : Mk} (h : At w B g p m) : Step B g p m w w := ⟨p, h, fun _ h => .inl h, KeptF.refl _ _⟩
/-- Parts of it are another ones, the rest as it was. -/
theorem At.turn {w w' : World} {B g : Nat} {p p' : Pl} {m m' : Mk} (h : At w B g p m) (hk : KeptF (p.foot g) w w') (hf : ∀ k, p'.foot g k → p.foot g k ∨ w.heap.size ≤ k)
    (st : MkB w' B g p'.bb p'.cb p'.S m') (dr : OwnK w' B p'.D p'.nd p'.cd p'.dl) (fr : OwnK w' B p'.F p'.nf p'.cf p'.fl) (dm : p'.dl.map Prod.fst = m'.datas) (fm : p'.fl.map Prod.fst = m'.fields)
    (da : ∀ q ∈ p'.dl, q ∈ p.dl ∨ Arr w' (p'.away B g) q.2 q.1.arrays) (ma : (p'.M = p.M ∧ m'.main = m.main) ∨ Arr w' (p'.away B g) p'.M m'.main)
    (dg : ∀ k, ownB p'.D = some k → k ≠ g ∧ k ≠ p'.bb) (fg : ∀ k, ownB p'.F = some k → k ≠ g ∧ k ≠ p'.bb) (df : ∀ k, ownB p'.D = some k → ownB p'.F ≠ some k) (fo : ∀ q ∈ p'.fl, q ∈ p.fl ∨ q.2 = .slice none 0 0) : At w' B g p' m' :=
  have hn : ∀ b, b < w.heap.size → ¬ p.away B g b → ¬ p'.away B g b := fun b hb hnf h1 => h1.elim (fun h1 => (hf b h1).elim (fun h => hnf (.inl h)) (fun h2 => absurd hb (by omega))) (fun h => hnf (.inr h))
  { st := st, dr := dr, fr := fr, dm := dm, fm := fm, dg := dg, fg := fg, df := df, gB := h.gB
    fo := fun q hq => (fo q hq).elim (h.fo q) id
    da := fun q hq => (da q hq).elim (fun h1 => (h.da q h1).kept hk (fun _ _ h h2 => h (.inl h2)) hn) id
    ma := ma.elim (fun h1 => by rw [h1.1, h1.2]; exact h.ma.kept hk (fun _ _ h h2 => h (.inl h2)) hn) id }

/-! ## plain -/
def Mk.tf (m : Mk) : Nat := 304 + 16 * m.C.ds
def Mk.dslot (m : Mk) (s : List Int) : Nat := (Mk.sum m s % (m.C.ds : Int)).toNat
def Mk.dobj (m : Mk) (s : List Int) : List Int := objB 1 (nums [Mk.sum m s, 0, 0, 0, 0, 0] ++ s)
def findK (l : List Kn) (s : List Int) : Option Kn := l.find? fun k => k.text == s
/-- A payload gets its object, which hangs in no name's chain yet. -/
def Mk.put1 (m : Mk) (s : List Int) : Mk :=
  { m.object (Mk.dobj m s) with
    b := hung (m.b ++ Mk.dobj m s) m.datas 288 m.b.length (Mk.dslot m s)
    h := setN (setN (m.object (Mk.dobj m s)).h 19 (max (m.h.N 19) (inSlot m.datas (Mk.dslot m s) : Nat))) 15 (m.h.N 15 + 1)
    datas := m.datas ++ [⟨s, m.b.length, Mk.dslot m s, 0, []⟩] }
/-- The place of a name's object, and what there is then. -/
def Mk.fieldOf (m : Mk) (s : List Int) : Nat × Mk := match findK m.fields s with
  | some k => (k.at_, m)
  | none => (m.b.length, Mk.named m m.fields (Mk.tf m) s)
def Mk.put2 (m : Mk) (at_ k : Nat) : Mk := { m with b := put8 (put8 m.b (at_ + 32) (u8 m.b (k + 32))) (k + 32) at_ }
/-- A new payload of a name. -/
def Mk.dataNew (m : Mk) (nm s : List Int) : Mk := Mk.put2 (Mk.fieldOf (Mk.put1 m s) nm).2 m.b.length (Mk.fieldOf (Mk.put1 m s) nm).1
def idxK (l : List Kn) (s : List Int) : Option Nat := l.findIdx? fun k => k.text == s
/-- Which of the datas a payload is; what there is then. -/
def Mk.dataOf (m : Mk) (nm s : List Int) : Nat × Mk := match idxK m.datas s with
  | some i => (i, m)
  | none => (m.datas.length, Mk.dataNew m nm s)
/-- A chain of arrays of n items: each of it within so many bytes. -/
structure Chain (L : Nat) (arr : List Nat) (n : Nat) : Prop where
  le : n ≤ rooms arr.length
  ge : 0 < arr.length → rooms (arr.length - 1) ≤ n
  fits : ∀ i (h : i < arr.length), arr[i] + 24 + 8 * roomN i ≤ L
theorem Chain.mono {L L' : Nat} {arr : List Nat} {n : Nat} (h : Chain L arr n) (hL : L ≤ L') : Chain L' arr n := ⟨h.le, h.ge, fun i hi => Nat.le_trans (h.fits i hi) hL⟩
theorem Chain.nil (L : Nat) : Chain L [] 0 := ⟨Nat.zero_le _, fun h => absurd h (by simp), fun i h => absurd h (by simp)⟩
/-- What is so of a writer at any time. -/
structure Inv (m : Mk) : Prop where
  F : IdOk m.C.F
  ds : 0 < m.C.ds ∧ m.C.ds ≤ 64
  fs : 0 < m.C.fs ∧ m.C.fs ≤ 64
  n2 : m.h.N 2 = ((288 : Nat) : Int)
  n4 : m.h.N 4 = (Mk.tf m : Int)
  len : 304 + 16 * (m.C.ds + m.C.fs) ≤ m.b.length
  l8 : m.b.length % 8 = 0
  dat : ∀ k ∈ m.datas, k.at_ + 64 ≤ m.b.length ∧ AllB k.text ∧ k.text.length ≤ 400 ∧ Chain m.b.length k.arrays (k.count - 1) ∧ k.count ≤ m.b.length
  fld : ∀ k ∈ m.fields, k.at_ + 40 ≤ m.b.length ∧ AllB k.text
  mn : ∃ n : Nat, m.h.N 8 = (n : Int) ∧ Chain m.b.length m.main n ∧ n ≤ m.b.length
  n7 : 0 ≤ m.h.N 7 ∧ m.h.N 7 ≤ m.b.length
  n15 : 0 ≤ m.h.N 15 ∧ m.h.N 15 ≤ m.b.length
  n16 : 0 ≤ m.h.N 16 ∧ m.h.N 16 ≤ m.b.length
  n18 : 0 ≤ m.h.N 18 ∧ m.h.N 18 ≤ m.b.length
  n19 : 0 ≤ m.h.N 19 ∧ m.h.N 19 ≤ m.b.length
  dep : m.depth ≤ m.b.length
  dn : m.datas.length ≤ m.b.length
  fn : m.fields.length ≤ m.b.length
end Go.Proofs.YtldkmobncmfodaaGreat.Na

/-
  The document's writer, plain: what its calls keep.
-/
namespace Go.Proofs.YtldkmobncmfodaaGreat.Nb
open Bytes8 LeNum Ob Oc Ga Ma Mb Mc Mf Mg Yd Yc Sg Na
set_option linter.unusedVariables false
set_option linter.unusedSimpArgs false

end Go.Proofs.YtldkmobncmfodaaGreat.Nb
