/-
  Texts beneath the proof, one behind the other.
-/
import Derived.Shelf.SlSortCmp.QuietGrown
import Derived.Test.YtldkmobncmfodaaGreatR19
import Derived.Test.YtldkmobncmfodaaGreatR18
import Derived.Test.YtldkmobncmfodaaGreatR5
import Derived.Test.YtldkmobncmfodaaGreatR4

/-
  Pairs put in their place, plain; a store into a row of pairs that a call gathers.
-/
namespace Go.Proofs.YtldkmobncmfodaaGreat.Pi8
open Go.ChangeShapes Go.WideShapes Go.ChangeAt Go.RowKit
open Bytes8 Blk8 Own8 OwnE Fa Fb Fc Fo In8 Pr8 Ps8 Pl8 Pq8
set_option linter.unusedVariables false
set_option maxRecDepth 100000
set_option linter.unusedSimpArgs false


/-! ## the row so far -/

/-! ## a store into the row -/
theorem cellsP_set : ∀ (l : List PR) (i : Nat) (p : PR), ((cellsP l).set (i * 2) (.string (T p.1))).set (i * 2 + 1) (.string (T p.2)) = cellsP (l.set i p)
  | [], _, _ => rfl
  | q :: l, 0, p => by simp [cellsP]
  | q :: l, i + 1, p => by
    have ih := cellsP_set l i p
    rw [show (i + 1) * 2 = i * 2 + 1 + 1 by omega]
    simp only [cellsP, List.set_cons_succ]
    rw [ih]
theorem OwnP.frozen {w : World} {base n c g : Nat} {l : List PR} (h : OwnP w base (some ⟨g, 0, none⟩) n c l) (i : Nat) : w.frozen? ⟨g, i, none⟩ = false := by
  obtain ⟨_, cur, hg, _⟩ := own_block h
  simp [World.frozen?, hg]
theorem OwnP.set {w : World} {base n c g : Nat} {l : List PR} (h : OwnP w base (some ⟨g, 0, none⟩) n c l) (i : Nat) (p : PR) (hp : okP p) (hi : i < n) :
    OwnP ((w.setCell ⟨g, i * 2, none⟩ (.string (T p.1))).setCell ⟨g, i * 2 + 1, none⟩ (.string (T p.2))) base (some ⟨g, 0, none⟩) n c (l.set i p) := by
  refine ⟨fun q hq => ?_, by rw [List.length_set]; exact h.2.1, ?_, ?_, ?_⟩
  · rcases List.mem_or_eq_of_mem_set hq with h1 | h1
    · exact h.1 q h1
    · subst h1; exact hp
  · simpa [World.setCell] using h.2.2.1
  · rw [cellsP_len, List.length_set, h.2.1]
  · rcases h.2.2.2.2 with ⟨he, h0⟩ | ⟨g', cap, cur, he, hb, hg, hnc, hcm, hsz, ht⟩
    · cases he
    · injection he with e1 e2 e3
      simp at e1
      subst e1
      refine .inr ⟨g, cap, (cur.setIfInBounds (i * 2) (.string (T p.1))).setIfInBounds (i * 2 + 1) (.string (T p.2)), ?_, hb, ?_, hnc, hcm, by simpa using hsz, ?_⟩
      · rw [← e3]
      · simp [World.setCell, Array.getElem?_modify, hg]
      · rw [← cellsP_set, ← ht]
        simp only [Array.toList_setIfInBounds, List.take_set]
theorem OwnP.cellAt {w : World} {base n c g : Nat} {l : List PR} (h : OwnP w base (some ⟨g, 0, none⟩) n c l) (i : Nat) (hi : i < n) : w.cell? ⟨g, i * 2, none⟩ = some (.string (T (l.getD i nil2).1)) ∧ w.cell? ⟨g, i * 2 + 1, none⟩ = some (.string (T (l.getD i nil2).2)) ∧ g < w.heap.size ∧ base ≤ g := by
  obtain ⟨hb, cur, hg, ht⟩ := own_block h
  obtain ⟨b, off, e, hlt, h0, h1⟩ := h.prs.2 i (by rw [h.2.1]; exact hi)
  simp at e
  obtain ⟨rfl, rfl⟩ := e
  rw [Nat.zero_add] at h0 h1
  exact ⟨h0, h1, hlt, hb⟩
end Go.Proofs.YtldkmobncmfodaaGreat.Pi8

/-
  What the document's own List answers.
-/
namespace Go.Proofs.YtldkmobncmfodaaGreat.Pr2
open Go.ChangeShapes Go.WideShapes Go.ChangeAt Go.RowKit
open Bytes8 Blk8 Own8 OwnE Fa Fb Fc Fo In8 Pr8 Pa8 Ps8 Pl8 Pq8 Pi8
set_option linter.unusedVariables false
set_option maxRecDepth 100000
set_option linter.unusedSimpArgs false


end Go.Proofs.YtldkmobncmfodaaGreat.Pr2

/-
  The document's writer: what an entry more makes of it, plain; rows that Append gathers beside it; Xor.
-/
namespace Go.Proofs.YtldkmobncmfodaaGreat.Nh
open Go.ChangeShapes Go.WideShapes Go.ChangeAt Go.RowKit
open Bytes8 Blk8 Own8 OwnM OwnA OwnE LeA LeNum LeB LeP RefA RefB Rows2 Ob Oc Od Oj Ga Ma Kf Mb Mc Md Me Mf Mg Fa Fb Fc Sg Dc Yc Yd Yk Na Nb Nc Nd Nf Ng Hm Ha Hb Hc Hd He Hf Se Ya Pr8 Ps8 Pl8
set_option linter.unusedVariables false
set_option linter.unusedSimpArgs false
set_option maxRecDepth 100000

/-! ## plain -/
def Mk.kn (m : Mk) (i : Nat) : Kn := m.datas.getD i ⟨[], 0, 0, 0, []⟩
/-- Behind how many of the first j an item stands whose place is x. -/
def posW (f : Nat → Nat) (x : Nat) (who : List Nat) : Nat → Nat
  | 0 => 0
  | j + 1 => if x < f (who.getD j 0) then posW f x who j else j + 1
def insW (f : Nat → Nat) (who : List Nat) (k : Nat) : List Nat := who.take (posW f (f k) who who.length) ++ k :: who.drop (posW f (f k) who who.length)
def dataStep (s : Mk × List Nat) (q : PR) : Mk × List Nat :=
  let r := Mk.dataOf s.1 q.1 (pay q.1 q.2)
  (r.2, insW (fun i => (Mk.kn r.2 i).at_) s.2 r.1)
/-- All payloads get their objects; which they are, in the order of their places. -/
def Mk.dataAll (m : Mk) (l : List PR) : Mk × List Nat := l.foldl dataStep (m, [])
/-- What a payload's place keeps of the writer. -/
structure DKeeps (m m' : Mk) : Prop where
  C : m'.C = m.C
  main : m'.main = m.main
  n8 : m'.h.N 8 = m.h.N 8
  n9 : m'.h.N 9 = m.h.N 9
  len : m.b.length ≤ m'.b.length
  datas : m.datas.length ≤ m'.datas.length
theorem DKeeps.refl (m : Mk) : DKeeps m m := ⟨rfl, rfl, rfl, rfl, Nat.le_refl _, Nat.le_refl _⟩
theorem DKeeps.trans {a b c : Mk} (h : DKeeps a b) (k : DKeeps b c) : DKeeps a c := ⟨k.C.trans h.C, k.main.trans h.main, k.n8.trans h.n8, k.n9.trans h.n9, Nat.le_trans h.len k.len, Nat.le_trans h.datas k.datas⟩
/-- The entry's object. -/
def Mk.eobj (m : Mk) (who : List Nat) (ps : List (List Int)) (seq real mono : Int) (boot : Nat → Int) : List Int :=
  objB 3 (entB seq real mono boot ((xr ps : Nat) : Int) (prs (fun i => ((Mk.kn m (who.getD i 0)).at_ : Int)) (fun i => Mk.sum m (Mk.kn m (who.getD i 0)).text) who.length))
/-- The entry hangs at the end of all entries. -/
def Mk.linked (m : Mk) (at_ : Nat) (n : Nat) : Mk :=
  let r := Mk.link m m.main n 176 at_
  { r.1 with main := r.2.1, h := { setN r.1.h 11 ((r.2.1.getD 0 0 : Nat) : Int) with ta := ((r.2.1.getLastD 0 : Nat) : Int), ti := ((r.2.2 : Nat) : Int) } }
/-- One of its payloads has it. -/
def Mk.mark (e : Nat) (m : Mk) (j : Nat) : Mk :=
  let d := Mk.kn m j
  let r : Mk × List Nat := if d.count = 0 then ({ m with b := put8 m.b (d.at_ + 40) e }, d.arrays) else ((Mk.link m d.arrays (d.count - 1) (d.at_ + 48) e).1, (Mk.link m d.arrays (d.count - 1) (d.at_ + 48) e).2.1)
  { r.1 with b := put8 r.1.b (d.at_ + 56) ((d.count + 1 : Nat) : Int), datas := r.1.datas.set j { d with count := d.count + 1, arrays := r.2 } }
def Mk.markAll (e : Nat) (m : Mk) (who : List Nat) : Mk := who.foldl (Mk.mark e) m
/-- All of an entry's objects. -/
def Mk.grown (m : Mk) (l : List PR) (real mono : Int) (boot : Nat → Int) : Mk :=
  let s := Mk.dataAll m l
  let m2 := s.1.object (Mk.eobj s.1 s.2 (l.map fun q => pay q.1 q.2) (m.h.N 9 + 1) real mono boot)
  Mk.markAll s.1.b.length (Mk.linked m2 s.1.b.length (m.h.N 8).toNat) s.2
/-- What the head says of the last entry. -/
def Mk.told (m : Mk) (n : Nat) (seq real mono : Int) (boot : Nat → Int) (te : Nat) : Mk :=
  let h1 := if n = 0 then setN (setN m.h 10 seq) 12 real else m.h
  let h2 := setN h1 8 (h1.N 8 + 1)
  let h3 := setN (setN (setN h2 9 seq) 13 real) 14 mono
  { m with h := { h3 with I := fun i => if 32 ≤ i ∧ i < 48 then boot (i - 32) else h3.I i, te := (te : Int) } }
def Mk.entered (m : Mk) (l : List PR) (real mono : Int) (boot : Nat → Int) : Mk :=
  Mk.told (Mk.grown m l real mono boot) (m.h.N 8).toNat (m.h.N 9 + 1) real mono boot (Mk.dataAll m l).1.b.length
/-- The code that Append tells. -/
def Mk.acode (m : Mk) (raw : List PR) (real mono : Int) (boot : Nat → Int) : Int :=
  if listE raw ≠ 0 then listE raw else if m.h.N 9 = 18446744073709551615 then 1 else if m.C.most < (Mk.grown m (listL raw) real mono boot).b.length then 15 else 0
def Mk.after (m : Mk) (raw : List PR) (real mono : Int) (boot : Nat → Int) : Mk := if Mk.acode m raw real mono boot = 0 then Mk.entered m (listL raw) real mono boot else m

/-! ## in memory: rows beside the writer -/
structure Side (E : TypeId) (size : Nat) (w : World) (g : Nat) (p : Pl) (b0 : Nat) (A : Option Addr) (n c : Nat) (xs : List Value) : Prop where
  own : OwnE E size w b0 A n c xs
  off : ∀ k, ownB A = some k → ¬ p.foot g k
theorem Side.below {E : TypeId} {size : Nat} {w w' : World} {g : Nat} {p : Pl} {b0 : Nat} {A : Option Addr} {n c : Nat} {xs : List Value} (h : Side E size w g p b0 A n c xs) (hb : Below w.heap.size w w') : Side E size w' g p b0 A n c xs :=
  ⟨h.own.kept hb (Nat.le_refl _), h.off⟩
/-- Payloads as bytes, each in a block of its own. -/
def Pays (w : World) (g : Nat) (p : Pl) (A : Option Addr) (xs : List Value) (P : List (List Int)) : Prop :=
  xs.length = P.length ∧ ∀ r (h : r < P.length), ∃ b c, xs[r]? = some (.slice (some ⟨b, 0, none⟩) P[r].length c) ∧ Bytes w (some ⟨b, 0, none⟩) P[r] ∧ b < w.heap.size ∧ ¬ p.foot g b ∧ ownB A ≠ some b
theorem bytes_block {w w' : World} {b : Nat} {l : List Int} (h : Bytes w (some ⟨b, 0, none⟩) l) (hs : w.heap.size ≤ w'.heap.size) (hk : w'.heap[b]? = w.heap[b]?) : Bytes w' (some ⟨b, 0, none⟩) l :=
  ⟨h.1, fun i hi => by
    obtain ⟨b2, off, e, hlt, hc⟩ := h.2 i hi
    injection e with e
    injection e with e1 e2
    subst e1
    exact ⟨b, off, by rw [e2], Nat.lt_of_lt_of_le hlt hs, (World.cell?_of_block (a := ⟨b, off + i, none⟩) hk).trans hc⟩⟩
theorem Pays.below {w w' : World} {g : Nat} {p : Pl} {A : Option Addr} {xs : List Value} {P : List (List Int)} (h : Pays w g p A xs P) (hb : Below w.heap.size w w') : Pays w' g p A xs P :=
  ⟨h.1, fun r hr => by
    obtain ⟨b, c, h1, h2, h3, h4, h5⟩ := h.2 r hr
    exact ⟨b, c, h1, bytes_block h2 hb.size (hb.block b h3), Nat.lt_of_lt_of_le h3 hb.size, h4, h5⟩⟩
/-- The cells of a row of items. -/
def itv (f h : Nat → Int) (n : Nat) : List Value := (List.range n).flatMap fun i => [.int .u64 (f i), .int .u64 (h i)]
theorem itv_succ (f h : Nat → Int) (n : Nat) : itv f h (n + 1) = itv f h n ++ [.int .u64 (f n), .int .u64 (h n)] := by simp [itv, List.range_succ, List.flatMap_append]
theorem itv_len (f h : Nat → Int) (n : Nat) : (itv f h n).length = n * 2 := by
  induction n with
  | zero => rfl
  | succ n ih => rw [itv_succ, List.length_append, ih]; simp; omega
theorem itv_at (f h : Nat → Int) (n i : Nat) (hi : i < n) : (itv f h n)[i * 2]? = some (.int .u64 (f i)) ∧ (itv f h n)[i * 2 + 1]? = some (.int .u64 (h i)) := by
  induction n with
  | zero => omega
  | succ n ih =>
    rw [itv_succ]
    rcases Nat.lt_or_ge i n with h1 | h1
    · rw [List.getElem?_append_left (by rw [itv_len]; omega), List.getElem?_append_left (by rw [itv_len]; omega)]
      exact ih h1
    · obtain rfl : i = n := by omega
      rw [List.getElem?_append_right (by rw [itv_len]; omega), List.getElem?_append_right (by rw [itv_len]; omega), itv_len]
      rw [Nat.sub_self, show i * 2 + 1 - i * 2 = 1 by omega]
      exact ⟨rfl, rfl⟩
theorem own_in2 {w : World} {base n c : Nat} {A : Option Addr} {f h : Nat → Int} (ho : OwnE 147 2 w base A n c (itv f h n)) (hf : ∀ i, i < n → 0 ≤ f i ∧ f i ≤ 18446744073709551615) (hh : ∀ i, i < n → 0 ≤ h i ∧ h i ≤ 18446744073709551615) : In2 w A n f h := fun i hi => by
  obtain ⟨e1, e2⟩ := itv_at f h n i hi
  obtain ⟨b, rfl, _, hb, h0⟩ := OwnE.cell ho (i := i * 2) (by rw [itv_len]; omega)
  obtain ⟨b2, e3, _, _, h1⟩ := OwnE.cell ho (i := i * 2 + 1) (by rw [itv_len]; omega)
  injection e3 with e3
  injection e3 with e3
  subst e3
  exact ⟨b, 0, rfl, hb, by rw [Nat.zero_add, h0, e1], by rw [Nat.zero_add, h1, e2], hf i hi, hh i hi⟩
attribute [local irreducible] Mk.cells wpList Code.wp
end Go.Proofs.YtldkmobncmfodaaGreat.Nh
