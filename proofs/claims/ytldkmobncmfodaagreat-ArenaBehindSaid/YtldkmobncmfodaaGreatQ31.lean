/-
  Texts beneath the proof, one behind the other.
-/
import Derived.Test.YtldkmobncmfodaaGreatQ28
import Derived.Test.YtldkmobncmfodaaGreatQ26
import Derived.Test.YtldkmobncmfodaaGreatQ7
import Derived.Test.YtldkmobncmfodaaGreatQ29
import Derived.Test.YtldkmobncmfodaaGreatQ6

/-
  The document's writer: what an entry more makes of it, plain; rows that Append gathers beside it; Xor.
-/
namespace Go.Proofs.YtldkmobncmfodaaGreat.Nh
open Go.ChangeShapes Go.WideShapes Go.ChangeAt Go.RowKit
open Bytes8 Blk8 Own8 OwnM OwnA OwnE LeA LeNum LeB LeP RefA RefB Rows2 Ob Oc Od Oj Ga Ma Kf Mb Mc Md Me Mf Mg Fa Fb Fc Sg Dc Yc Yd Yk Na Nb Nc Nd Nf Ng Hm Ha Hb Hc Hd He Hf Se Ya Pr8 Ps8 Pl8
set_option linter.unusedVariables false
set_option linter.unusedSimpArgs false
set_option maxRecDepth 100000

/-! ## plain -/
def Mk.kn (m : Mk) (i : Nat) : Kn := m.datas.getD i ⟨[], 0, 0, 0, []⟩
/-- Behind how many of the first j an item stands whose place is x. -/
def posW (f : Nat → Nat) (x : Nat) (who : List Nat) : Nat → Nat
  | 0 => 0
  | j + 1 => if x < f (who.getD j 0) then posW f x who j else j + 1
theorem posW_le (f : Nat → Nat) (x : Nat) (who : List Nat) : ∀ j, posW f x who j ≤ j
  | 0 => Nat.le_refl _
  | j + 1 => by
    unfold posW
    split
    · exact Nat.le_trans (posW_le f x who j) (Nat.le_succ _)
    · exact Nat.le_refl _
def insW (f : Nat → Nat) (who : List Nat) (k : Nat) : List Nat := who.take (posW f (f k) who who.length) ++ k :: who.drop (posW f (f k) who who.length)
theorem insW_len (f : Nat → Nat) (who : List Nat) (k : Nat) : (insW f who k).length = who.length + 1 := by
  have := posW_le f (f k) who who.length
  unfold insW
  rw [List.length_append, List.length_cons, List.length_take, List.length_drop]
  omega
theorem insW_mem {f : Nat → Nat} {who : List Nat} {k x : Nat} (h : x ∈ insW f who k) : x = k ∨ x ∈ who := by
  unfold insW at h
  rcases List.mem_append.1 h with h | h
  · exact .inr (List.mem_of_mem_take h)
  · rcases List.mem_cons.1 h with h | h
    · exact .inl h
    · exact .inr (List.mem_of_mem_drop h)
def dataStep (s : Mk × List Nat) (q : PR) : Mk × List Nat :=
  let r := Mk.dataOf s.1 q.1 (pay q.1 q.2)
  (r.2, insW (fun i => (Mk.kn r.2 i).at_) s.2 r.1)
/-- All payloads get their objects; which they are, in the order of their places. -/
def Mk.dataAll (m : Mk) (l : List PR) : Mk × List Nat := l.foldl dataStep (m, [])
theorem dataAll_step (m : Mk) (l : List PR) (k : Nat) (h : k < l.length) : Mk.dataAll m (l.take (k + 1)) = dataStep (Mk.dataAll m (l.take k)) l[k] := by
  unfold Mk.dataAll
  rw [List.take_succ_eq_append_getElem h, List.foldl_append]
  rfl
theorem idxK_some {l : List Kn} {s : List Int} {i : Nat} (h : idxK l s = some i) : i < l.length := by
  unfold idxK at h
  exact (List.findIdx?_eq_some_iff_getElem.1 h).1
/-- What a payload's place keeps of the writer. -/
structure DKeeps (m m' : Mk) : Prop where
  C : m'.C = m.C
  main : m'.main = m.main
  n8 : m'.h.N 8 = m.h.N 8
  n9 : m'.h.N 9 = m.h.N 9
  len : m.b.length ≤ m'.b.length
  datas : m.datas.length ≤ m'.datas.length
theorem DKeeps.refl (m : Mk) : DKeeps m m := ⟨rfl, rfl, rfl, rfl, Nat.le_refl _, Nat.le_refl _⟩
theorem DKeeps.trans {a b c : Mk} (h : DKeeps a b) (k : DKeeps b c) : DKeeps a c := ⟨k.C.trans h.C, k.main.trans h.main, k.n8.trans h.n8, k.n9.trans h.n9, Nat.le_trans h.len k.len, Nat.le_trans h.datas k.datas⟩
theorem inv_dataOf {m : Mk} (h : Inv m) (nm s : List Int) (hn : AllB nm) (hnl : nm.length ≤ 64) (hs : AllB s) (hsl : s.length ≤ 400) :
    Inv (Mk.dataOf m nm s).2 ∧ (Mk.dataOf m nm s).1 < (Mk.dataOf m nm s).2.datas.length ∧ (Mk.dataOf m nm s).2.b.length ≤ m.b.length + 600 ∧ DKeeps m (Mk.dataOf m nm s).2 := by
  unfold Mk.dataOf
  cases e : idxK m.datas s with
  | some i => exact ⟨h, idxK_some e, Nat.le_add_right _ _, DKeeps.refl _⟩
  | none =>
    obtain ⟨h1, h2, h3, h4, h5, h6, h7, h8⟩ := inv_dataNew h nm s hn hnl hs hsl
    refine ⟨h1, ?_, h3, h5, h6, h7, h8, h2, ?_⟩
    · show m.datas.length < (Mk.dataNew m nm s).datas.length
      rw [h4, List.length_append, List.length_singleton]
      exact Nat.lt_succ_self _
    · show m.datas.length ≤ (Mk.dataNew m nm s).datas.length
      rw [h4, List.length_append]
      exact Nat.le_add_right _ _
theorem inv_dataAll {m : Mk} (h : Inv m) (l : List PR) (hl : ∀ q ∈ l, AllB q.1 ∧ AllB q.2 ∧ q.1.length ≤ 64 ∧ q.2.length ≤ 256) : ∀ k, k ≤ l.length →
    Inv (Mk.dataAll m (l.take k)).1 ∧ (Mk.dataAll m (l.take k)).2.length = k ∧ (∀ x ∈ (Mk.dataAll m (l.take k)).2, x < (Mk.dataAll m (l.take k)).1.datas.length) ∧ (Mk.dataAll m (l.take k)).1.b.length ≤ m.b.length + 600 * k ∧ DKeeps m (Mk.dataAll m (l.take k)).1
  | 0, _ => by
    refine ⟨h, rfl, ?_, Nat.le_refl _, DKeeps.refl _⟩
    intro x hx
    exact absurd hx (List.not_mem_nil)
  | k + 1, hk => by
    obtain ⟨h1, h2, h3, h4, h5⟩ := inv_dataAll h l hl k (by omega)
    obtain ⟨q1, q2, q3, q4⟩ := hl l[k] (List.getElem_mem _)
    have hp : (pay l[k].1 l[k].2).length ≤ 400 := by rw [Nee.pay_len]; omega
    obtain ⟨d1, d2, d3, d4⟩ := inv_dataOf h1 l[k].1 (pay l[k].1 l[k].2) q1 q3 (pay_all q1 q2) hp
    rw [dataAll_step m l k (by omega)]
    refine ⟨d1, ?_, ?_, ?_, h5.trans d4⟩
    · show (insW _ _ _).length = _
      rw [insW_len, h2]
    · intro x hx
      rcases insW_mem hx with rfl | hx
      · exact d2
      · exact Nat.lt_of_lt_of_le (h3 x hx) d4.datas
    · show (Mk.dataOf _ _ _).2.b.length ≤ _
      omega
/-- The entry's object. -/
def Mk.eobj (m : Mk) (who : List Nat) (ps : List (List Int)) (seq real mono : Int) (boot : Nat → Int) : List Int :=
  objB 3 (entB seq real mono boot ((xr ps : Nat) : Int) (prs (fun i => ((Mk.kn m (who.getD i 0)).at_ : Int)) (fun i => Mk.sum m (Mk.kn m (who.getD i 0)).text) who.length))
/-- The entry hangs at the end of all entries. -/
def Mk.linked (m : Mk) (at_ : Nat) (n : Nat) : Mk :=
  let r := Mk.link m m.main n 176 at_
  { r.1 with main := r.2.1, h := { setN r.1.h 11 ((r.2.1.getD 0 0 : Nat) : Int) with ta := ((r.2.1.getLastD 0 : Nat) : Int), ti := ((r.2.2 : Nat) : Int) } }
/-- One of its payloads has it. -/
def Mk.mark (e : Nat) (m : Mk) (j : Nat) : Mk :=
  let d := Mk.kn m j
  let r : Mk × List Nat := if d.count = 0 then ({ m with b := put8 m.b (d.at_ + 40) e }, d.arrays) else ((Mk.link m d.arrays (d.count - 1) (d.at_ + 48) e).1, (Mk.link m d.arrays (d.count - 1) (d.at_ + 48) e).2.1)
  { r.1 with b := put8 r.1.b (d.at_ + 56) ((d.count + 1 : Nat) : Int), datas := r.1.datas.set j { d with count := d.count + 1, arrays := r.2 } }
def Mk.markAll (e : Nat) (m : Mk) (who : List Nat) : Mk := who.foldl (Mk.mark e) m
theorem markAll_step (e : Nat) (m : Mk) (who : List Nat) (k : Nat) (h : k < who.length) : Mk.markAll e m (who.take (k + 1)) = Mk.mark e (Mk.markAll e m (who.take k)) who[k] := by
  unfold Mk.markAll
  rw [List.take_succ_eq_append_getElem h, List.foldl_append]
  rfl
/-- All of an entry's objects. -/
def Mk.grown (m : Mk) (l : List PR) (real mono : Int) (boot : Nat → Int) : Mk :=
  let s := Mk.dataAll m l
  let m2 := s.1.object (Mk.eobj s.1 s.2 (l.map fun q => pay q.1 q.2) (m.h.N 9 + 1) real mono boot)
  Mk.markAll s.1.b.length (Mk.linked m2 s.1.b.length (m.h.N 8).toNat) s.2
/-- What the head says of the last entry. -/
def Mk.told (m : Mk) (n : Nat) (seq real mono : Int) (boot : Nat → Int) (te : Nat) : Mk :=
  let h1 := if n = 0 then setN (setN m.h 10 seq) 12 real else m.h
  let h2 := setN h1 8 (h1.N 8 + 1)
  let h3 := setN (setN (setN h2 9 seq) 13 real) 14 mono
  { m with h := { h3 with I := fun i => if 32 ≤ i ∧ i < 48 then boot (i - 32) else h3.I i, te := (te : Int) } }
def Mk.entered (m : Mk) (l : List PR) (real mono : Int) (boot : Nat → Int) : Mk :=
  Mk.told (Mk.grown m l real mono boot) (m.h.N 8).toNat (m.h.N 9 + 1) real mono boot (Mk.dataAll m l).1.b.length
/-- The code that Append tells. -/
def Mk.acode (m : Mk) (raw : List PR) (real mono : Int) (boot : Nat → Int) : Int :=
  if listE raw ≠ 0 then listE raw else if m.h.N 9 = 18446744073709551615 then 1 else if m.C.most < (Mk.grown m (listL raw) real mono boot).b.length then 15 else 0
def Mk.after (m : Mk) (raw : List PR) (real mono : Int) (boot : Nat → Int) : Mk := if Mk.acode m raw real mono boot = 0 then Mk.entered m (listL raw) real mono boot else m

/-! ## in memory: rows beside the writer -/
structure Side (E : TypeId) (size : Nat) (w : World) (g : Nat) (p : Pl) (b0 : Nat) (A : Option Addr) (n c : Nat) (xs : List Value) : Prop where
  own : OwnE E size w b0 A n c xs
  off : ∀ k, ownB A = some k → ¬ p.foot g k
theorem Side.path {E : TypeId} {size : Nat} {w w' : World} {g : Nat} {p p' : Pl} {b0 : Nat} {A : Option Addr} {n c : Nat} {xs : List Value} (h : Side E size w g p b0 A n c xs) (k : Path g p w p' w') : Side E size w' g p' b0 A n c xs :=
  ⟨Mf.OwnE.keptF h.own k.kept h.off, fun j hj h2 => (k.foot j h2).elim (h.off j hj) (fun h3 => by have := (OwnE.ltB h.own j hj).2; omega)⟩
theorem Side.below {E : TypeId} {size : Nat} {w w' : World} {g : Nat} {p : Pl} {b0 : Nat} {A : Option Addr} {n c : Nat} {xs : List Value} (h : Side E size w g p b0 A n c xs) (hb : Below w.heap.size w w') : Side E size w' g p b0 A n c xs :=
  ⟨h.own.kept hb (Nat.le_refl _), h.off⟩
/-- Payloads as bytes, each in a block of its own. -/
def Pays (w : World) (g : Nat) (p : Pl) (A : Option Addr) (xs : List Value) (P : List (List Int)) : Prop :=
  xs.length = P.length ∧ ∀ r (h : r < P.length), ∃ b c, xs[r]? = some (.slice (some ⟨b, 0, none⟩) P[r].length c) ∧ Bytes w (some ⟨b, 0, none⟩) P[r] ∧ b < w.heap.size ∧ ¬ p.foot g b ∧ ownB A ≠ some b
theorem bytes_block {w w' : World} {b : Nat} {l : List Int} (h : Bytes w (some ⟨b, 0, none⟩) l) (hs : w.heap.size ≤ w'.heap.size) (hk : w'.heap[b]? = w.heap[b]?) : Bytes w' (some ⟨b, 0, none⟩) l :=
  ⟨h.1, fun i hi => by
    obtain ⟨b2, off, e, hlt, hc⟩ := h.2 i hi
    injection e with e
    injection e with e1 e2
    subst e1
    exact ⟨b, off, by rw [e2], Nat.lt_of_lt_of_le hlt hs, (World.cell?_of_block (a := ⟨b, off + i, none⟩) hk).trans hc⟩⟩
theorem Pays.path {w w' : World} {g : Nat} {p p' : Pl} {A : Option Addr} {xs : List Value} {P : List (List Int)} (h : Pays w g p A xs P) (k : Path g p w p' w') : Pays w' g p' A xs P :=
  ⟨h.1, fun r hr => by
    obtain ⟨b, c, h1, h2, h3, h4, h5⟩ := h.2 r hr
    exact ⟨b, c, h1, bytes_block h2 k.kept.size (k.kept.block b h3 h4), Nat.lt_of_lt_of_le h3 k.kept.size, fun h6 => (k.foot b h6).elim h4 (fun h7 => by omega), h5⟩⟩
theorem Pays.below {w w' : World} {g : Nat} {p : Pl} {A : Option Addr} {xs : List Value} {P : List (List Int)} (h : Pays w g p A xs P) (hb : Below w.heap.size w w') : Pays w' g p A xs P :=
  ⟨h.1, fun r hr => by
    obtain ⟨b, c, h1, h2, h3, h4, h5⟩ := h.2 r hr
    exact ⟨b, c, h1, bytes_block h2 hb.size (hb.block b h3), Nat.lt_of_lt_of_le h3 hb.size, h4, h5⟩⟩
/-- A payload more. -/
theorem Pays.push {w w' : World} {g : Nat} {p : Pl} {A A' : Option Addr} {xs : List Value} {P : List (List Int)} (h : Pays w g p A xs P) (hg : w.grownBy w' (ownB A)) (hA : ownB A' = ownB A ∨ ownB A' = some w.heap.size) (b c : Nat) (l : List Int) (hb : Bytes w (some ⟨b, 0, none⟩) l) (hlt : b < w.heap.size) (hp : ¬ p.foot g b) (hne : ownB A ≠ some b) :
    Pays w' g p A' (xs ++ [.slice (some ⟨b, 0, none⟩) l.length c]) (P ++ [l]) := by
  have hne' : ∀ j, j < w.heap.size → ownB A ≠ some j → ownB A' ≠ some j := fun j hj h1 h2 => by
    rcases hA with h3 | h3
    · exact h1 (h3 ▸ h2)
    · rw [h3] at h2
      injection h2 with h2
      omega
  refine ⟨by rw [List.length_append, List.length_append, h.1]; rfl, fun r hr => ?_⟩
  rw [List.length_append, List.length_singleton] at hr
  rcases Nat.lt_or_ge r P.length with h1 | h1
  · obtain ⟨b2, c2, e1, e2, e3, e4, e5⟩ := h.2 r h1
    refine ⟨b2, c2, ?_, ?_, Nat.lt_of_lt_of_le e3 hg.size, e4, hne' b2 e3 e5⟩
    · rw [List.getElem_append_left h1, List.getElem?_append_left (by rw [h.1]; exact h1), e1]
    · rw [List.getElem_append_left h1]
      exact bytes_block e2 hg.size (hg.block b2 e3 (fun e => e5 e.symm))
  · have hr2 : r = P.length := by omega
    subst hr2
    refine ⟨b, c, ?_, ?_, Nat.lt_of_lt_of_le hlt hg.size, hp, hne' b hlt hne⟩
    · rw [List.getElem_append_right (Nat.le_refl _), List.getElem?_append_right (by rw [h.1]; exact Nat.le_refl _), h.1]
      simp
    · rw [List.getElem_append_right (Nat.le_refl _)]
      simp only [Nat.sub_self, List.getElem_singleton]
      exact bytes_block hb hg.size (hg.block b hlt (fun e => hne e.symm))
theorem arr_and {w : World} {F G : Nat → Prop} {v : Value} {l : List Nat} (h : Arr w F v l) (k : Arr w G v l) : Arr w (fun b => F b ∨ G b) v l := by
  obtain ⟨A, n, c, e, hl, h⟩ := h
  obtain ⟨A2, n2, c2, e2, _, k⟩ := k
  rw [e] at e2
  injection e2 with e3 e4 e5
  subst e3
  refine ⟨A, n, c, e, hl, fun i hi => ?_⟩
  obtain ⟨b, h1, h2, h3, h4⟩ := h i hi
  obtain ⟨b2, k1, _, k3, _⟩ := k i hi
  rw [h1] at k1
  injection k1 with k1
  injection k1 with k1
  subst k1
  exact ⟨b, h1, h2, fun h => h.elim h3 k3, h4⟩
theorem arr_weak {w : World} {F G : Nat → Prop} {v : Value} {l : List Nat} (h : Arr w F v l) (hG : ∀ b, b < w.heap.size → ¬ F b → ¬ G b) : Arr w G v l := h.kept (KeptF.refl (fun _ => False) w) (fun _ _ _ h => h) hG
/-- All its arrays lie ahead of a block. -/
structure Low (w : World) (b2 : Nat) (p : Pl) (m : Mk) : Prop where
  da : ∀ q ∈ p.dl, Arr w (fun k => b2 ≤ k) q.2 q.1.arrays
  ma : Arr w (fun k => b2 ≤ k) p.M m.main
theorem At.low {w : World} {B g b2 : Nat} {p : Pl} {m : Mk} (h : At w B g p m) (hb : w.heap.size ≤ b2) : Low w b2 p m :=
  ⟨fun q hq => arr_weak (h.da q hq) fun b h1 _ h2 => absurd h1 (by omega), arr_weak h.ma fun b h1 _ h2 => absurd h1 (by omega)⟩
theorem Low.path {w w' : World} {B g b2 : Nat} {p p' : Pl} {m m' : Mk} (h : Low w b2 p m) (ha : At w B g p m) (k : Path g p w p' w') (hd : ∀ x ∈ p'.dl, x ∈ p.dl ∨ (x.2 = .slice none 0 0 ∧ x.1.arrays = [])) (hM : p'.M = p.M) (hm : m'.main = m.main) : Low w' b2 p' m' :=
  ⟨fun q hq => (hd q hq).elim (fun h1 => (arr_and (h.da q h1) (ha.da q h1)).kept k.kept (fun b _ h2 h3 => h2 (.inr (.inl h3))) (fun b _ h2 h3 => h2 (.inl h3))) (fun h1 => by rw [h1.1, h1.2]; exact Arr.nil _ _),
   by rw [hM, hm]; exact (arr_and h.ma ha.ma).kept k.kept (fun b _ h2 h3 => h2 (.inr (.inl h3))) (fun b _ h2 h3 => h2 (.inl h3))⟩
/-- A call that writes blocks behind those, none of the writer's. -/
theorem At.offA {w w' : World} {B g b2 : Nat} {p : Pl} {m : Mk} {G : Nat → Prop} (h : At w B g p m) (hl : Low w b2 p m) (hk : KeptF G w w') (hG : ∀ k, G k → b2 ≤ k ∧ ¬ p.foot g k) : At w' B g p m ∧ Low w' b2 p m := by
  have off : ∀ k, p.foot g k → ¬ G k := fun k hf hg => (hG k hg).2 hf
  refine ⟨{ st := ⟨Kf.Blk.keptF h.st.st hk (off _ (.inl rfl)), Kf.Own.keptF h.st.own hk (fun k hk' => off k (.inr (.inl (by injection hk' with e; exact e.symm)))), h.st.ne⟩
            dr := Mf.OwnE.keptF h.dr hk (fun k e => off k (.inr (.inr (.inl e))))
            fr := Mf.OwnE.keptF h.fr hk (fun k e => off k (.inr (.inr (.inr e))))
            dm := h.dm, fm := h.fm
            da := fun q hq => (arr_and (h.da q hq) (hl.da q hq)).kept hk (fun b _ h1 h2 => h1 (.inr (hG b h2).1)) (fun b _ h1 h2 => h1 (.inl h2))
            ma := (arr_and h.ma hl.ma).kept hk (fun b _ h1 h2 => h1 (.inr (hG b h2).1)) (fun b _ h1 h2 => h1 (.inl h2))
            dg := h.dg, fg := h.fg, df := h.df, gB := h.gB, fo := h.fo }, ?_⟩
  exact ⟨fun q hq => (hl.da q hq).kept hk (fun b _ h1 h2 => h1 (hG b h2).1) (fun b _ h1 h2 => h1 h2), hl.ma.kept hk (fun b _ h1 h2 => h1 (hG b h2).1) (fun b _ h1 h2 => h1 h2)⟩
theorem Path.side {w2 w w' : World} {g : Nat} {p p1 : Pl} {G : Nat → Prop} (h : Path g p w2 p1 w) (hk : KeptF G w w') (hG : ∀ k, G k → w2.heap.size ≤ k) : Path g p w2 p1 w' := ⟨h.foot, h.kept.trans hk fun i hi h2 => absurd (hG i h2) (by omega)⟩
def iv (l : List Nat) : List Value := l.map fun (x : Nat) => .int .i64 (x : Int)
theorem iv_len (l : List Nat) : (iv l).length = l.length := by simp [iv]
theorem iv_one (l : List Nat) : ∀ u ∈ iv l, u.oneCell' = true := fun u hu => by
  obtain ⟨x, _, rfl⟩ := List.mem_map.1 hu
  rfl
theorem intE : Elt 3 22 1 8 (.int .i64 0) := ⟨Tryz.underlying22, by kernel_rfl, rfl, by decide⟩
theorem rowE : Elt 25 218 1 24 (.slice none 0 0) := ⟨Tryz.underlying218, by kernel_rfl, rfl, by decide⟩
theorem itemE : Elt 147 131 2 16 (.agg #[.int .u64 0, .int .u64 0]) := ⟨Tryz.underlying131, by kernel_rfl, rfl, by decide⟩
theorem step_append_rN {E S : TypeId} {size bytes : Nat} {z : Value} (he : Elt E S size bytes z) {w : World} {ops : Array Oper} {o : Oper} {a : Act} {K : Act → World → Prop} {Q : Exit → Act → World → Prop} {F : Prop} (hgd : o.guard = none) (s x : Operand)
    (hop : o.op = .call { callee := .builtin .append, args := #[s, x], argTypes := #[S, S] })
    (base : Nat) (A : Option Addr) (n c : Nat) (xs : List Value) (hs : a.eval s = .slice A n c) (ho : OwnE E size w base A n c xs) (A2 : Option Addr) (m c2 : Nat) (news : List Value) (hx : a.eval x = .slice A2 m c2) (N : Nat) (hN : n + m = N) (hl : news.length = m * size)
    (hnews : ∀ j u, news[j]? = some u → ∃ ad, A2 = some ad ∧ w.cell? (ad.add j) = some u) (h1 : ∀ u ∈ news, u.oneCell' = true) (h63 : N ≤ 4611686018427387904) (hbytes : N * bytes ≤ 140737488355328) (hml : N ≤ maxLen)
    (h : ∀ A' c' w', OwnE E size w' base A' N c' (xs ++ news) → w.grownBy w' (ownB A) → (ownB A' = ownB A ∨ ownB A' = some w.heap.size) → K (a.put o.dst (.slice A' N c')) w') :
    if Region.wanted o (yielded ops a.tmps) = true then Oper.wp Tryz.prog o a w K Q else F := by
  subst hN
  have hw : Region.wanted o (yielded ops a.tmps) = true := by simp [Region.wanted, hgd]
  rw [if_pos hw]
  obtain ⟨A', c', w', hr, h2, h3, h4⟩ := run_append_row he w o.type base A n c xs ho A2 m c2 news hl hnews h1 h63 hbytes hml
  unfold Oper.wp execOp
  simp only [hop, resolve, invoke, builtin, Sem.run_bind, Sem.run_pure, Result.andThen_ok, List.map_toArray, List.map_cons, List.map_nil, hs, hx, hr]
  exact h A' c' w' h2 h3 h4
theorem ownE_cap {E : TypeId} {size : Nat} {w : World} {base n c : Nat} {A : Option Addr} {xs : List Value} (h : OwnE E size w base A n c xs) : n ≤ c := by
  rcases h.2.2 with ⟨he, h0⟩ | ⟨g, cap, cur, he, _, _, hnc, _⟩
  · injection he with e1 e2 e3
    omega
  · injection he with e1 e2 e3
    omega
theorem ownE_base {E : TypeId} {size : Nat} {w : World} {b b2 n c : Nat} {A : Option Addr} {xs : List Value} (h : OwnE E size w b A n c xs) (hb : b2 ≤ b) : OwnE E size w b2 A n c xs := by
  refine ⟨Nat.le_trans hb h.1, h.2.1, ?_⟩
  rcases h.2.2 with h1 | ⟨g, cap, cur, h1, h2, h3, h4⟩
  · exact .inl h1
  · exact .inr ⟨g, cap, cur, h1, Nat.le_trans hb h2, h3, h4⟩
theorem intI : (Tryz.prog.info? 3).map (fun i => (i.zero, i.size, i.bytes)) = some (some (.int .i64 0), 1, 8) := by kernel_rfl
theorem sizeofI (w : World) : (sizeOf 3).run Tryz.prog w = .ok 1 w := by
  obtain ⟨i, hi, hzz⟩ := Option.map_eq_some_iff.1 intI
  simp only [Prod.mk.injEq] at hzz
  simp [sizeOf, typeInfo, hi, hzz]
theorem elemI : Tryz.prog.elem 22 = 3 := by kernel_rfl
theorem icut_h (A : Option Addr) (len cap hi : Nat) (h2 : hi ≤ cap) (w : World) :
    (Instr.slice 22 (.slice A len cap) none (some (.int .i64 hi)) none).run Tryz.prog w = .ok (.slice A hi cap) w := by
  rw [run_slice_h w _ A len cap (by rw [elemI]; exact Tryz.underlying22) .i64 hi (by omega) (by omega), elemI, sizeofI]
  cases A with
  | none => simp [Result.andThen, sliced]
  | some a => simp [Result.andThen, sliced, Addr.add]
theorem icut_l (A : Option Addr) (len cap lo : Nat) (h1 : lo ≤ len) (w : World) :
    (Instr.slice 22 (.slice A len cap) (some (.int .i64 lo)) none none).run Tryz.prog w = .ok (.slice (cutA A cap lo) (len - lo) (cap - lo)) w :=
  sliced_low _ A len cap lo w (by rw [elemI]; exact sizeofI w) (by rw [elemI]; exact Tryz.underlying22) h1
theorem take_news {w : World} {base n c a : Nat} {A : Option Addr} {l : List Nat} (h : OwnE 3 1 w base A n c (iv l)) (ha : a ≤ n) : (iv (l.take a)).length = a * 1 ∧ ∀ j u, (iv (l.take a))[j]? = some u → ∃ ad, A = some ad ∧ w.cell? (ad.add j) = some u := by
  obtain ⟨h1, h2⟩ := own_news h
  rw [iv_len] at h1
  refine ⟨by rw [iv_len, List.length_take]; omega, fun j u hj => h2 j u ?_⟩
  unfold iv at hj ⊢
  rw [List.getElem?_map] at hj ⊢
  obtain ⟨x, hx, rfl⟩ := Option.map_eq_some_iff.1 hj
  rw [List.getElem?_take] at hx
  split at hx
  · rw [hx]; rfl
  · cases hx
theorem drop_news {w : World} {base n c a : Nat} {A : Option Addr} {l : List Nat} (h : OwnE 3 1 w base A n c (iv l)) (ha : a ≤ n) : (iv (l.drop a)).length = (n - a) * 1 ∧ ∀ j u, (iv (l.drop a))[j]? = some u → ∃ ad, cutA A c a = some ad ∧ w.cell? (ad.add j) = some u := by
  obtain ⟨h1, h2⟩ := own_news h
  rw [iv_len] at h1
  refine ⟨by rw [iv_len, List.length_drop]; omega, fun j u hj => ?_⟩
  have hlt : j < (l.drop a).length := by
    have := (List.getElem?_eq_some_iff.1 hj).1
    rw [iv_len] at this
    exact this
  rw [List.length_drop] at hlt
  have hcap := ownE_cap h
  have hj2 : (iv l)[a + j]? = some u := by
    rw [← hj]
    unfold iv
    rw [List.getElem?_map, List.getElem?_map, List.getElem?_drop]
  obtain ⟨b, rfl, _, _, hc⟩ := OwnE.cell h (List.getElem?_eq_some_iff.1 hj2).1
  refine ⟨⟨b, a, none⟩, ?_, ?_⟩
  · rw [cutA_some, if_neg (by omega), Nat.zero_add]
  · rw [add_none, hc, hj2]
theorem empty_int (w : World) (base : Nat) (h : base ≤ w.heap.size) : OwnE 3 1 (w.alloc (.cells #[] 3)) base (some ⟨w.heap.size, 0, none⟩) 0 0 [] :=
  ⟨Nat.le_trans h (by simp), World.ownsRow_lit w #[] 0 h (by decide) rfl⟩
theorem own_int {w : World} {base n c : Nat} {A : Option Addr} {l : List Nat} (h : OwnE 3 1 w base A n c (iv l)) (i : Nat) (hi : i < l.length) : ∃ b, A = some ⟨b, 0, none⟩ ∧ w.cell? ⟨b, i, none⟩ = some (.int .i64 ((l.getD i 0 : Nat) : Int)) := by
  obtain ⟨b, e, h1, h2, h3⟩ := h.cell (i := i) (by rw [iv_len]; exact hi)
  refine ⟨b, e, h3.trans ?_⟩
  simp [iv, List.getD_eq_getElem?_getD, List.getElem?_eq_getElem hi]
/-- The cells of a row of items. -/
def itv (f h : Nat → Int) (n : Nat) : List Value := (List.range n).flatMap fun i => [.int .u64 (f i), .int .u64 (h i)]
theorem itv_succ (f h : Nat → Int) (n : Nat) : itv f h (n + 1) = itv f h n ++ [.int .u64 (f n), .int .u64 (h n)] := by simp [itv, List.range_succ, List.flatMap_append]
theorem itv_len (f h : Nat → Int) (n : Nat) : (itv f h n).length = n * 2 := by
  induction n with
  | zero => rfl
  | succ n ih => rw [itv_succ, List.length_append, ih]; simp; omega
theorem itv_at (f h : Nat → Int) (n i : Nat) (hi : i < n) : (itv f h n)[i * 2]? = some (.int .u64 (f i)) ∧ (itv f h n)[i * 2 + 1]? = some (.int .u64 (h i)) := by
  induction n with
  | zero => omega
  | succ n ih =>
    rw [itv_succ]
    rcases Nat.lt_or_ge i n with h1 | h1
    · rw [List.getElem?_append_left (by rw [itv_len]; omega), List.getElem?_append_left (by rw [itv_len]; omega)]
      exact ih h1
    · obtain rfl : i = n := by omega
      rw [List.getElem?_append_right (by rw [itv_len]; omega), List.getElem?_append_right (by rw [itv_len]; omega), itv_len]
      rw [Nat.sub_self, show i * 2 + 1 - i * 2 = 1 by omega]
      exact ⟨rfl, rfl⟩
theorem own_in2 {w : World} {base n c : Nat} {A : Option Addr} {f h : Nat → Int} (ho : OwnE 147 2 w base A n c (itv f h n)) (hf : ∀ i, i < n → 0 ≤ f i ∧ f i ≤ 18446744073709551615) (hh : ∀ i, i < n → 0 ≤ h i ∧ h i ≤ 18446744073709551615) : In2 w A n f h := fun i hi => by
  obtain ⟨e1, e2⟩ := itv_at f h n i hi
  obtain ⟨b, rfl, _, hb, h0⟩ := OwnE.cell ho (i := i * 2) (by rw [itv_len]; omega)
  obtain ⟨b2, e3, _, _, h1⟩ := OwnE.cell ho (i := i * 2 + 1) (by rw [itv_len]; omega)
  injection e3 with e3
  injection e3 with e3
  subst e3
  exact ⟨b, 0, rfl, hb, by rw [Nat.zero_add, h0, e1], by rw [Nat.zero_add, h1, e2], hf i hi, hh i hi⟩
attribute [local irreducible] Mk.cells wpList Code.wp
set_option maxHeartbeats 1000000 in
theorem rxor_any (b0 n cap g : Nat) (p : Pl) (A : Option Addr) (xs : List Value) (P : List (List Int)) (w : World) (ho : OwnE 25 1 w b0 A n cap xs) (h : Pays w g p A xs P) (hn : n ≤ 1000000) (hL : ∀ l ∈ P, l.length ≤ 800000) :
    Calls Tryz.prog 127 #[.slice A n cap] w fun e w' => e = .returned (.int .u64 ((xr P : Nat) : Int)) ∧ w = w' := by
  have hPn : P.length = n := by have := ho.len; rw [h.1, Nat.mul_one] at this; exact this
  obtain ⟨Pf, hPf⟩ : ∃ f : Nat → List Int, ∀ i, f i = P.getD i [] := ⟨_, fun i => rfl⟩
  have HP : rowsL Pf n = P := by
    apply List.ext_getElem
    · simp [rowsL, hPn]
    · intro i h1 h2; simp [rowsL, hPf, List.getD_eq_getElem?_getD, List.getElem?_eq_getElem h2]
  have HO := Lib.hid ho
  have HR := Lib.hid h
  have HN := Lib.hid hPn
  have HP := Lib.hid HP
  clear h ho hPn
  go_enter Tryz.func127, Tryz.ntmps127
  go_wp2
  go_loopw [3, 4] (fun s i wr => ∃ k : Nat, k ≤ n ∧ i = .int .i64 (k : Int) ∧ s = .int .u64 ((xr (rowsL Pf k) : Nat) : Int) ∧ wr = w) (fun _ i _ => n - (intOf i).toNat)
  case atStart => exact ⟨0, Nat.zero_le _, rfl, rfl, rfl⟩
  case round =>
    obtain ⟨k, hk, rfl, rfl, rfl⟩ := hrel
    by_cases hlt : k < n
    · obtain ⟨b, c, e1, e2, e3, e4, e5⟩ := HR.out.2 k (by rw [HN.out]; exact hlt)
      obtain ⟨b2, rfl, _, _, hc⟩ := HO.out.cell (i := k) (by rw [HR.out.1, HN.out]; exact hlt)
      rw [e1] at hc
      have hgd : P[k]'(by rw [HN.out]; exact hlt) = Pf k := by rw [hPf, List.getD_eq_getElem?_getD, List.getElem?_eq_getElem (by rw [HN.out]; exact hlt)]; rfl
      have hLk := hL _ (List.getElem_mem (by rw [HN.out]; exact hlt : k < P.length))
      rw [hgd] at hc e2 hLk
      have HLook := Lib.hid (rlook_all (some ⟨b, 0, none⟩) (Pf k) _ c wr e2 rfl hLk)
      have HX := Lib.hid (xr_bits Pf k)
      clear e1 e2 hgd
      generalize Pf k = q at *
      go_wp2_with (first | (go_at_call 131; (with_reducible refine HLook.out.mono ?_); rintro e w2 ⟨rfl, rfl⟩) | fail)
      go_roundw
      case rel => exact ⟨k + 1, by omega, by go_num, by rw [HX.out], trivial⟩
      case measure => simp [intOf]; omega
    · obtain rfl : k = n := by omega
      go_wp2
      go_ret
      refine ⟨?_, rfl⟩
      rw [HP.out]
      rfl
end Go.Proofs.YtldkmobncmfodaaGreat.Nh

/-
  The document's writer in memory: its head's other cells set.
-/
namespace Go.Proofs.YtldkmobncmfodaaGreat.Nk
open Go.ChangeShapes Go.WideShapes Go.ChangeAt Go.RowKit
open Bytes8 Blk8 Own8 OwnM OwnA OwnE LeA LeNum LeB LeP RefA RefB Rows2 Ob Oc Od Oj Ga Ma Kf Mb Mc Md Me Mf Mg Fa Fb Fc Sg Dc Yc Yd Yk Na Nb Nc Nd Nf Ng Nh
set_option linter.unusedVariables false
set_option linter.unusedSimpArgs false
set_option maxRecDepth 100000

theorem at_head (m m' : Mk) (S : Sl) (j : Nat) (hC : m.C = m'.C) (hd : m.depth = m'.depth) (h : 52 ≤ j → j < 142 → m'.h.at_ 20 (j - 52) = m.h.at_ 20 (j - 52)) : Mk.at_ m' S j = Mk.at_ m S j := by
  unfold Mk.at_
  by_cases h1 : j < 142
  · rw [if_pos h1, if_pos h1]
    by_cases h2 : j < 52
    · rw [if_pos h2, if_pos h2, hC]
    · rw [if_neg h2, if_neg h2, h (by omega) h1]
  · rw [if_neg h1, if_neg h1, hd]
theorem set_ta (m : Mk) (S : Sl) (v : Int) : (Mk.cells m S).set 139 (.int .u32 v) = Mk.cells { m with h := { m.h with ta := v } } S :=
  set_map _ _ _ _ _ rfl fun j hj => at_head _ _ _ _ rfl rfl fun h1 h2 => by
    unfold HD.at_
    repeat' split
    all_goals first | rfl | (exfalso; omega)
theorem set_ti (m : Mk) (S : Sl) (v : Int) : (Mk.cells m S).set 140 (.int .u32 v) = Mk.cells { m with h := { m.h with ti := v } } S :=
  set_map _ _ _ _ _ rfl fun j hj => at_head _ _ _ _ rfl rfl fun h1 h2 => by
    unfold HD.at_
    repeat' split
    all_goals first | rfl | (exfalso; omega)
theorem set_te (m : Mk) (S : Sl) (v : Int) : (Mk.cells m S).set 141 (.int .u64 v) = Mk.cells { m with h := { m.h with te := v } } S :=
  set_map _ _ _ _ _ rfl fun j hj => at_head _ _ _ _ rfl rfl fun h1 h2 => by
    unfold HD.at_
    repeat' split
    all_goals first | rfl | (exfalso; omega)
theorem get_ta (m : Mk) (S : Sl) : (Mk.cells m S)[139]? = some (.int .u32 m.h.ta) := by rw [Mk.get m S _ (by decide)]; rfl
theorem get_ti (m : Mk) (S : Sl) : (Mk.cells m S)[140]? = some (.int .u32 m.h.ti) := by rw [Mk.get m S _ (by decide)]; rfl
theorem get_te (m : Mk) (S : Sl) : (Mk.cells m S)[141]? = some (.int .u64 m.h.te) := by rw [Mk.get m S _ (by decide)]; rfl
variable {w w' : World} {B g : Nat} {p p' : Pl} {m m' : Mk}
theorem At.cta (h : At w B g p m) : w.cell? ⟨g, 139, none⟩ = some (.int .u32 m.h.ta) := h.st.st.cell (get_ta _ _)
theorem At.cti (h : At w B g p m) : w.cell? ⟨g, 140, none⟩ = some (.int .u32 m.h.ti) := h.st.st.cell (get_ti _ _)
theorem At.cte (h : At w B g p m) : w.cell? ⟨g, 141, none⟩ = some (.int .u64 m.h.te) := h.st.st.cell (get_te _ _)
theorem At.head1 (h : At w B g p m) (i : Nat) (v : Value) (hd : HD) (e : ∀ S, (Mk.cells m S).set i v = Mk.cells { m with h := hd } S) : At (w.setCell ⟨g, i, none⟩ v) B g p { m with h := hd } :=
  Nd.At.struct (S' := 0) (v := .bool true) h i v ⟨by have := h.st.st.set_ i v; rw [e] at this; exact this, own_set1 h.st.own h.st.ne _ _, h.st.ne⟩ rfl rfl rfl
theorem At.setTa (h : At w B g p m) (v : Int) : At (w.setCell ⟨g, 139, none⟩ (.int .u32 v)) B g p { m with h := { m.h with ta := v } } := At.head1 h _ _ _ fun S => set_ta m S v
theorem At.setTi (h : At w B g p m) (v : Int) : At (w.setCell ⟨g, 140, none⟩ (.int .u32 v)) B g p { m with h := { m.h with ti := v } } := At.head1 h _ _ _ fun S => set_ti m S v
theorem At.setTe (h : At w B g p m) (v : Int) : At (w.setCell ⟨g, 141, none⟩ (.int .u64 v)) B g p { m with h := { m.h with te := v } } := At.head1 h _ _ _ fun S => set_te m S v
/-- Another chain of all entries. -/
theorem At.setM (h : At w B g p m) (v : Value) (l : List Nat) (hv : Arr w (p.away B g) v l) : At (w.setCell ⟨g, 146, none⟩ v) B g { p with M := v } { m with main := l } ∧ Path g p w { p with M := v } (w.setCell ⟨g, 146, none⟩ v) := by
  have hk := (KeptF.refl (p.foot g) w).setCell (p := ⟨g, 146, none⟩) (fun _ => Or.inl rfl) v
  refine ⟨h.turn (p' := { p with M := v }) hk (fun _ h => .inl h) ?_ (Mf.OwnE.keptF h.dr (KeptF.set1 w g 146 v) fun j hj e => (h.dg j hj).1 e) (Mf.OwnE.keptF h.fr (KeptF.set1 w g 146 v) fun j hj e => (h.fg j hj).1 e) h.dm h.fm (fun q hq => .inl hq) (.inr (hv.kept hk (fun _ _ h h2 => h (.inl h2)) fun _ _ h => h)) h.dg h.fg h.df (fun q hq => .inl hq), ⟨fun _ h => .inl h, hk⟩⟩
  have := h.st.st.set_ 146 v
  rw [Mk.set_m] at this
  exact MkB.same (m := m) (m' := { m with main := l }) (S := { p.S with m := v }) ⟨this, own_set1 h.st.own h.st.ne _ _, h.st.ne⟩ rfl rfl rfl rfl
end Go.Proofs.YtldkmobncmfodaaGreat.Nk
