/-
  Texts beneath the proof, one behind the other.
-/
import Derived.Test.YtbfogcfgcoljkaaSl
import Derived.Deep.CutBlock
import Derived.Deep.RegionLaw
import Derived.Test.YtbfogcfgcoljkaaQ6
import Derived.Test.YtbfogcfgcoljkaaQ4
import Derived.Test.YtbfogcfgcoljkaaQ5
import Derived.Test.YtbfogcfgcoljkaaQ2

/-
  The program's rows of pairs, sorted: what the library's sort makes of them (its contract: the shelf's).
-/
namespace Go.Proofs.Ytbfogcfgcoljkaa.Qg
open Go.ChangeShapes Go.WideShapes Go.ChangeAt Go.RowKit Go.Lib Go.Sort Go.Shelf
open Bytes8 Blk8 Own8 OwnE Fa Fb Fo Pr8 Qa Qf
open Ps8 (own_block)
set_option linter.unusedVariables false
set_option maxRecDepth 100000
set_option linter.unusedSimpArgs false

abbrev RQ := { p : PR // okQ p }
theorem okE : okQ ([], []) := ⟨(fun x hx => by cases hx), (fun x hx => by cases hx)⟩
instance : Inhabited RQ := ⟨⟨([], []), okE⟩⟩
def encQ (x : RQ) : List Value := [.string (T x.1.1), .string (T x.1.2)]
def cfQ (x y : RQ) : Int := cmpN x.1 y.1
theorem ltQ (x y : RQ) : ltOf cfQ x y = ltN x.1 y.1 := cmpN_lt x.2 y.2
theorem swoQ : Go.Sort.SWO (ltOf cfQ) where
  irrefl x := by rw [ltQ]; exact ltN_irrefl _
  trans x y z h1 h2 := by rw [ltQ] at *; exact ltN_trans h1 h2
  ntrans x y z h1 h2 := by
    rw [ltQ] at *
    cases h : ltN x.1 z.1 with
    | false => rfl
    | true =>
      cases hyx : ltN y.1 x.1 with
      | true => rw [show ltN y.1 z.1 = true from ltN_trans hyx h] at h2; cases h2
      | false =>
        have e := ltN_total h1 hyx
        rw [e] at h
        rw [h] at h2; cases h2
theorem totQ (x y : RQ) (h : ltOf cfQ x y = false) (k : ltOf cfQ y x = false) : x = y := by
  rw [ltQ] at h k
  exact Subtype.ext (ltN_total h k)
theorem cmpQ (blk off size : Nat) (w : World) : CmpLays Try.prog 43 #[] encQ 2 cfQ blk off size w := fun m os dk _ x y => cmpalts_any x.1 y.1 _
/-- Those pairs, with that they are of bytes. -/
def withQ : (l : List PR) → (∀ p ∈ l, okQ p) → List RQ
  | [], _ => []
  | p :: l, h => ⟨p, h p (by simp)⟩ :: withQ l (fun q hq => h q (by simp [hq]))
theorem withQ_val : ∀ (l : List PR) (h : ∀ p ∈ l, okQ p), (withQ l h).map Subtype.val = l
  | [], _ => rfl
  | p :: l, h => by simp [withQ, withQ_val l]
theorem withQ_len (l : List PR) (h : ∀ p ∈ l, okQ p) : (withQ l h).length = l.length := by
  conv => rhs; rw [← withQ_val l h]
  rw [List.length_map]
theorem withQ_sort (l : List PR) (h : ∀ p ∈ l, okQ p) : ((withQ l h).mergeSort fun x y => !ltOf cfQ y x).map Subtype.val = sortN l := by
  unfold sortN
  conv => rhs; rw [← withQ_val l h]
  refine List.map_mergeSort fun a _ b _ => ?_
  rw [ltQ]
theorem heap_sortWorld {α : Type} [Inhabited α] (enc : α → List Value) (k : Nat) (w : World) (blk off m : Nat) (d : Array α) (os : Array Obj) {j : Nat} (hj : j < w.heap.size) (hne : j ≠ blk) : (sortWorldK enc k w blk off m d os).heap[j]? = w.heap[j]? := by
  unfold sortWorldK putRowK
  rw [Go.Sort.heap_grow_old _ _ (by simpa [Go.Sort.putRow, Go.Sort.mapBlock] using hj)]
  simp only [Go.Sort.putRow, Go.Sort.mapBlock, Array.getElem?_modify]
  rw [if_neg (by omega)]
  rfl

/-- The row stays the call's own, sorted. -/
theorem sort_any (g n c base : Nat) (l : List PR) (w : World) (hO : OwnP w base (some ⟨g, 0, none⟩) n c l) (hmax : n ≤ 100000) :
    Calls Try.prog 42 #[.slice (some ⟨g, 0, none⟩) n c, .func (.func 43) #[] #[]] w fun e w' => e = .returned (.tuple #[]) ∧ OwnP w' base (some ⟨g, 0, none⟩) n c (sortN l) ∧ Below base w w' := by
  obtain ⟨hbase, cur, hg, ht⟩ := own_block hO
  have hlen := hO.2.1
  have hR : ∀ p ∈ l, okQ p := fun p hp => ⟨(hO.1 p hp).1, (hO.1 p hp).2.1⟩
  have hgl : g < w.heap.size := by
    rcases Nat.lt_or_ge g w.heap.size with h | h
    · exact h
    · rw [Array.getElem?_eq_none h] at hg; cases hg
  have hk : ∀ x, (encQ x).length = 2 := fun _ => rfl
  have h1 : ∀ x, ∀ v ∈ encQ x, v.oneCell' = true := fun x v hv => by
    simp [encQ] at hv; rcases hv with rfl | rfl <;> rfl
  let d : Array RQ := (withQ l hR).toArray
  have hds : d.size = n := by show (withQ l hR).toArray.size = n; rw [List.size_toArray, withQ_len, hlen]
  have hdv : ∀ i, i < n → (d[i]!).1 = l.getD i nil2 := fun i hi => by
    have e := withQ_val l hR
    have hi' : i < (withQ l hR).length := by rw [withQ_len, hlen]; exact hi
    have : d[i]! = (withQ l hR)[i] := by
      show (withQ l hR).toArray[i]! = _
      rw [getElem!_pos _ i (by simpa using hi')]
      simp
    rw [this]
    conv => rhs; rw [← e]
    rw [List.getD_eq_getElem?_getD, List.getElem?_map, List.getElem?_eq_getElem hi']
    rfl
  have hH : HoldsK encQ 2 w g 0 d := by
    intro j hj
    rw [size_flatK, hds] at hj
    rw [get_flatK _ _ _ _ (by rw [hds]; exact hj)]
    refine ⟨?_, ?_⟩
    · have hi : j / 2 < n := by omega
      have hc := cellsP_at l (j / 2) (by omega)
      have hcell : w.cell? ⟨g, 0 + j, none⟩ = (cellsP l)[j]? := by
        simp only [World.cell?, hg, Nat.zero_add]
        rw [← ht, List.getElem?_take_of_lt (by omega), Array.getElem?_toList]
        rfl
      rw [hcell]
      unfold encQ
      rw [hdv _ hi]
      rcases Nat.mod_two_eq_zero_or_one j with hm | hm
      · have h2 : j / 2 * 2 = j := by omega
        rw [hm]
        have := hc.1
        rw [h2] at this
        simpa using this
      · have h2 : j / 2 * 2 + 1 = j := by omega
        rw [hm]
        have := hc.2
        rw [h2] at this
        simpa using this
    · simp [World.frozen?, hg]
  have hsort := AnyQ.slices_SortFunc_total Try.sortPr 2 Try.isAgg45 Try.sizeOf45 encQ hk h1 cfQ swoQ 43 #[] g 0 c d w (enters_of Try.func43 (by kernel_rfl) rfl) (cmpQ g 0 d.size w) hH hgl (by rw [hds]; omega) totQ
  rw [hds] at hsort
  change Calls Try.prog 42 _ _ _ at hsort
  refine hsort.mono fun e w' ⟨he, q, os, hw⟩ => ⟨he, ?_, ?_⟩
  · subst hw
    have hs : ((d.toList.mergeSort fun x y => !(ltOf cfQ) y x).toArray).size = d.size := by simp
    have hH2 := holdsK_sortWorldK_c encQ 2 w g 0 d _ q os hH hgl hs
    refine ⟨fun p hp => hO.1 p ((sortN_mem l p).1 hp), by rw [sortN_len, hlen], ?_⟩
    obtain ⟨hb0, hl0, hor⟩ := hO.2.2
    rcases hor with ⟨he0, _⟩ | ⟨g', cap', cur', hv, hbg, hg', hnc, hcm, hsz, ht'⟩
    · cases he0
    · injection hv with hv1 hv2 hv3
      injection hv1 with hv1
      injection hv1 with hv1
      subst hv1; subst hv3
      obtain rfl : cur' = cur := by rw [hg] at hg'; injection hg' with hg'; injection hg' with hg'; exact hg'.symm
      obtain ⟨cur2, hg2, hs2⟩ : ∃ cur2, (sortWorldK encQ 2 w g 0 q (d.toList.mergeSort fun x y => !(ltOf cfQ) y x).toArray os).heap[g]? = some (.cells cur2 45 (0, 0)) ∧ cur2.size = cur'.size := by
        unfold sortWorldK putRowK
        rw [Go.Sort.heap_grow_old _ _ (by simpa [Go.Sort.putRow, Go.Sort.mapBlock] using hgl)]
        simp only [Go.Sort.putRow, Go.Sort.mapBlock, Array.getElem?_modify]
        refine ⟨putCells (fun v => v) 0 (flatK encQ 2 (d.toList.mergeSort fun x y => !(ltOf cfQ) y x).toArray) cur', ?_, ?_⟩
        · rw [if_pos trivial]
          show Option.map _ w.heap[g]? = _
          rw [hg]
          rfl
        · simp [putCells]
      have hcell : ∀ j, j < n * 2 → cur2.toList[j]? = (cellsP (sortN l))[j]? := fun j hj => by
        have hi : j / 2 < n := by omega
        have hval : (((d.toList.mergeSort fun x y => !(ltOf cfQ) y x).toArray)[j / 2]!).1 = (sortN l).getD (j / 2) nil2 := by
          have e := withQ_sort l hR
          have hl2 : j / 2 < (d.toList.mergeSort fun x y => !(ltOf cfQ) y x).length := by
            rw [List.length_mergeSort]; show j / 2 < (withQ l hR).length; rw [withQ_len, hlen]; exact hi
          rw [getElem!_pos _ (j / 2) (by simpa using hl2)]
          rw [List.getElem_toArray, ← e]
          rw [List.getD_eq_getElem?_getD, List.getElem?_map]
          show _ = (Option.map Subtype.val (d.toList.mergeSort fun x y => !(ltOf cfQ) y x)[j / 2]?).getD nil2
          rw [List.getElem?_eq_getElem hl2]
          rfl
        have c0 := hH2.cell (i := j / 2) (c := j % 2) (by rw [hs, hds]; exact hi) (by omega)
        have ec := c0.1
        simp only [World.cell?, hg2] at ec
        have hcp := cellsP_at (sortN l) (j / 2) (by rw [sortN_len]; omega)
        unfold encQ at ec
        rw [hval] at ec
        rcases Nat.mod_two_eq_zero_or_one j with hm | hm
        · have h2 : j / 2 * 2 = j := by omega
          rw [h2] at hcp
          rw [hm] at ec
          rw [hcp.1, Array.getElem?_toList]
          simpa [h2] using ec
        · have h2 : j / 2 * 2 + 1 = j := by omega
          rw [h2] at hcp
          rw [hm] at ec
          rw [hcp.2, Array.getElem?_toList]
          simpa [h2] using ec
      have hlc := cellsP_len (sortN l)
      rw [sortN_len, hlen] at hlc
      refine ⟨Nat.le_trans hb0 (size_sortWorldK_c encQ 2 w g 0 q _ os), hlc, .inr ⟨g, _, cur2, rfl, hbg, hg2, hnc, hcm, by rw [hs2]; exact hsz, ?_⟩⟩
      have hlen2 : (cur2.toList.take (n * 2)).length = n * 2 := by
        rw [List.length_take, Array.length_toList, hs2, hsz]
        exact Nat.min_eq_left (Nat.mul_le_mul_right 2 hnc)
      refine List.ext_getElem? fun j => ?_
      rcases Nat.lt_or_ge j (n * 2) with hj | hj
      · rw [List.getElem?_take_of_lt hj]; exact hcell j hj
      · rw [List.getElem?_eq_none (by omega), List.getElem?_eq_none (by omega)]
  · subst hw
    refine ⟨rfl, rfl, rfl, size_sortWorldK_c encQ 2 w g 0 q _ os, fun j hj => ?_⟩
    exact heap_sortWorld _ _ _ _ _ _ _ _ (by omega) (by omega)
end Go.Proofs.Ytbfogcfgcoljkaa.Qg

/-
  A row of a match under way, in memory.
-/
namespace Go.Proofs.Ytbfogcfgcoljkaa.Qj
open Go.ChangeShapes Go.WideShapes Go.ChangeAt Go.RowKit
open Bytes8 Blk8 Own8 OwnM OwnE OwnA Dc Fa Fb Fo Pr8 Pv8 Qa Qb Qd
set_option linter.unusedVariables false
set_option maxRecDepth 100000
set_option linter.unusedSimpArgs false

theorem altElt : Elt 50 48 2 40 (.agg #[.string { data := #[] }, .slice none 0 0]) := ⟨Try.underlying48, by kernel_rfl, rfl, by decide⟩
theorem rowElt : Elt 48 23 1 24 (.slice none 0 0) := ⟨Try.underlying23, by kernel_rfl, rfl, by decide⟩

/-! ## what stands in blocks of a kind -/
def TxF (F : Nat → Prop) (w : World) (a : Option Addr) (vs : List TX) : Prop :=
  ∀ i, i < vs.length → ∃ b off, a = some ⟨b, off, none⟩ ∧ F b ∧ b < w.heap.size ∧ w.cell? ⟨b, off + i, none⟩ = some (.string (T (vs.getD i [])))
def AlF (F : Nat → Prop) (w : World) (a : Option Addr) (l : RW) : Prop :=
  ∀ i, i < l.length → ∃ b off A c, a = some ⟨b, off, none⟩ ∧ F b ∧ b < w.heap.size ∧ w.cell? ⟨b, off + i * 2, none⟩ = some (.string (T (l.getD i nilA).1)) ∧ w.cell? ⟨b, off + i * 2 + 1, none⟩ = some (.slice A (l.getD i nilA).2.length c) ∧ TxF F w A (l.getD i nilA).2
theorem TxF.kept {F G : Nat → Prop} {w w' : World} {a : Option Addr} {vs : List TX} (h : TxF F w a vs) (hs : w.heap.size ≤ w'.heap.size) (hk : ∀ b, F b → b < w.heap.size → w'.heap[b]? = w.heap[b]?) (hG : ∀ b, F b → b < w.heap.size → G b) : TxF G w' a vs := fun i hi => by
  obtain ⟨b, off, e, hf, h1, h2⟩ := h i hi
  exact ⟨b, off, e, hG b hf h1, Nat.lt_of_lt_of_le h1 hs, (World.cell?_of_block (a := ⟨b, off + i, none⟩) (hk b hf h1)).trans h2⟩
theorem AlF.kept {F G : Nat → Prop} {w w' : World} {a : Option Addr} {l : RW} (h : AlF F w a l) (hs : w.heap.size ≤ w'.heap.size) (hk : ∀ b, F b → b < w.heap.size → w'.heap[b]? = w.heap[b]?) (hG : ∀ b, F b → b < w.heap.size → G b) : AlF G w' a l := fun i hi => by
  obtain ⟨b, off, A, c, e, hf, h1, h2, h3, h4⟩ := h i hi
  exact ⟨b, off, A, c, e, hG b hf h1, Nat.lt_of_lt_of_le h1 hs, (World.cell?_of_block (a := ⟨b, off + i * 2, none⟩) (hk b hf h1)).trans h2, (World.cell?_of_block (a := ⟨b, off + i * 2 + 1, none⟩) (hk b hf h1)).trans h3, h4.kept hs hk hG⟩
theorem TxF.txts {F : Nat → Prop} {w : World} {a : Option Addr} {vs : List TX} (h : TxF F w a vs) : Txts w a vs := fun i hi => by
  obtain ⟨b, off, e, _, h1, h2⟩ := h i hi
  exact ⟨b, off, e, h1, h2⟩
theorem AlF.als {F : Nat → Prop} {w : World} {a : Option Addr} {l : RW} (h : AlF F w a l) : Als w a l := fun i hi => by
  obtain ⟨b, off, A, c, e, _, h1, h2, h3, h4⟩ := h i hi
  exact ⟨b, off, A, c, e, h1, h2, h3, h4.txts⟩
theorem AlF.nil (F : Nat → Prop) (w : World) (a : Option Addr) : AlF F w a [] := fun i hi => absurd hi (by simp)
theorem TxF.nil (F : Nat → Prop) (w : World) (a : Option Addr) : TxF F w a [] := fun i hi => absurd hi (by simp)
theorem grown_keeps {w w' : World} {row : Option Nat} (h : w.grownBy w' row) {b : Nat} (hb : b < w.heap.size) (hne : row ≠ some b) : w'.heap[b]? = w.heap[b]? := h.block b hb (fun e => hne e.symm)

/-! ## a row under way -/
abbrev VC := Option Addr × Nat
def cellsA : RW → List VC → List Value
  | a :: r, v :: V => .string (T a.1) :: .slice v.1 a.2.length v.2 :: cellsA r V
  | _, _ => []
theorem cellsA_len : ∀ (r : RW) (V : List VC), V.length = r.length → (cellsA r V).length = r.length * 2
  | [], [], _ => rfl
  | a :: r, v :: V, h => by
    have := cellsA_len r V (by simpa using h)
    simp [cellsA, this]; omega
  | [], _ :: _, h => by cases h
  | _ :: _, [], h => by cases h
theorem cellsA_at : ∀ (r : RW) (V : List VC) (i : Nat), V.length = r.length → i < r.length → (cellsA r V)[i * 2]? = some (.string (T (r.getD i nilA).1)) ∧ (cellsA r V)[i * 2 + 1]? = some (.slice (V.getD i (none, 0)).1 (r.getD i nilA).2.length (V.getD i (none, 0)).2)
  | a :: r, v :: V, 0, _, _ => ⟨rfl, rfl⟩
  | a :: r, v :: V, i + 1, h, hi => by
    have := cellsA_at r V i (by simpa using h) (by simpa using hi)
    rw [show (i + 1) * 2 = i * 2 + 1 + 1 by omega]
    simpa [cellsA] using this
  | [], _, i, _, hi => absurd hi (by simp)
  | _ :: _, [], i, h, _ => by cases h
theorem cellsA_snoc : ∀ (r : RW) (V : List VC) (a : AL) (v : VC), V.length = r.length → cellsA (r ++ [a]) (V ++ [v]) = cellsA r V ++ [.string (T a.1), .slice v.1 a.2.length v.2]
  | [], [], a, v, _ => rfl
  | b :: r, u :: V, a, v, h => by simp [cellsA, cellsA_snoc r V a v (by simpa using h)]
  | [], _ :: _, _, _, h => by cases h
  | _ :: _, [], _, _, h => by cases h
theorem cellsA_one : ∀ (r : RW) (V : List VC), ∀ u ∈ cellsA r V, u.oneCell' = true
  | [], _, u, h => by cases h
  | _ :: _, [], u, h => by cases h
  | a :: r, v :: V, u, h => by
    simp [cellsA] at h
    rcases h with rfl | rfl | h
    · rfl
    · rfl
    · exact cellsA_one r V u h
/-- The row's own block lies below B1; what the alts but the last one hold does too; the last one's values are from B1 on. -/
def Und (w : World) (B0 B1 : Nat) (A : Option Addr) (n c : Nat) (r : RW) : Prop :=
  (r = [] ∧ A = none ∧ n = 0 ∧ c = 0 ∧ B0 ≤ w.heap.size) ∨
  ∃ (g : Nat) (r0 : RW) (a : AL) (V0 : List VC) (Al : Option Addr) (cl : Nat), r = r0 ++ [a] ∧ A = some ⟨g, 0, none⟩ ∧ n = r.length ∧ V0.length = r0.length ∧ B0 ≤ B1 ∧ OwnE 50 2 w B0 A n c (cellsA (r0 ++ [a]) (V0 ++ [(Al, cl)])) ∧ g < B1 ∧
    (∀ i, i < r0.length → TxF (fun b => B0 ≤ b ∧ b < B1 ∧ b ≠ g) w (V0.getD i (none, 0)).1 (r0.getD i nilA).2) ∧ OwnT w B1 Al a.2.length cl a.2
theorem ownT_lt {w : World} {B : Nat} {A : Option Addr} {n c : Nat} {vs : List TX} (h : OwnT w B A n c vs) : ∀ b, ownB A = some b → B ≤ b ∧ b < w.heap.size := OwnE.ltB h.2
theorem ownT_F {w : World} {B : Nat} {A : Option Addr} {n c : Nat} {vs : List TX} (h : OwnT w B A n c vs) : TxF (fun b => B ≤ b ∧ b < w.heap.size) w A vs := fun i hi => by
  obtain ⟨g, e, hb, hlt, hc⟩ := h.2.cell (i := i) (by unfold cellsT; rw [List.length_map]; exact hi)
  refine ⟨g, 0, e, ⟨hb, hlt⟩, hlt, ?_⟩
  rw [Nat.zero_add, hc]
  unfold cellsT
  rw [List.getElem?_map, List.getElem?_eq_getElem hi]
  simp [List.getElem?_eq_getElem hi]
theorem Und.own {w : World} {B0 B1 : Nat} {A : Option Addr} {n c : Nat} {r : RW} (h : Und w B0 B1 A n c r) : ∃ V : List VC, V.length = r.length ∧ n = r.length ∧ OwnE 50 2 w B0 A n c (cellsA r V) := by
  rcases h with ⟨rfl, rfl, rfl, rfl, hb⟩ | ⟨g, r0, a, V0, Al, cl, rfl, rfl, rfl, hV, hB, hO, _⟩
  · exact ⟨[], rfl, rfl, OwnE.nil w B0 hb⟩
  · exact ⟨V0 ++ [(Al, cl)], by simp [hV], rfl, hO⟩
theorem ownE_one {E : TypeId} {size : Nat} {w : World} {base n c : Nat} {A : Option Addr} {xs ys : List Value} (h : OwnE E size w base A n c xs) (k : OwnE E size w base A n c ys) : xs = ys := by
  have h1 := h.2.1
  have k1 := k.2.1
  rcases h.2.2 with ⟨_, h0⟩ | ⟨g, cap, cur, he, _, hg, _, _, _, ht⟩
  · subst h0
    rw [List.eq_nil_of_length_eq_zero (l := xs) (by omega), List.eq_nil_of_length_eq_zero (l := ys) (by omega)]
  · rcases k.2.2 with ⟨_, k0⟩ | ⟨g', cap', cur', ke, _, kg, _, _, _, kt⟩
    · subst k0
      rw [List.eq_nil_of_length_eq_zero (l := xs) (by omega), List.eq_nil_of_length_eq_zero (l := ys) (by omega)]
    · injection he with he _ _
      rw [he] at ke
      injection ke with ke _ _
      injection ke with ke
      injection ke with ke
      subst ke
      rw [hg] at kg
      injection kg with kg
      injection kg with kg
      subst kg
      rw [← ht, ← kt]
/-- A new alt, without values. -/
theorem Und.more {w w' : World} {B0 B1 : Nat} {A A' : Option Addr} {n c c' : Nat} {r : RW} (nm : TX) (h : Und w B0 B1 A n c r) {V1 : List VC} (hV1 : V1.length = r.length) (hO1 : OwnE 50 2 w B0 A n c (cellsA r V1)) (hO2 : OwnE 50 2 w' B0 A' (n + 1) c' (cellsA r V1 ++ [.string (T nm), .slice none 0 0]))
    (hg : w.grownBy w' (ownB A)) (hat : ownB A' = ownB A ∨ ownB A' = some w.heap.size) : Und w' B0 w'.heap.size A' (n + 1) c' (r ++ [(nm, [])]) := by
  have hs := hg.size
  have hO' : ∀ V : List VC, V.length = r.length → OwnE 50 2 w B0 A n c (cellsA r V) → OwnE 50 2 w' B0 A' (n + 1) c' (cellsA r V ++ [.string (T nm), .slice none 0 0]) := fun V _ h => by rw [ownE_one h hO1]; exact hO2
  have key : ∀ {X : List Value}, OwnE 50 2 w' B0 A' (n + 1) c' X → ∃ g', A' = some ⟨g', 0, none⟩ ∧ g' < w'.heap.size := fun {X} hX => by
    rcases hX.2.2 with ⟨he, h0⟩ | ⟨g', cap, cur, he, hb, hgg, _⟩
    · injection he with _ e2 _; omega
    · injection he with e1 _ _
      refine ⟨g', e1, ?_⟩
      rcases Nat.lt_or_ge g' w'.heap.size with h | h
      · exact h
      · rw [Array.getElem?_eq_none h] at hgg; cases hgg
  rcases h with ⟨rfl, rfl, rfl, rfl, hb⟩ | ⟨g, r0, a, V0, Al, cl, rfl, rfl, rfl, hV, hB, hO, hgB, hT, hL⟩
  · have hX := hO' [] rfl (OwnE.nil w B0 hb)
    obtain ⟨g', e, hlt⟩ := key hX
    refine .inr ⟨g', [], (nm, []), [], none, 0, rfl, e, rfl, rfl, Nat.le_trans hb hs, ?_, hlt, (fun i hi => absurd hi (by simp)), rfl, OwnE.nil _ _ (Nat.le_refl _)⟩
    exact hX
  · have hX := hO' (V0 ++ [(Al, cl)]) (by simp [hV]) hO
    obtain ⟨g', e, hlt⟩ := key hX
    subst e
    have hgs : g < w.heap.size := (OwnE.ltB hO g rfl).2
    change some g' = some g ∨ some g' = some w.heap.size at hat
    have hne : ∀ b, b < w.heap.size → b ≠ g → b ≠ g' := fun b hb hbg e => by
      rcases hat with h1 | h1
      · injection h1 with h1; omega
      · injection h1 with h1; omega
    refine .inr ⟨g', r0 ++ [a], (nm, []), V0 ++ [(Al, cl)], none, 0, by simp, rfl, by simp, by simp [hV], Nat.le_trans hO.1 hs, ?_, hlt, fun i hi => ?_, rfl, OwnE.nil _ _ (Nat.le_refl _)⟩
    · rw [cellsA_snoc _ _ _ _ (by simp [hV])]
      exact hX
    · rcases Nat.lt_or_ge i r0.length with h1 | h1
      · rw [List.getD_eq_getElem?_getD, List.getElem?_append_left (by omega), ← List.getD_eq_getElem?_getD, List.getD_eq_getElem?_getD (l := r0 ++ [a]), List.getElem?_append_left h1, ← List.getD_eq_getElem?_getD]
        exact (hT i h1).kept hs (fun b hf hb => grown_keeps hg hb (by intro e; change some g = some b at e; injection e with e; exact hf.2.2 e.symm)) (fun b hf hb => ⟨hf.1, Nat.lt_of_lt_of_le hb hs, hne b hb hf.2.2⟩)
      · have e1 : i = r0.length := by simp at hi; omega
        subst e1
        rw [List.getD_eq_getElem?_getD, List.getElem?_append_right (by omega), List.getD_eq_getElem?_getD (l := r0 ++ [a]), List.getElem?_append_right (by omega), hV, Nat.sub_self]
        exact (ownT_F hL).kept hs (fun b hf hb => grown_keeps hg hb (by intro e; change some g = some b at e; injection e with e; omega)) (fun b hf hb => ⟨by omega, Nat.lt_of_lt_of_le hb hs, hne b hb (by omega)⟩)
theorem OwnE.setAt {E : TypeId} {size : Nat} {w : World} {base n c g : Nat} {xs : List Value} (h : OwnE E size w base (some ⟨g, 0, none⟩) n c xs) (i : Nat) (v : Value) (hi : i < n * size) : OwnE E size (w.setCell ⟨g, i, none⟩ v) base (some ⟨g, 0, none⟩) n c (xs.set i v) := by
  refine ⟨by simpa [World.setCell] using h.1, by rw [List.length_set]; exact h.2.1, ?_⟩
  rcases h.2.2 with ⟨he, h0⟩ | ⟨g', cap, cur, he, hb, hg, hnc, hcm, hsz, ht⟩
  · cases he
  · injection he with e1 e2 e3
    injection e1 with e1
    injection e1 with e1
    subst e1
    refine .inr ⟨g, cap, cur.setIfInBounds i v, by rw [← e3], hb, ?_, hnc, hcm, by simpa using hsz, ?_⟩
    · simp [World.setCell, Array.getElem?_modify, hg]
    · rw [← ht, Array.toList_setIfInBounds, List.take_set]
theorem far_keeps {w : World} {p : Addr} {v : Value} {b : Nat} (h : b ≠ p.block) : (w.setCell p v).heap[b]? = w.heap[b]? := Below.heap_setCell w p v b h
/-- The last alt's values: one more, and told in the row. -/
theorem Und.value {w w' : World} {B0 B1 : Nat} {g n c : Nat} {r0 : RW} {a : AL} {V0 : List VC} {Al Al' : Option Addr} {cl cl' : Nat} (u : TX) (hn : n = r0.length + 1) (hV : V0.length = r0.length) (hB : B0 ≤ B1)
    (hO : OwnE 50 2 w B0 (some ⟨g, 0, none⟩) n c (cellsA (r0 ++ [a]) (V0 ++ [(Al, cl)]))) (hg : g < B1)
    (hT : ∀ i, i < r0.length → TxF (fun b => B0 ≤ b ∧ b < B1 ∧ b ≠ g) w (V0.getD i (none, 0)).1 (r0.getD i nilA).2) (hb : Below B1 w w') (hL : OwnT w' B1 Al' (a.2.length + 1) cl' (a.2 ++ [u])) (hw : B1 ≤ w.heap.size) :
    Und (w'.setCell ⟨g, r0.length * 2 + 1, none⟩ (.slice Al' (a.2.length + 1) cl')) B0 B1 (some ⟨g, 0, none⟩) n c (r0 ++ [(a.1, a.2 ++ [u])]) := by
  have hs : ∀ p v, (w'.setCell p v).heap.size = w'.heap.size := fun p v => by simp
  have hO1 : OwnE 50 2 w' B0 (some ⟨g, 0, none⟩) n c (cellsA (r0 ++ [a]) (V0 ++ [(Al, cl)])) := by
    refine ⟨Nat.le_trans hO.1 hb.size, hO.2.1, ?_⟩
    rcases hO.2.2 with h1 | ⟨k, cap, cur, h1, h2, h3, h4⟩
    · exact .inl h1
    · refine .inr ⟨k, cap, cur, h1, h2, ?_, h4⟩
      injection h1 with e1 _ _
      injection e1 with e1
      injection e1 with e1
      subst e1
      rw [hb.block g hg]; exact h3
  refine .inr ⟨g, r0, (a.1, a.2 ++ [u]), V0, Al', cl', rfl, rfl, by simp; omega, hV, hB, ?_, hg, fun i hi => ?_, ?_⟩
  · have h := OwnE.setAt hO1 (r0.length * 2 + 1) (.slice Al' (a.2.length + 1) cl') (by omega)
    have e : (cellsA (r0 ++ [a]) (V0 ++ [(Al, cl)])).set (r0.length * 2 + 1) (.slice Al' (a.2.length + 1) cl') = cellsA (r0 ++ [(a.1, a.2 ++ [u])]) (V0 ++ [(Al', cl')]) := by
      have hl := cellsA_len r0 V0 hV
      rw [cellsA_snoc _ _ _ _ hV, cellsA_snoc _ _ _ _ hV, List.set_append_right _ _ (by omega), hl, show r0.length * 2 + 1 - r0.length * 2 = 1 by omega]
      simp
    rw [e] at h
    exact h
  · exact (hT i hi).kept (by rw [hs]; exact hb.size) (fun b hf hlt => (far_keeps (p := ⟨g, r0.length * 2 + 1, none⟩) hf.2.2).trans (hb.block b hf.2.1)) (fun b hf _ => hf)
  · refine ⟨by simp, ?_⟩
    have h2 := hL.2
    have hlen : (a.2 ++ [u]).length = a.2.length + 1 := by simp
    dsimp only
    rw [hlen]
    refine ⟨by rw [hs]; exact h2.1, h2.2.1, ?_⟩
    rcases h2.2.2 with h1 | ⟨k, cap, cur, h1, h3, h4, h5⟩
    · exact .inl h1
    · exact .inr ⟨k, cap, cur, h1, h3, (far_keeps (p := ⟨g, r0.length * 2 + 1, none⟩) (by show k ≠ g; omega)).trans h4, h5⟩
/-- The row, when nothing more comes: all of it in blocks of its own. -/
theorem Und.done {w : World} {B0 B1 : Nat} {A : Option Addr} {n c : Nat} {r : RW} (h : Und w B0 B1 A n c r) : n = r.length ∧ AlF (fun b => B0 ≤ b ∧ b < w.heap.size) w A r := by
  rcases h with ⟨rfl, rfl, rfl, rfl, hb⟩ | ⟨g, r0, a, V0, Al, cl, rfl, rfl, rfl, hV, hB, hO, hgB, hT, hL⟩
  · exact ⟨rfl, AlF.nil _ _ _⟩
  · refine ⟨rfl, fun i hi => ?_⟩
    have hgl := OwnE.ltB hO g rfl
    have hVs : (V0 ++ [(Al, cl)]).length = (r0 ++ [a]).length := by simp [hV]
    obtain ⟨c0, c1⟩ := cellsA_at (r0 ++ [a]) (V0 ++ [(Al, cl)]) i hVs hi
    have hl := cellsA_len (r0 ++ [a]) (V0 ++ [(Al, cl)]) hVs
    obtain ⟨g1, e1, _, _, k1⟩ := hO.cell (i := i * 2) (by omega)
    obtain ⟨g2, e2, _, _, k2⟩ := hO.cell (i := i * 2 + 1) (by omega)
    injection e1 with e1; injection e1 with e1; subst e1
    injection e2 with e2; injection e2 with e2; subst e2
    refine ⟨g, 0, _, _, rfl, hgl, hgl.2, by rw [Nat.zero_add, k1, c0], by rw [Nat.zero_add, k2, c1], ?_⟩
    rcases Nat.lt_or_ge i r0.length with h1 | h1
    · rw [List.getD_eq_getElem?_getD, List.getElem?_append_left (by omega), ← List.getD_eq_getElem?_getD, List.getD_eq_getElem?_getD (l := r0 ++ [a]), List.getElem?_append_left h1, ← List.getD_eq_getElem?_getD]
      exact (hT i h1).kept (Nat.le_refl _) (fun _ _ _ => rfl) (fun b hf hb => ⟨hf.1, hb⟩)
    · have e1 : i = r0.length := by simp at hi; omega
      subst e1
      rw [List.getD_eq_getElem?_getD, List.getElem?_append_right (by omega), List.getD_eq_getElem?_getD (l := r0 ++ [a]), List.getElem?_append_right (by omega), hV, Nat.sub_self]
      exact (ownT_F hL).kept (Nat.le_refl _) (fun _ _ _ => rfl) (fun b hf hb => ⟨by omega, hb⟩)
end Go.Proofs.Ytbfogcfgcoljkaa.Qj

/-
  The row that pairs ask for: the program's way.
-/
namespace Go.Proofs.Ytbfogcfgcoljkaa.Qk
open Go.ChangeShapes Go.WideShapes Go.ChangeAt Go.RowKit
open Bytes8 Blk8 Own8 OwnM OwnE OwnA Dc Fa Fb Fo Pr8 Pv8 Qa Qb Qd Qj
open Qi (compact_any)
open Qg (sort_any)
set_option linter.unusedVariables false
set_option maxRecDepth 100000
set_option linter.unusedSimpArgs false

theorem grp_len : ∀ (l : List PR) (r : RW), (l.foldl grpS r).length ≤ r.length + l.length
  | [], r => Nat.le_refl _
  | p :: l, r => by
    have h := grp_len l (grpS r p)
    have h1 : (grpS r p).length ≤ r.length + 1 := by
      unfold grpS
      split
      · split
        · simp <;> omega
        · simp
      · simp
    rw [List.foldl_cons, List.length_cons]
    omega
theorem grp_ok : ∀ (l : List PR) (r : RW) (N : Nat), (∀ a ∈ r, AllB a.1 ∧ a.2.length ≤ N) → (∀ p ∈ l, AllB p.1) → ∀ a ∈ l.foldl grpS r, AllB a.1 ∧ a.2.length ≤ N + l.length
  | [], r, N, h, _, a, ha => h a ha
  | p :: l, r, N, h, hl, a, ha => by
    have h1 : ∀ b ∈ grpS r p, AllB b.1 ∧ b.2.length ≤ N + 1 := by
      rcases List.eq_nil_or_concat r with rfl | ⟨m, x, rfl⟩
      · intro b hb
        obtain rfl : b = (p.1, [p.2]) := by simpa [grpS] using hb
        exact ⟨hl p (by simp), by simp⟩
      · rw [List.concat_eq_append] at *
        intro b hb
        unfold grpS at hb
        rw [show (m ++ [x]).getLast? = some x by rw [List.getLast?_append]; rfl] at hb
        dsimp only at hb
        split at hb
        · rw [List.dropLast_concat] at hb
          rcases List.mem_append.1 hb with h2 | h2
          · have := h b (by simp [h2]); exact ⟨this.1, by omega⟩
          · obtain rfl : b = (x.1, x.2 ++ [p.2]) := by simpa using h2
            have := h x (by simp)
            exact ⟨this.1, by simp; exact this.2⟩
        · rcases List.mem_append.1 hb with h2 | h2
          · have := h b h2; exact ⟨this.1, by omega⟩
          · obtain rfl : b = (p.1, [p.2]) := by simpa using h2
            exact ⟨hl p (by simp), by simp⟩
    have := grp_ok l (grpS r p) (N + 1) h1 (fun q hq => hl q (by simp [hq])) a ha
    exact ⟨this.1, by have := this.2; simp; omega⟩
theorem grp_take {l : List PR} {k : Nat} (hk : k < l.length) : grp (l.take (k + 1)) = grpS (grp (l.take k)) (l.getD k nil2) := by
  rw [take_step hk]; unfold grp; rw [List.foldl_append]; rfl
theorem grpS_new {r : RW} {p : PR} (h : ∀ r0 a, r = r0 ++ [a] → a.1 ≠ p.1) : grpS r p = r ++ [(p.1, [] ++ [p.2])] := by
  rcases List.eq_nil_or_concat r with rfl | ⟨m, a, rfl⟩
  · rfl
  · rw [List.concat_eq_append] at *
    unfold grpS
    rw [show (m ++ [a]).getLast? = some a by rw [List.getLast?_append]; rfl]
    dsimp only
    rw [if_neg (h m a rfl), List.nil_append]
theorem grpS_old {r0 : RW} {a : AL} {p : PR} (h : a.1 = p.1) : grpS (r0 ++ [a]) p = r0 ++ [(a.1, a.2 ++ [p.2])] := by
  unfold grpS
  rw [show (r0 ++ [a]).getLast? = some a by rw [List.getLast?_append]; rfl]
  dsimp only
  rw [if_pos h, List.dropLast_concat]
/-- A row under way that has an alt. -/
def Und1 (w : World) (B0 B1 : Nat) (g n c : Nat) (r0 : RW) (a : AL) (V0 : List VC) (Al : Option Addr) (cl : Nat) : Prop :=
  n = r0.length + 1 ∧ V0.length = r0.length ∧ B0 ≤ B1 ∧ OwnE 50 2 w B0 (some ⟨g, 0, none⟩) n c (cellsA (r0 ++ [a]) (V0 ++ [(Al, cl)])) ∧ g < B1 ∧
    (∀ i, i < r0.length → TxF (fun b => B0 ≤ b ∧ b < B1 ∧ b ≠ g) w (V0.getD i (none, 0)).1 (r0.getD i nilA).2) ∧ OwnT w B1 Al a.2.length cl a.2
theorem Und.one {w : World} {B0 B1 : Nat} {A : Option Addr} {n c : Nat} {r0 : RW} {a : AL} (h : Und w B0 B1 A n c (r0 ++ [a])) : ∃ g V0 Al cl, A = some ⟨g, 0, none⟩ ∧ Und1 w B0 B1 g n c r0 a V0 Al cl := by
  rcases h with ⟨h, _⟩ | ⟨g, r1, a1, V0, Al, cl, hr, hA, hn, hV, hB, hO, hg, hT, hL⟩
  · exact absurd h (by simp)
  · obtain ⟨e1, e2⟩ := List.append_inj' hr rfl
    obtain rfl := e1
    obtain rfl : a = a1 := by simpa using e2
    subst hA
    exact ⟨g, V0, Al, cl, rfl, by simpa using hn, hV, hB, hO, hg, hT, hL⟩
theorem Und1.kept {w w' : World} {B0 B1 g n c : Nat} {r0 : RW} {a : AL} {V0 : List VC} {Al : Option Addr} {cl : Nat} (h : Und1 w B0 B1 g n c r0 a V0 Al cl) (hb : Below w.heap.size w w') : Und1 w' B0 B1 g n c r0 a V0 Al cl := by
  obtain ⟨h1, h2, h3, h4, h5, h6, h7⟩ := h
  exact ⟨h1, h2, h3, h4.kept hb (Nat.le_refl _), h5, fun i hi => (h6 i hi).kept hb.size (fun b _ hlt => hb.block b hlt) (fun _ hf _ => hf), h7.1, h7.2.kept hb (Nat.le_refl _)⟩
theorem Und.kept {w w' : World} {B0 B1 : Nat} {A : Option Addr} {n c : Nat} {r : RW} (h : Und w B0 B1 A n c r) (hb : Below w.heap.size w w') : Und w' B0 B1 A n c r := by
  rcases h with ⟨h1, h2, h3, h4, h5⟩ | ⟨g, r0, a, V0, Al, cl, e1, e2, e3, h1, h2, h3, h4, h5, h6⟩
  · exact .inl ⟨h1, h2, h3, h4, Nat.le_trans h5 hb.size⟩
  · exact .inr ⟨g, r0, a, V0, Al, cl, e1, e2, e3, h1, h2, h3.kept hb (Nat.le_refl _), h4, fun i hi => (h5 i hi).kept hb.size (fun b _ hlt => hb.block b hlt) (fun _ hf _ => hf), h6.1, h6.2.kept hb (Nat.le_refl _)⟩
/-- The cells of its last alt. -/
theorem Und1.cells {w : World} {B0 B1 g n c : Nat} {r0 : RW} {a : AL} {V0 : List VC} {Al : Option Addr} {cl : Nat} (h : Und1 w B0 B1 g n c r0 a V0 Al cl) :
    w.cell? ⟨g, r0.length * 2, none⟩ = some (.string (T a.1)) ∧ w.cell? ⟨g, r0.length * 2 + 1, none⟩ = some (.slice Al a.2.length cl) ∧ w.frozen? ⟨g, r0.length * 2 + 1, none⟩ = false ∧ g < w.heap.size := by
  obtain ⟨hn, hV, _, hO, _, _, _⟩ := h
  have hVs : (V0 ++ [(Al, cl)]).length = (r0 ++ [a]).length := by simp [hV]
  obtain ⟨c0, c1⟩ := cellsA_at (r0 ++ [a]) (V0 ++ [(Al, cl)]) r0.length hVs (by simp)
  have hl := cellsA_len (r0 ++ [a]) (V0 ++ [(Al, cl)]) hVs
  have hl2 : (r0 ++ [a]).length = r0.length + 1 := by simp
  obtain ⟨g1, e1, _, _, k1⟩ := hO.cell (i := r0.length * 2) (by omega)
  obtain ⟨g2, e2, _, _, k2⟩ := hO.cell (i := r0.length * 2 + 1) (by omega)
  injection e1 with e1; injection e1 with e1; subst e1
  injection e2 with e2; injection e2 with e2; subst e2
  have q1 : (r0 ++ [a]).getD r0.length nilA = a := by simp
  have q2 : (V0 ++ [(Al, cl)]).getD r0.length (none, 0) = (Al, cl) := by rw [← hV]; simp
  rw [q1] at c0 c1
  rw [q2] at c1
  refine ⟨k1.trans c0, k2.trans c1, ?_, (OwnE.ltB hO g rfl).2⟩
  rcases hO.2.2 with ⟨he, _⟩ | ⟨k, cap, cur, he, _, hg, _⟩
  · cases he
  · injection he with e1 _ _
    injection e1 with e1
    injection e1 with e1
    subst e1
    simp [World.frozen?, hg]
theorem Und1.after {w w' : World} {B0 B1 g n c : Nat} {r0 : RW} {a : AL} {V0 : List VC} {Al : Option Addr} {cl : Nat} (h : Und1 w B0 B1 g n c r0 a V0 Al cl) (hb : Below B1 w w') :
    w'.cell? ⟨g, r0.length * 2 + 1, none⟩ = some (.slice Al a.2.length cl) ∧ w'.frozen? ⟨g, r0.length * 2 + 1, none⟩ = false := by
  obtain ⟨_, k1, k2, _⟩ := h.cells
  have e := hb.block g h.2.2.2.2.1
  refine ⟨(World.cell?_of_block (a := ⟨g, r0.length * 2 + 1, none⟩) e).trans k1, ?_⟩
  rw [← k2]
  simp only [World.frozen?]
  rw [show w'.heap[(⟨g, r0.length * 2 + 1, none⟩ : Addr).block]? = w.heap[(⟨g, r0.length * 2 + 1, none⟩ : Addr).block]? from e]
set_option maxHeartbeats 8000000 in
theorem alts_any (g n c B0 : Nat) (l : List PR) (w : World) (hO : OwnP w B0 (some ⟨g, 0, none⟩) n c l) (h1 : 1 ≤ n) (hn : n ≤ 1000) :
    Calls Try.prog 25 #[.slice (some ⟨g, 0, none⟩) n c] w fun e w' => ∃ A' c', e = .returned (.slice A' (canon l).length c') ∧ AlF (fun b => w.heap.size ≤ b ∧ b < w'.heap.size) w' A' (canon l) ∧ Below B0 w w' := by
  have HS := Lib.hid (sort_any g n c B0 l w hO (by omega))
  have HC := Lib.hid fun w (h : OwnP w B0 (some ⟨g, 0, none⟩) n c (sortN l)) => compact_any g n c B0 (sortN l) w h (by omega) h1
  have hdl := Qh.dd_len (sortN l) n
  rw [List.take_of_length_le (by rw [sortN_len, hO.2.1]; exact Nat.le_refl _)] at hdl
  have HG := Lib.hid (grp_canon l)
  have hb0 := hO.2.2.1
  have HA := Lib.hid (Qh.dd_all (l := sortN l) fun p hp => hO.1 p ((sortN_mem l p).1 hp))
  unfold Qi.Cmpd at HC
  obtain ⟨L, hL⟩ : ∃ L, dd (sortN l) = L := ⟨_, rfl⟩
  rw [hL] at HC hdl HG HA
  obtain ⟨m, hm⟩ : ∃ m, L.length = m := ⟨_, rfl⟩
  have HM := Lib.hid hm
  rw [hm] at HC hdl
  clear hO hL hm
  go_enter Try.func25, Try.ntmps25
  go_upto_region 3 with (go_at_call 42; (with_reducible refine HS.out.mono ?_); rintro e w1 ⟨rfl, ho1, hb1⟩; have O1 := Lib.hid ho1; have B1' := Lib.hid hb1; clear ho1 hb1)
  go_wp2_with (go_at_call 46; (with_reducible refine (HC.out _ O1.out).mono ?_); rintro e w2 ⟨rfl, hp2, hb2⟩; have P2 := Lib.hid hp2; have B2 := Lib.hid (B1'.out.trans hb2); clear hp2 hb2)
  have hw2 := B2.out.size
  go_loopw [3, 12] (fun z i wr => ∃ (k n1 c1 B1 : Nat) (A1 : Option Addr), k ≤ m ∧ n1 ≤ k ∧ i = .int .i64 (k : Int) ∧ z = .slice A1 n1 c1 ∧ B1 ≤ wr.heap.size ∧ Hid (Und wr w2.heap.size B1 A1 n1 c1 (grp (L.take k))) ∧ Hid (Below w2.heap.size w2 wr)) (fun _ i _ => m - (intOf i).toNat)
  case atStart => exact ⟨0, 0, 0, 0, none, by omega, by omega, rfl, rfl, by omega, Lib.hid (.inl ⟨rfl, rfl, rfl, rfl, Nat.le_refl _⟩), Lib.hid (Below.refl _ _)⟩
  case round =>
    obtain ⟨k, n1, c1, B1, A1, hk, hn1, rfl, rfl, hB1, hU, hB⟩ := hrel
    by_cases hlt : k < m
    · obtain ⟨b, off, heq, hbl, hc0, hc1⟩ := (P2.out.below hB.out).2 k (by have := HM.out; omega)
      injection heq with heq
      injection heq with heq1 heq2
      subst heq1; subst heq2
      rw [Nat.zero_add] at hc0 hc1
      have hin : (k : Int) < (m : Int) := by omega
      have hp := HA.out.at_ k
      have HGS := Lib.hid (grp_take (l := L) (k := k) (by have := HM.out; omega))
      have HPk := Lib.hid hp
      clear hp
      generalize L.getD k nil2 = p at *
      obtain ⟨pn, pu⟩ := p
      dsimp only at hc0 hc1
      have HV := Lib.hid (grp_ok (L.take k) [] 0 (fun _ h => by cases h) (fun p hp => (HA.out p (List.mem_of_mem_take hp)).1))
      rw [Nat.zero_add, List.length_take, Nat.min_eq_left (by have := HM.out; omega)] at HV
      change Hid (∀ a ∈ grp (L.take k), _) at HV
      obtain ⟨R, hR⟩ : ∃ R, grp (L.take k) = R := ⟨_, rfl⟩
      rw [hR] at hU HGS HV
      clear hR
      have HN := Lib.hid hU.out.own
      go_upto_region 6 with fail
      have bA := (Below.refl wr.heap.size wr).alloc (Nat.le_refl _) (.cells #[.string (T pn), .string (T pu)] 45)
      have U3 := Lib.hid (Und.kept hU.out bA)
      have R5 := Lib.hid (Blk.new wr [.string (T pn), .string (T pu)] 45)
      have B3 := Lib.hid (hB.out.trans (bA.mono hB.out.size))
      have hb3 := Nat.le_trans hB1 bA.size
      have hz3 : (wr.alloc (.cells #[.string (T pn), .string (T pu)] 45)).heap.size = wr.heap.size + 1 := by simp
      have HZ3 := Lib.hid hz3
      clear bA hU hc0 hc1 hz3
      have hw2r := hB.out.size
      generalize hg5 : wr.heap.size = g5 at *
      clear hg5
      change Hid (Blk (wr.alloc (.cells #[.string (T pn), .string (T pu)] 45)) g5 _ _) at R5
      generalize wr.alloc (.cells #[.string (T pn), .string (T pu)] 45) = w3 at *
      have s0 := R5.out.cell (i := 0) rfl
      have s1 := R5.out.cell (i := 1) rfl
      have hmx : Try.prog.follows .mixedOrders = true := by kernel_rfl
      rcases List.eq_nil_or_concat R with hR0 | ⟨r0, a, hR0⟩
      · subst hR0
        have hn0 : n1 = 0 := by obtain ⟨_, _, h, _⟩ := HN.out; simpa using h
        have hA0 : A1 = none := by
          rcases U3.out with ⟨_, h, _⟩ | ⟨_, _, _, _, _, _, h, _⟩
          · exact h
          · exact absurd h (by simp)
        subst hA0
        subst hn0
        go_wp2_with fail
        go_quiet (fail)
        have U4 := Lib.hid (Und.kept U3.out (below_drewN (Below.refl w3.heap.size w3) nq))
        have HR5 := Lib.hid (R5.out.drewN nq)
        have HBq := Lib.hid (below_drewN B3.out nq)
        have Hnew := Lib.hid (grpS_new (r := []) (p := (pn, pu)) fun r1 b h => absurd h (by simp))
        have HNeq := Lib.hid (show ownB none ≠ some g5 from fun e => by cases e)
        have hs0 := (R5.out.drewN nq).cell (i := 0) rfl
        clear s0 s1 R5 HV
        generalize w3.drewN nq = wq at *
        obtain ⟨Vo, hVo, hnl, hOV⟩ := (Und.kept U4.out ((Below.refl wq.heap.size wq).alloc (Nat.le_refl _) (.cells #[.string (T pn), .slice none 0 0] 50))).own
        have HOa := Lib.hid hOV
        have HNa := Lib.hid (Blk.news (Blk.new wq [.string (T pn), .slice none 0 0] 50))
        have HAt := Lib.hid fun b (e : ownB none = some b) => OwnE.ltB hOV b e
        have HM7 := Lib.hid fun (A5 : Option Addr) (c5 : Nat) (w5 : World) ho hg hat => Und.more (A' := A5) (c' := c5) (w' := w5) pn (Und.kept U4.out ((Below.refl wq.heap.size wq).alloc (Nat.le_refl _) (.cells #[.string (T pn), .slice none 0 0] 50))) hVo hOV ho hg hat
        have HBl := Lib.hid (HBq.out.alloc HBq.out.size (.cells #[.string (T pn), .slice none 0 0] 50))
        have HRl := Lib.hid (HR5.out.alloc (.cells #[.string (T pn), .slice none 0 0] 50))
        clear hOV hnl
        go_upto_region 8 with (at_builtin; refine wpList_append_elt_at altElt rfl (.tmp 31) (.tmp 35) rfl w2.heap.size none 0 c1 (cellsA ([] : RW) Vo) rfl HOa.out ⟨wq.heap.size, 0, none⟩ 1 1 [.string (T pn), .slice none 0 0] rfl rfl HNa.out (by intro u hu; simp at hu; rcases hu with rfl | rfl <;> rfl) (by omega) (by omega) (by unfold maxLen; omega) ?_; intro A5 c5 w5 ho5 hg5 hat5; have HU5 := Lib.hid (HM7.out A5 c5 w5 ho5 hg5 hat5); obtain ⟨n6, hn6⟩ : ∃ n6, 0 + 1 = n6 := ⟨_, rfl⟩; rw [hn6]; rw [hn6] at HU5; have HN6 := Lib.hid hn6; have HG5 := Lib.hid hg5; clear ho5 hg5 hat5 hn6)
        have hU5 := HU5.out
        obtain ⟨a6, ha6⟩ : ∃ a6 : AL, a6 = (pn, []) := ⟨_, rfl⟩
        rw [← ha6] at hU5
        obtain ⟨g6, V6, Al6, cl6, hA5, hU6⟩ := Und.one hU5
        subst hA5
        have HVL := Lib.hid (show a6.2.length ≤ 1000 by rw [ha6]; simp)
        have Hgs := Lib.hid (show grpS ([] : RW) (pn, pu) = ([] : RW) ++ [(a6.1, a6.2 ++ [pu])] by rw [ha6]; exact Hnew.out)
        have hb5 : Below w2.heap.size w2 w5 := HBl.out.trans (below_grown HG5.out (Nat.le_trans HBl.out.size (Nat.le_refl _)) (fun b e => (HAt.out b e).1))
        have HBX5 := Lib.hid hb5
        have HR6 : Hid (Blk w5 g5 [.string (T pn), .string (T pu)] 45) := Lib.hid ((grown_keeps HG5.out HRl.out.lt (fun e => HNeq.out e)).trans HRl.out)
        obtain ⟨B6, hB6⟩ : ∃ B6, w5.heap.size = B6 := ⟨_, rfl⟩
        rw [hB6] at hU6
        have HBS6 := Lib.hid (show B6 ≤ w5.heap.size by omega)
        have HNQ1 : Hid (n6 ≤ k + 1) := Lib.hid (by have := HN6.out; omega)
        have hn6q : n6 = (([] : RW)).length + 1 := hU6.1
        obtain ⟨q, hq⟩ : ∃ q, (([] : RW)).length = q := ⟨_, rfl⟩
        have hm8 : (n6 : Int) - 1 = (q : Int) := by omega
        have hi8 : (q : Int) < (n6 : Int) := by omega
        have hk8 : n6 ≤ 1001 := by have := HN6.out; omega
        have HQ := Lib.hid hq
        have HU := Lib.hid hU6
        have HR5 := HR6
        clear hU5 hU6 hb5 ha6 hB6 hn6q hq HU5 HG5 HM7 HOa HNa HAt HBl HRl HBq Hnew HNeq U4 hVo
        obtain ⟨hx0, hx1, hxf, hxl⟩ := Und1.cells HU.out
        rw [HQ.out] at hx0 hx1 hxf
        have y1 := HR5.out.cell (i := 1) rfl
        have HOl := Lib.hid HU.out.2.2.2.2.2.2
        have HB2 := Lib.hid HU.out.2.2.1
        have hv := HVL.out
        have hbw : w2.heap.size ≤ w5.heap.size := HBX5.out.size
        have HZ := Lib.hid fun w4 (h : Below B6 ((w5.alloc (.cells #[.string (T pu)] 9)).drew) w4) => show w4.cell? ⟨g6, q * 2 + 1, none⟩ = some (.slice Al6 a6.2.length cl6) ∧ w4.frozen? ⟨g6, q * 2 + 1, none⟩ = false from by
          have h5 := Und1.after HU.out (((Below.refl B6 w5).alloc HBS6.out (.cells #[.string (T pu)] 9)).drew.trans h)
          rw [HQ.out] at h5
          exact h5
        have HOw := Lib.hid ((HOl.out.2.alloc (.cells #[.string (T pu)] 9)).drew)
        have HNw := Lib.hid (Blk.news (Blk.new w5 [.string (T pu)] 9).drew)
        have HF := Lib.hid fun (A4 : Option Addr) (c4 : Nat) (w4 : World) (ho : OwnE 9 1 w4 B6 A4 (a6.2.length + 1) c4 (cellsT a6.2 ++ [.string (T pu)])) (hb : Below B6 ((w5.alloc (.cells #[.string (T pu)] 9)).drew) w4) => show Und (w4.setCell ⟨g6, q * 2 + 1, none⟩ (.slice A4 (a6.2.length + 1) c4)) w2.heap.size B6 (some ⟨g6, 0, none⟩) n6 c5 (grp (L.take (k + 1))) ∧ Below w2.heap.size w2 (w4.setCell ⟨g6, q * 2 + 1, none⟩ (.slice A4 (a6.2.length + 1) c4)) ∧ B6 ≤ (w4.setCell ⟨g6, q * 2 + 1, none⟩ (.slice A4 (a6.2.length + 1) c4)).heap.size from by
          obtain ⟨u1, u2, u3, u4, u5, u6, u7⟩ := HU.out
          have hbb := ((Below.refl B6 w5).alloc HBS6.out (.cells #[.string (T pu)] 9)).drew.trans hb
          have h := Und.value (w' := w4) (Al' := A4) (cl' := c4) pu u1 u2 u3 u4 u5 u6 hbb ⟨by simp, by rw [show cellsT (a6.2 ++ [pu]) = cellsT a6.2 ++ [.string (T pu)] from by simp [cellsT]]; exact ho⟩ HBS6.out
          rw [HQ.out] at h
          rw [HGS.out, Hgs.out]
          refine ⟨h, (HBX5.out.trans (hbb.mono HB2.out)).setCell (p := ⟨g6, q * 2 + 1, none⟩) (OwnE.ltB u4 g6 rfl).1 _, ?_⟩
          have := hbb.size
          have := HBS6.out
          simp
          omega
        have HK := Lib.hid HNQ1
        clear hx0 HU
        go_wp2_with fail
        go_region_law (refine step_append_elt textElt (o := ⟨some 50, _, _, _, _, _⟩) rfl (.tmp 46) (.tmp 49) rfl B6 Al6 a6.2.length cl6 (cellsT a6.2) rfl HOw.out ⟨w5.heap.size, 0, none⟩ 1 1 [.string (T pu)] rfl rfl (by simpa using HNw.out) (by intro u hu; simp at hu; subst hu; rfl) (by omega) (by omega) ?_; intro A4 c4 w4 ho4 hb4; obtain ⟨z1, zf⟩ := HZ.out w4 hb4; obtain ⟨f1, f2, f3⟩ := HF.out A4 c4 w4 ho4 hb4; have F1 := Lib.hid f1; have F2 := Lib.hid f2; have F3 := Lib.hid f3; clear ho4 hb4 f1 f2 f3)
        all_goals
          go_wp2_with fail
          go_roundw
          case rel => exact ⟨k + 1, n6, c5, B6, some ⟨g6, 0, none⟩, by omega, HK.out, by go_num, rfl, F3.out, F1, F2⟩
          case measure => simp [intOf]; omega
      · rw [List.concat_eq_append] at hR0
        subst hR0
        obtain ⟨g', V0, Al, cl, hA1, hU1⟩ := Und.one U3.out
        subst hA1
        obtain ⟨q, hq⟩ : ∃ q, r0.length = q := ⟨_, rfl⟩
        have hnq : n1 = q + 1 := hU1.1.trans (by rw [hq])
        obtain ⟨x0, x1, xf, xl⟩ := Und1.cells hU1
        rw [hq] at x0 x1 xf
        have hm6 : (n1 : Int) - 1 = (q : Int) := by omega
        have hi6 : (q : Int) < (n1 : Int) := by omega
        have hz6 : ((n1 : Int) == 0) = false := by simp; omega
        have HNQ := Lib.hid hnq
        clear hnq
        have hU := Lib.hid hU1
        have HQ := Lib.hid hq
        obtain ⟨hn5, hv5⟩ := HV.out a (by simp)
        have HVL := Lib.hid (show a.2.length ≤ 1000 by omega)
        have hte := Qc.T_eq hn5 HPk.out.1
        clear hU1 hq hn5 hv5
        by_cases he : a.1 = pn
        · rw [decide_eq_true he] at hte
          have Hgs := Lib.hid (grpS_old (r0 := r0) (a := a) (p := (pn, pu)) he)
          have hS : T a.1 = T pn := by rw [he]
          rw [hS] at x0 hte
          clear he hS
          go_wp2_with fail
          go_quiet (fail)
          have HU := Lib.hid (Und1.kept hU.out (below_drewN (Below.refl w3.heap.size w3) nq))
          have HR5 := Lib.hid (R5.out.drewN nq)
          have HB3x := Lib.hid (below_drewN B3.out nq)
          have HBSx := Lib.hid (show B1 ≤ (w3.drewN nq).heap.size from hb3)
          have HNQ1 : Hid (n1 ≤ k + 1) := Lib.hid (by omega)
          clear x0 x1 xf s0 s1 hte hU R5 xl
          generalize w3.drewN nq = wq at *
          obtain ⟨hx0, hx1, hxf, hxl⟩ := Und1.cells HU.out
          rw [HQ.out] at hx0 hx1 hxf
          have y1 := HR5.out.cell (i := 1) rfl
          have HOl := Lib.hid HU.out.2.2.2.2.2.2
          have HB2 := Lib.hid HU.out.2.2.1
          have hv := HVL.out
          have hbw : w2.heap.size ≤ wq.heap.size := HB3x.out.size
          have HZ := Lib.hid fun w4 (h : Below B1 ((wq.alloc (.cells #[.string (T pu)] 9)).drew) w4) => show w4.cell? ⟨g', q * 2 + 1, none⟩ = some (.slice Al a.2.length cl) ∧ w4.frozen? ⟨g', q * 2 + 1, none⟩ = false from by
            have h5 := Und1.after HU.out (((Below.refl B1 wq).alloc HBSx.out (.cells #[.string (T pu)] 9)).drew.trans h)
            rw [HQ.out] at h5
            exact h5
          have HOw := Lib.hid ((HOl.out.2.alloc (.cells #[.string (T pu)] 9)).drew)
          have HNw := Lib.hid (Blk.news (Blk.new wq [.string (T pu)] 9).drew)
          have HF := Lib.hid fun (A4 : Option Addr) (c4 : Nat) (w4 : World) (ho : OwnE 9 1 w4 B1 A4 (a.2.length + 1) c4 (cellsT a.2 ++ [.string (T pu)])) (hb : Below B1 ((wq.alloc (.cells #[.string (T pu)] 9)).drew) w4) => show Und (w4.setCell ⟨g', q * 2 + 1, none⟩ (.slice A4 (a.2.length + 1) c4)) w2.heap.size B1 (some ⟨g', 0, none⟩) n1 c1 (grp (L.take (k + 1))) ∧ Below w2.heap.size w2 (w4.setCell ⟨g', q * 2 + 1, none⟩ (.slice A4 (a.2.length + 1) c4)) ∧ B1 ≤ (w4.setCell ⟨g', q * 2 + 1, none⟩ (.slice A4 (a.2.length + 1) c4)).heap.size from by
            obtain ⟨u1, u2, u3, u4, u5, u6, u7⟩ := HU.out
            have hbb := ((Below.refl B1 wq).alloc HBSx.out (.cells #[.string (T pu)] 9)).drew.trans hb
            have h := Und.value (w' := w4) (Al' := A4) (cl' := c4) pu u1 u2 u3 u4 u5 u6 hbb ⟨by simp, by rw [show cellsT (a.2 ++ [pu]) = cellsT a.2 ++ [.string (T pu)] from by simp [cellsT]]; exact ho⟩ HBSx.out
            rw [HQ.out] at h
            rw [HGS.out, Hgs.out]
            refine ⟨h, (HB3x.out.trans (hbb.mono HB2.out)).setCell (p := ⟨g', q * 2 + 1, none⟩) (OwnE.ltB u4 g' rfl).1 _, ?_⟩
            have := hbb.size
            have := HBSx.out
            simp
            omega
          have HK := Lib.hid HNQ1
          clear hx0 HU
          go_wp2_with fail
          go_region_law (refine step_append_elt textElt (o := ⟨some 50, _, _, _, _, _⟩) rfl (.tmp 46) (.tmp 49) rfl B1 Al a.2.length cl (cellsT a.2) rfl HOw.out ⟨wq.heap.size, 0, none⟩ 1 1 [.string (T pu)] rfl rfl (by simpa using HNw.out) (by intro u hu; simp at hu; subst hu; rfl) (by omega) (by omega) ?_; intro A4 c4 w4 ho4 hb4; obtain ⟨z1, zf⟩ := HZ.out w4 hb4; obtain ⟨f1, f2, f3⟩ := HF.out A4 c4 w4 ho4 hb4; have F1 := Lib.hid f1; have F2 := Lib.hid f2; have F3 := Lib.hid f3; clear ho4 hb4 f1 f2 f3)
          all_goals
            go_wp2_with fail
            go_roundw
            case rel => exact ⟨k + 1, n1, c1, B1, some ⟨g', 0, none⟩, by omega, HK.out, by go_num, rfl, F3.out, F1, F2⟩
            case measure => simp [intOf]; omega
        · rw [decide_eq_false he] at hte
          have Hgs := Lib.hid (grpS_new (r := r0 ++ [a]) (p := (pn, pu)) fun r1 b h => by
            obtain ⟨_, e2⟩ := List.append_inj' h rfl
            obtain rfl : a = b := by simpa using e2
            exact he)
          clear he
          generalize T a.1 = S2 at *
          go_wp2_with fail
          go_quiet (fail)
          have U4 := Lib.hid (Und.kept U3.out (below_drewN (Below.refl w3.heap.size w3) nq))
          have HR5 := Lib.hid (R5.out.drewN nq)
          have HBq := Lib.hid (below_drewN B3.out nq)
          have Hnew := Hgs
          have HNeq := Lib.hid (show ownB (some ⟨g', 0, none⟩) ≠ some g5 from fun e => by change some g' = some g5 at e; injection e with e; have := hU.out.2.2.2.2.1; omega)
          have hs0 := (R5.out.drewN nq).cell (i := 0) rfl
          clear x0 x1 xf s0 s1 hte hU R5 xl HVL HQ hm6 hi6 hz6 HNQ Hgs HV

          generalize w3.drewN nq = wq at *
          obtain ⟨Vo, hVo, hnl, hOV⟩ := (Und.kept U4.out ((Below.refl wq.heap.size wq).alloc (Nat.le_refl _) (.cells #[.string (T pn), .slice none 0 0] 50))).own
          have HOa := Lib.hid hOV
          have HNa := Lib.hid (Blk.news (Blk.new wq [.string (T pn), .slice none 0 0] 50))
          have HAt := Lib.hid fun b (e : ownB (some ⟨g', 0, none⟩) = some b) => OwnE.ltB hOV b e
          have HM7 := Lib.hid fun (A5 : Option Addr) (c5 : Nat) (w5 : World) ho hg hat => Und.more (A' := A5) (c' := c5) (w' := w5) pn (Und.kept U4.out ((Below.refl wq.heap.size wq).alloc (Nat.le_refl _) (.cells #[.string (T pn), .slice none 0 0] 50))) hVo hOV ho hg hat
          have HBl := Lib.hid (HBq.out.alloc HBq.out.size (.cells #[.string (T pn), .slice none 0 0] 50))
          have HRl := Lib.hid (HR5.out.alloc (.cells #[.string (T pn), .slice none 0 0] 50))
          clear hOV hnl
          go_upto_region 8 with (at_builtin; refine wpList_append_elt_at altElt rfl (.tmp 31) (.tmp 35) rfl w2.heap.size (some ⟨g', 0, none⟩) n1 c1 (cellsA (r0 ++ [a]) Vo) rfl HOa.out ⟨wq.heap.size, 0, none⟩ 1 1 [.string (T pn), .slice none 0 0] rfl rfl HNa.out (by intro u hu; simp at hu; rcases hu with rfl | rfl <;> rfl) (by omega) (by omega) (by unfold maxLen; omega) ?_; intro A5 c5 w5 ho5 hg5 hat5; have HU5 := Lib.hid (HM7.out A5 c5 w5 ho5 hg5 hat5); obtain ⟨n6, hn6⟩ : ∃ n6, n1 + 1 = n6 := ⟨_, rfl⟩; rw [hn6]; rw [hn6] at HU5; have HN6 := Lib.hid hn6; have HG5 := Lib.hid hg5; clear ho5 hg5 hat5 hn6)
          have hU5 := HU5.out
          obtain ⟨a6, ha6⟩ : ∃ a6 : AL, a6 = (pn, []) := ⟨_, rfl⟩
          rw [← ha6] at hU5
          obtain ⟨g6, V6, Al6, cl6, hA5, hU6⟩ := Und.one hU5
          subst hA5
          have HVL := Lib.hid (show a6.2.length ≤ 1000 by rw [ha6]; simp)
          have Hgs := Lib.hid (show grpS (r0 ++ [a]) (pn, pu) = (r0 ++ [a]) ++ [(a6.1, a6.2 ++ [pu])] by rw [ha6]; exact Hnew.out)
          have hb5 : Below w2.heap.size w2 w5 := HBl.out.trans (below_grown HG5.out (Nat.le_trans HBl.out.size (Nat.le_refl _)) (fun b e => (HAt.out b e).1))
          have HBX5 := Lib.hid hb5
          have HR6 : Hid (Blk w5 g5 [.string (T pn), .string (T pu)] 45) := Lib.hid ((grown_keeps HG5.out HRl.out.lt (fun e => HNeq.out e)).trans HRl.out)
          obtain ⟨B6, hB6⟩ : ∃ B6, w5.heap.size = B6 := ⟨_, rfl⟩
          rw [hB6] at hU6
          have HBS6 := Lib.hid (show B6 ≤ w5.heap.size by omega)
          have HNQ1 : Hid (n6 ≤ k + 1) := Lib.hid (by have := HN6.out; omega)
          have hn6q : n6 = ((r0 ++ [a])).length + 1 := hU6.1
          obtain ⟨q, hq⟩ : ∃ q, ((r0 ++ [a])).length = q := ⟨_, rfl⟩
          have hm8 : (n6 : Int) - 1 = (q : Int) := by omega
          have hi8 : (q : Int) < (n6 : Int) := by omega
          have hk8 : n6 ≤ 1001 := by have := HN6.out; omega
          have HQ := Lib.hid hq
          have HU := Lib.hid hU6
          have HR5 := HR6
          clear hU5 hU6 hb5 ha6 hB6 hn6q hq HU5 HG5 HM7 HOa HNa HAt HBl HRl HBq Hnew HNeq U4 hVo
          obtain ⟨hx0, hx1, hxf, hxl⟩ := Und1.cells HU.out
          rw [HQ.out] at hx0 hx1 hxf
          have y1 := HR5.out.cell (i := 1) rfl
          have HOl := Lib.hid HU.out.2.2.2.2.2.2
          have HB2 := Lib.hid HU.out.2.2.1
          have hv := HVL.out
          have hbw : w2.heap.size ≤ w5.heap.size := HBX5.out.size
          have HZ := Lib.hid fun w4 (h : Below B6 ((w5.alloc (.cells #[.string (T pu)] 9)).drew) w4) => show w4.cell? ⟨g6, q * 2 + 1, none⟩ = some (.slice Al6 a6.2.length cl6) ∧ w4.frozen? ⟨g6, q * 2 + 1, none⟩ = false from by
            have h5 := Und1.after HU.out (((Below.refl B6 w5).alloc HBS6.out (.cells #[.string (T pu)] 9)).drew.trans h)
            rw [HQ.out] at h5
            exact h5
          have HOw := Lib.hid ((HOl.out.2.alloc (.cells #[.string (T pu)] 9)).drew)
          have HNw := Lib.hid (Blk.news (Blk.new w5 [.string (T pu)] 9).drew)
          have HF := Lib.hid fun (A4 : Option Addr) (c4 : Nat) (w4 : World) (ho : OwnE 9 1 w4 B6 A4 (a6.2.length + 1) c4 (cellsT a6.2 ++ [.string (T pu)])) (hb : Below B6 ((w5.alloc (.cells #[.string (T pu)] 9)).drew) w4) => show Und (w4.setCell ⟨g6, q * 2 + 1, none⟩ (.slice A4 (a6.2.length + 1) c4)) w2.heap.size B6 (some ⟨g6, 0, none⟩) n6 c5 (grp (L.take (k + 1))) ∧ Below w2.heap.size w2 (w4.setCell ⟨g6, q * 2 + 1, none⟩ (.slice A4 (a6.2.length + 1) c4)) ∧ B6 ≤ (w4.setCell ⟨g6, q * 2 + 1, none⟩ (.slice A4 (a6.2.length + 1) c4)).heap.size from by
            obtain ⟨u1, u2, u3, u4, u5, u6, u7⟩ := HU.out
            have hbb := ((Below.refl B6 w5).alloc HBS6.out (.cells #[.string (T pu)] 9)).drew.trans hb
            have h := Und.value (w' := w4) (Al' := A4) (cl' := c4) pu u1 u2 u3 u4 u5 u6 hbb ⟨by simp, by rw [show cellsT (a6.2 ++ [pu]) = cellsT a6.2 ++ [.string (T pu)] from by simp [cellsT]]; exact ho⟩ HBS6.out
            rw [HQ.out] at h
            rw [HGS.out, Hgs.out]
            refine ⟨h, (HBX5.out.trans (hbb.mono HB2.out)).setCell (p := ⟨g6, q * 2 + 1, none⟩) (OwnE.ltB u4 g6 rfl).1 _, ?_⟩
            have := hbb.size
            have := HBS6.out
            simp
            omega
          have HK := Lib.hid HNQ1
          clear hx0 HU
          go_wp2_with fail
          go_region_law (refine step_append_elt textElt (o := ⟨some 50, _, _, _, _, _⟩) rfl (.tmp 46) (.tmp 49) rfl B6 Al6 a6.2.length cl6 (cellsT a6.2) rfl HOw.out ⟨w5.heap.size, 0, none⟩ 1 1 [.string (T pu)] rfl rfl (by simpa using HNw.out) (by intro u hu; simp at hu; subst hu; rfl) (by omega) (by omega) ?_; intro A4 c4 w4 ho4 hb4; obtain ⟨z1, zf⟩ := HZ.out w4 hb4; obtain ⟨f1, f2, f3⟩ := HF.out A4 c4 w4 ho4 hb4; have F1 := Lib.hid f1; have F2 := Lib.hid f2; have F3 := Lib.hid f3; clear ho4 hb4 f1 f2 f3)
          all_goals
            go_wp2_with fail
            go_roundw
            case rel => exact ⟨k + 1, n6, c5, B6, some ⟨g6, 0, none⟩, by omega, HK.out, by go_num, rfl, F3.out, F1, F2⟩
            case measure => simp [intOf]; omega
    · obtain rfl : k = m := by omega
      have hUd := hU.out
      rw [List.take_of_length_le (by have := HM.out; omega), HG.out] at hUd
      obtain ⟨hn1', hF⟩ := hUd.done
      have HF := Lib.hid (hF.kept (G := fun b => w.heap.size ≤ b ∧ b < wr.heap.size) (Nat.le_refl _) (fun _ _ _ => rfl) (fun b hf _ => ⟨Nat.le_trans hw2 hf.1, hf.2⟩))
      have HN := Lib.hid hn1'
      clear hUd hn1' hF hU
      go_wp2_with fail
      go_ret
      exact ⟨A1, c1, by rw [HN.out]; rfl, HF.out, B2.out.trans (hB.out.mono (Nat.le_trans hb0 hw2))⟩
end Go.Proofs.Ytbfogcfgcoljkaa.Qk
