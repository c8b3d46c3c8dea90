/-
  Texts beneath the proof, one behind the other.
-/
import Derived.Deep.RegionHeld3
import Derived.Lib.SmallJoins
import Derived.Deep.SlicePairs
import Derived.Test.YtldkmobncmfodaaGreatR18
import Derived.Test.YtldkmobncmfodaaGreatR2
import Derived.Test.YtldkmobncmfodaaGreatR14

/-
  The document's writer: a copy.
-/
namespace Go.Proofs.YtldkmobncmfodaaGreat.Ng
open Go.ChangeShapes Go.WideShapes Go.ChangeAt Go.RowKit
open Bytes8 Blk8 Own8 OwnM OwnA OwnE LeA LeNum LeB LeP RefA RefB Rows2 Ob Oc Od Oj Ga Gn Ma Kf Mb Mc Md Me Mf Mg Fa Fb Fc Sg Dc Yc Yd Yk Gb Na Nb Nc Nd Nf
set_option linter.unusedVariables false
set_option linter.unusedSimpArgs false
set_option maxRecDepth 100000

attribute [local irreducible] Mk.cells wpList Code.wp
variable {B g : Nat} {p : Pl} {m : Mk}
end Go.Proofs.YtldkmobncmfodaaGreat.Ng

/-
  A pair of texts that came in by value; a slice of pairs that came in.
-/
namespace Go.Proofs.YtldkmobncmfodaaGreat.In8
open Go.ChangeShapes Go.WideShapes Go.ChangeAt Go.RowKit Go.Deep
open Bytes8 Blk8 Fa
set_option linter.unusedVariables false
set_option maxRecDepth 100000
set_option linter.unusedSimpArgs false



/-- Pairs of texts that can be read from an address on. -/
def InPairs (w : World) (a : Option Addr) (len : Nat) (N V : Nat → List Int) : Prop :=
  ∀ i, i < len → ∃ b off, a = some ⟨b, off, none⟩ ∧ b < w.heap.size ∧ w.cell? ⟨b, off + i * 2, none⟩ = some (.string (T (N i))) ∧ w.cell? ⟨b, off + i * 2 + 1, none⟩ = some (.string (T (V i))) ∧ AllB (N i) ∧ AllB (V i) ∧ (N i).length ≤ maxLen ∧ (V i).length ≤ maxLen
theorem InPairs.below {w w' : World} {a : Option Addr} {len : Nat} {N V : Nat → List Int} (h : InPairs w a len N V) (hb : Below w.heap.size w w') : InPairs w' a len N V := fun i hi => by
  obtain ⟨b, off, e, h1, h2, h3, h4⟩ := h i hi
  exact ⟨b, off, e, Nat.lt_of_lt_of_le h1 hb.size, (hb.cell (p := ⟨b, off + i * 2, none⟩) h1).trans h2, (hb.cell (p := ⟨b, off + i * 2 + 1, none⟩) h1).trans h3, h4⟩

end Go.Proofs.YtldkmobncmfodaaGreat.In8

/-
  Words for rows of pairs of texts: what can be read from an address on; what a call gathers; plain: each once.
-/
namespace Go.Proofs.YtldkmobncmfodaaGreat.Pr8
open Go.ChangeShapes Go.WideShapes Go.ChangeAt Go.RowKit
open Bytes8 Blk8 Own8 OwnE Fa Fb Fc Fo In8
set_option linter.unusedVariables false
set_option maxRecDepth 100000
set_option linter.unusedSimpArgs false

abbrev PR := List Int × List Int
abbrev nil2 : PR := ([], [])
def okP (p : PR) : Prop := AllB p.1 ∧ AllB p.2 ∧ p.1.length ≤ maxLen ∧ p.2.length ≤ maxLen
def AllP (l : List PR) : Prop := ∀ p ∈ l, okP p
theorem AllP.at_ {l : List PR} (h : AllP l) (i : Nat) : okP (l.getD i nil2) := by
  by_cases hi : i < l.length
  · rw [List.getD_eq_getElem?_getD, List.getElem?_eq_getElem hi]; exact h _ (List.getElem_mem hi)
  · rw [List.getD_eq_getElem?_getD, List.getElem?_eq_none (by omega)]
    exact ⟨(fun x hx => by cases hx), (fun x hx => by cases hx), Nat.zero_le _, Nat.zero_le _⟩
def cellsP : List PR → List Value
  | [] => []
  | p :: r => .string (T p.1) :: .string (T p.2) :: cellsP r
theorem cellsP_app : ∀ l m, cellsP (l ++ m) = cellsP l ++ cellsP m
  | [], _ => rfl
  | p :: l, m => by simp [cellsP, cellsP_app l m]
theorem cellsP_len : ∀ l, (cellsP l).length = l.length * 2
  | [] => rfl
  | p :: l => by simp [cellsP, cellsP_len l]; omega
theorem cellsP_at : ∀ (l : List PR) (i : Nat), i < l.length → (cellsP l)[i * 2]? = some (.string (T (l.getD i nil2).1)) ∧ (cellsP l)[i * 2 + 1]? = some (.string (T (l.getD i nil2).2))
  | p :: l, 0, _ => ⟨rfl, rfl⟩
  | p :: l, i + 1, h => by
    have := cellsP_at l i (by simpa using h)
    rw [show (i + 1) * 2 = i * 2 + 1 + 1 by omega]
    simpa [cellsP] using this

def Prs (w : World) (a : Option Addr) (l : List PR) : Prop :=
  AllP l ∧ ∀ i, i < l.length → ∃ b off, a = some ⟨b, off, none⟩ ∧ b < w.heap.size ∧ w.cell? ⟨b, off + i * 2, none⟩ = some (.string (T (l.getD i nil2).1)) ∧ w.cell? ⟨b, off + i * 2 + 1, none⟩ = some (.string (T (l.getD i nil2).2))
theorem Prs.nil (w : World) (a : Option Addr) : Prs w a [] := ⟨(fun _ h => by cases h), fun i hi => absurd hi (by simp)⟩
theorem Prs.keptB {w w' : World} {a : Option Addr} {l : List PR} (h : Prs w a l) (hs : w.heap.size ≤ w'.heap.size) (hk : ∀ b off, a = some ⟨b, off, none⟩ → b < w.heap.size → w'.heap[b]? = w.heap[b]?) : Prs w' a l := by
  refine ⟨h.1, fun i hi => ?_⟩
  obtain ⟨b, off, e, h1, h2, h3⟩ := h.2 i hi
  have hb := hk b off e h1
  exact ⟨b, off, e, Nat.lt_of_lt_of_le h1 hs, (World.cell?_of_block (a := ⟨b, off + i * 2, none⟩) hb).trans h2, (World.cell?_of_block (a := ⟨b, off + i * 2 + 1, none⟩) hb).trans h3⟩
theorem Prs.below {w w' : World} {a : Option Addr} {l : List PR} (h : Prs w a l) (hb : Below w.heap.size w w') : Prs w' a l := h.keptB hb.size fun b _ _ h1 => hb.block b h1
theorem Prs.drewN {w : World} {a : Option Addr} {l : List PR} (h : Prs w a l) (n : Nat) : Prs (w.drewN n) a l := h

/-- Pairs that a call gathers. -/
def OwnP (w : World) (base : Nat) (A : Option Addr) (n c : Nat) (l : List PR) : Prop := AllP l ∧ l.length = n ∧ OwnE 220 2 w base A n c (cellsP l)
theorem OwnP.nil (w : World) (base : Nat) (h : base ≤ w.heap.size) : OwnP w base none 0 0 [] := ⟨(fun _ h => by cases h), rfl, OwnE.nil w base h⟩
theorem OwnP.prs {w : World} {base : Nat} {A : Option Addr} {n c : Nat} {l : List PR} (h : OwnP w base A n c l) : Prs w A l := by
  refine ⟨h.1, fun i hi => ?_⟩
  obtain ⟨h0, h1⟩ := cellsP_at l i hi
  have hl := cellsP_len l
  obtain ⟨g, e, hb, hlt, hc⟩ := h.2.2.cell (i := i * 2) (by omega)
  obtain ⟨g', e', _, _, hc'⟩ := h.2.2.cell (i := i * 2 + 1) (by omega)
  rw [e] at e'; simp at e'; subst e'
  exact ⟨g, 0, e, hlt, by rw [Nat.zero_add, hc, h0], by rw [Nat.zero_add, hc', h1]⟩
theorem OwnP.kept {w w' : World} {base B : Nat} {A : Option Addr} {n c : Nat} {l : List PR} (h : OwnP w base A n c l) (hb : Below B w w') (hB : w.heap.size ≤ B) : OwnP w' base A n c l := ⟨h.1, h.2.1, h.2.2.kept hb hB⟩
theorem OwnP.alloc {w : World} {base : Nat} {A : Option Addr} {n c : Nat} {l : List PR} (h : OwnP w base A n c l) (o : Obj) : OwnP (w.alloc o) base A n c l := ⟨h.1, h.2.1, h.2.2.alloc o⟩
theorem pairElt : Elt 220 51 2 32 (.agg #[.string { data := #[] }, .string { data := #[] }]) := ⟨Tryz.underlying51, by kernel_rfl, rfl, by decide⟩

/-! ## plain: each once -/
def addU (acc : List PR) (p : PR) : List PR := if p ∈ acc then acc else acc ++ [p]
def ded (l : List PR) : List PR := l.foldl addU []
theorem AllP.take {l : List PR} (h : AllP l) (k : Nat) : AllP (l.take k) := fun p hp => h p (List.mem_of_mem_take hp)
end Go.Proofs.YtldkmobncmfodaaGreat.Pr8

/-
  Loops that only read pairs: Index, Contains, SamePairs, the document's Within.
-/
namespace Go.Proofs.YtldkmobncmfodaaGreat.Pa8
open Go.ChangeShapes Go.WideShapes Go.ChangeAt Go.RowKit
open Bytes8 Blk8 Own8 OwnE Fa Fb Fc Fo In8 Pr8
set_option linter.unusedVariables false
set_option maxRecDepth 100000
set_option linter.unusedSimpArgs false

theorem pair_eq (p q : PR) : decide (p.1 = q.1 ∧ p.2 = q.2) = decide (p = q) := by
  obtain ⟨a, b⟩ := p; obtain ⟨c, d⟩ := q
  simp [Prod.mk.injEq]
theorem neq_pr {p q : PR} (hp : okP p) (hq : okP q) (w : World) : (binOp .neq 220 (.agg #[.string (T p.1), .string (T p.2)]) (.agg #[.string (T q.1), .string (T q.2)])).run Tryz.prog w = .ok (.bool (!decide (p = q))) w := by
  rw [← pair_eq]; exact neq_pair hp.1 hp.2.1 hq.1 hq.2.1 w

end Go.Proofs.YtldkmobncmfodaaGreat.Pa8

/-
  Pairs that may be, sorted: what the library's sort makes of them (its contract: the shelf's).
-/
namespace Go.Proofs.YtldkmobncmfodaaGreat.Ps8
open Go.ChangeShapes Go.WideShapes Go.ChangeAt Go.RowKit Go.Lib
open Bytes8 Blk8 Own8 OwnE Fa Fb Fc Fo In8 Pr8
set_option linter.unusedVariables false
set_option maxRecDepth 100000
set_option linter.unusedSimpArgs false

def ltP (p q : PR) : Bool := lessP p.1 p.2 q.1 q.2
/-- The row sorted. -/
def sortP (l : List PR) : List PR := l.mergeSort fun x y => !ltP y x
theorem own_block {w : World} {base n c g : Nat} {l : List PR} (h : OwnP w base (some ⟨g, 0, none⟩) n c l) :
    base ≤ g ∧ ∃ cur : Array Value, w.heap[g]? = some (.cells cur 220 (0, 0)) ∧ cur.toList.take (n * 2) = cellsP l := by
  rcases h.2.2.2.2 with ⟨he, _⟩ | ⟨g', cap, cur, he, hb, hg, _, _, _, ht⟩
  · cases he
  · injection he with e1 e2 e3
    simp at e1
    subst e1
    exact ⟨hb, cur, hg, ht⟩
end Go.Proofs.YtldkmobncmfodaaGreat.Ps8

/-
  Loops that only read pairs: Index, Contains, SamePairs, the document's Within.
-/
namespace Go.Proofs.YtldkmobncmfodaaGreat.Pa8
open Go.ChangeShapes Go.WideShapes Go.ChangeAt Go.RowKit
open Bytes8 Blk8 Own8 OwnE Fa Fb Fc Fo In8 Pr8
set_option linter.unusedVariables false
set_option maxRecDepth 100000
set_option linter.unusedSimpArgs false

/-! ## SamePairs -/
set_option maxRecDepth 100000 in
theorem spairs_any (a b : Option Addr) (l m : List PR) (n k c d : Nat) (w : World) (hP : Prs w a l) (hQ : Prs w b m) (hL : l.length = n) (hM : m.length = k) (hmax : n ≤ 1000000) (hmax2 : k ≤ 1000000) :
    Calls Tryz.prog 76 #[.slice a n c, .slice b k d] w fun e w' => e = .returned (.bool (decide (l = m))) ∧ Below w.heap.size w w' := by
  by_cases hnk : n = k
  · subst hnk
    have HP := Lib.hid hP
    have HQ := Lib.hid hQ
    have HL := Lib.hid hL
    have HM := Lib.hid hM
    have HE := Lib.hid fun j => neq_pr (hP.1.at_ j) (hQ.1.at_ j)
    have hmx : Tryz.prog.follows .mixedOrders = true := by kernel_rfl
    clear hP hQ hL hM
    go_enter Tryz.func76, Tryz.ntmps76
    go_wp2
    go_loopw [5] (fun i wr => ∃ j : Nat, j ≤ n ∧ i = .int .i64 (j : Int) ∧ Hid (∀ x, x < j → l.getD x nil2 = m.getD x nil2) ∧ Hid (Below w.heap.size w wr)) (fun i _ => n - (intOf i).toNat)
    case atStart => exact ⟨0, by omega, rfl, Lib.hid fun j hj => absurd hj (by omega), Lib.hid (Below.refl _ _)⟩
    case round =>
      obtain ⟨j, hj, rfl, hall, hB⟩ := hrel
      rcases Nat.lt_or_ge j n with hlt | hge
      · obtain ⟨b1, off1, rfl, hbl1, hc0, hc1⟩ := (HP.out.below hB.out).2 j (by have := HL.out; omega)
        obtain ⟨b2, off2, rfl, hbl2, hd0, hd1⟩ := (HQ.out.below hB.out).2 j (by have := HM.out; omega)
        have hin : (j : Int) < (n : Int) := by omega
        have hq := HE.out j
        generalize T (l.getD j nil2).1 = E1 at *
        generalize T (l.getD j nil2).2 = E2 at *
        generalize T (m.getD j nil2).1 = F1 at *
        generalize T (m.getD j nil2).2 = F2 at *
        by_cases he : l.getD j nil2 = m.getD j nil2
        · rw [decide_eq_true he] at hq
          have hall2 := Lib.hid (fun x (hx : x < j + 1) => (by
            rcases Nat.lt_or_ge x j with h1 | h1
            · exact hall.out x h1
            · obtain rfl : x = j := by omega
              exact he : l.getD x nil2 = m.getD x nil2))
          clear he hall
          go_wp2_with fail
          go_quiet (fail)
          go_wp2
          go_round
          case rel => exact ⟨j + 1, by omega, by go_num, hall2, Lib.hid (below_drewN hB.out _)⟩
          case measure => simp [intOf]; omega
        · rw [decide_eq_false he] at hq
          have hne : l ≠ m := fun e => he (by rw [e])
          have HN := Lib.hid hne
          clear he hall hne
          go_wp2_with fail
          go_quiet (fail)
          go_wp2
          go_ret
          exact ⟨ret_bool (by simp [HN.out]), below_drewN hB.out _⟩
      · obtain rfl : j = n := by omega
        have hlm : l = m := by
          apply List.ext_getElem (by rw [HL.out, HM.out])
          intro i h1 h2
          have := hall.out i (by have := HL.out; omega)
          rwa [List.getD_eq_getElem?_getD, List.getD_eq_getElem?_getD, List.getElem?_eq_getElem h1, List.getElem?_eq_getElem h2] at this
        have HN := Lib.hid hlm
        clear hlm hall
        go_wp2
        go_ret
        exact ⟨ret_bool (by simp [HN.out]), hB.out⟩
  · have hne : l ≠ m := fun e => hnk (by rw [← hL, ← hM, e])
    have hnk2 : ((n : Int) != (k : Int)) = true := by simp; omega
    have HN := Lib.hid hne
    clear hne hnk hP hQ
    go_enter Tryz.func76, Tryz.ntmps76
    go_wp2
    go_ret
    exact ⟨ret_bool (by simp [HN.out]), Below.refl _ _⟩

end Go.Proofs.YtldkmobncmfodaaGreat.Pa8

/-
  What List answers.
-/
namespace Go.Proofs.YtldkmobncmfodaaGreat.Pl8
open Go.ChangeShapes Go.WideShapes Go.ChangeAt Go.RowKit
open Bytes8 Blk8 Own8 OwnE Fa Fb Fc Fo In8 Pr8 Ps8
set_option linter.unusedVariables false
set_option maxRecDepth 100000
set_option linter.unusedSimpArgs false

/-- The code of the first pair that has one. -/
def codeL : List PR → Int
  | [] => 0
  | p :: r => if flawI p.1 p.2 = 0 then codeL r else flawI p.1 p.2
def listE (l : List PR) : Int := if l = [] then 16 else if codeL l = 0 then (if (ded l).length ≤ 16 then 0 else 21) else codeL l
def listL (l : List PR) : List PR := if listE l = 0 then sortP (ded l) else []
def Listed (l : List PR) (w : World) (e : Ending) (w' : World) : Prop := ∃ A c, e = .returned (.tuple #[.slice A (listL l).length c, .int .i64 (listE l)]) ∧ Prs w' A (listL l) ∧ Below w.heap.size w w'
/-- .. where the row is a new one. -/
def ListedN (l : List PR) (w : World) (e : Ending) (w' : World) : Prop := ∃ A c, e = .returned (.tuple #[.slice A (listL l).length c, .int .i64 (listE l)]) ∧ Prs w' A (listL l) ∧ Below w.heap.size w w' ∧ ∀ b off, A = some ⟨b, off, none⟩ → 0 < (listL l).length → w.heap.size ≤ b
theorem ListedN.old {l : List PR} {w : World} {e : Ending} {w' : World} (h : ListedN l w e w') : Listed l w e w' := by
  obtain ⟨A, c, h1, h2, h3, _⟩ := h
  exact ⟨A, c, h1, h2, h3⟩

end Go.Proofs.YtldkmobncmfodaaGreat.Pl8

/-
  Rising rows of pairs, plain; pairs out of a maker of numbers.
-/
namespace Go.Proofs.YtldkmobncmfodaaGreat.Pq8
open Go.ChangeShapes Go.WideShapes Go.ChangeAt Go.RowKit
open Bytes8 Blk8 Own8 OwnE Fa Fb Fc Fo In8 Rows2 Seq8 SeqP Pr8 Ps8 Pl8
set_option linter.unusedVariables false
set_option maxRecDepth 100000
set_option linter.unusedSimpArgs false


theorem OwnP.keptB {w w' : World} {base gq : Nat} {A : Option Addr} {n c : Nat} {l : List PR} (h : OwnP w base A n c l) (hk : KeptB w.heap.size gq w w') (hg : gq < base) : OwnP w' base A n c l := by
  refine ⟨h.1, h.2.1, Nat.le_trans h.2.2.1 hk.size, h.2.2.2.1, ?_⟩
  rcases h.2.2.2.2 with h1 | ⟨g, cap, cur, h1, h2, h3, h4⟩
  · exact .inl h1
  · refine .inr ⟨g, cap, cur, h1, h2, ?_, h4⟩
    have hlt : g < w.heap.size := by
      rcases Nat.lt_or_ge g w.heap.size with h | h
      · exact h
      · rw [Array.getElem?_eq_none h] at h3; cases h3
    rw [hk.block g hlt (by omega)]; exact h3


end Go.Proofs.YtldkmobncmfodaaGreat.Pq8
