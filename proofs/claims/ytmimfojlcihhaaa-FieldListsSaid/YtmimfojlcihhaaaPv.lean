/-
  The values under a name: the program's and the document's own; two rows of texts held against each other.
-/
import Derived.Test.YtmimfojlcihhaaaPa
namespace Go.Proofs.Ytmimfojlcihhaaa.Pv8
open Go.ChangeShapes Go.WideShapes Go.ChangeAt Go.RowKit
open Bytes8 Blk8 Own8 OwnE Fa Fb Fc Fo In8 Pr8 Pa8
set_option linter.unusedVariables false
set_option linter.unusedSimpArgs false

/-- The values that a row has under a name. -/
def valsL (l : List PR) (nm : List Int) : List (List Int) := (l.filter fun p => decide (p.1 = nm)).map (·.2)
theorem valsL_step {l : List PR} {k : Nat} (hk : k < l.length) (nm : List Int) : valsL (l.take (k + 1)) nm = if (l.getD k nil2).1 = nm then valsL (l.take k) nm ++ [(l.getD k nil2).2] else valsL (l.take k) nm := by
  rw [take_step hk]; unfold valsL
  rw [List.filter_append, List.map_append]
  by_cases h : (l.getD k nil2).1 = nm
  · rw [if_pos h]
    have : [l.getD k nil2].filter (fun p => decide (p.1 = nm)) = [l.getD k nil2] := by
      rw [List.filter_cons]; simp only [h, decide_true]; rfl
    rw [this]; rfl
  · rw [if_neg h]
    have : [l.getD k nil2].filter (fun p => decide (p.1 = nm)) = [] := by
      rw [List.filter_cons]; simp only [h, decide_false]; rfl
    rw [this]; simp
theorem valsL_len (l : List PR) (k : Nat) (nm : List Int) : (valsL (l.take k) nm).length ≤ k := by
  unfold valsL
  rw [List.length_map]
  exact Nat.le_trans (List.length_filter_le _ _) (List.length_take_le _ _)
theorem valsL_all {l : List PR} (h : AllP l) (nm : List Int) : ∀ v ∈ valsL l nm, AllB v := fun v hv => by
  obtain ⟨p, hp, rfl⟩ := List.mem_map.1 hv
  exact (h p (List.mem_filter.1 hp).1).2.1
def cellsT (vs : List (List Int)) : List Value := vs.map fun v => .string (T v)
/-- Texts that a call gathers. -/
def OwnT (w : World) (base : Nat) (A : Option Addr) (n c : Nat) (vs : List (List Int)) : Prop := vs.length = n ∧ OwnE 9 1 w base A n c (cellsT vs)
theorem OwnT.alloc {w : World} {base : Nat} {A : Option Addr} {n c : Nat} {vs : List (List Int)} (h : OwnT w base A n c vs) (o : Obj) : OwnT (w.alloc o) base A n c vs := ⟨h.1, h.2.alloc o⟩
def Txts (w : World) (a : Option Addr) (vs : List (List Int)) : Prop :=
  ∀ i, i < vs.length → ∃ b off, a = some ⟨b, off, none⟩ ∧ b < w.heap.size ∧ w.cell? ⟨b, off + i, none⟩ = some (.string (T (vs.getD i [])))
theorem Txts.below {w w' : World} {a : Option Addr} {vs : List (List Int)} (h : Txts w a vs) (hb : Below w.heap.size w w') : Txts w' a vs := fun i hi => by
  obtain ⟨b, off, e, h1, h2⟩ := h i hi
  exact ⟨b, off, e, Nat.lt_of_lt_of_le h1 hb.size, (hb.cell (p := ⟨b, off + i, none⟩) h1).trans h2⟩
theorem OwnT.txts {w : World} {base : Nat} {A : Option Addr} {n c : Nat} {vs : List (List Int)} (h : OwnT w base A n c vs) : Txts w A vs := fun i hi => by
  obtain ⟨g, e, hb, hlt, hc⟩ := h.2.cell (i := i) (by unfold cellsT; rw [List.length_map]; exact hi)
  refine ⟨g, 0, e, hlt, ?_⟩
  rw [Nat.zero_add, hc]
  unfold cellsT
  rw [List.getElem?_map, List.getElem?_eq_getElem hi]
  simp [List.getElem?_eq_getElem hi]

def Vals (vs : List (List Int)) (w : World) (e : Ending) (w' : World) : Prop := ∃ A c, e = .returned (.slice A vs.length c) ∧ Txts w' A vs ∧ Below w.heap.size w w'

set_option maxHeartbeats 1000000 in
set_option maxRecDepth 100000 in
theorem values_any (a : Option Addr) (l : List PR) (len cap : Nat) (nm : List Int) (w : World) (hP : Prs w a l) (hL : l.length = len) (hmax : len ≤ 100000) (hA : AllB nm) :
    Calls Try.prog 24 #[.slice a len cap, .string (T nm)] w (Vals (valsL l nm) w) := by
  have HP := Lib.hid hP
  have HL := Lib.hid hL
  have HE : Hid (∀ k, ((T (l.getD k nil2).1).toList == (T nm).toList) = decide ((l.getD k nil2).1 = nm)) := Lib.hid fun k => T_beq (hP.1.at_ k).1 hA
  clear hP hL
  unfold Vals
  go_enter Try.func24, Try.ntmps24
  go_wp2
  go_loopw [5, 10] (fun s i wr => ∃ (k n : Nat) (A : Option Addr) (c : Nat), k ≤ len ∧ i = .int .i64 (k : Int) ∧ s = .slice A n c ∧ n ≤ k ∧ Hid (OwnT wr w.heap.size A n c (valsL (l.take k) nm)) ∧ Hid (Below w.heap.size w wr)) (fun _ i _ => len - (intOf i).toNat)
  case atStart => exact ⟨0, 0, none, 0, by omega, rfl, rfl, by omega, Lib.hid ⟨rfl, OwnE.nil w _ (Nat.le_refl _)⟩, Lib.hid (Below.refl _ _)⟩
  case round =>
    obtain ⟨k, n, A, c, hk, rfl, rfl, hn, hO, hB⟩ := hrel
    rcases Nat.lt_or_ge k len with hlt | hge
    · obtain ⟨b, off, rfl, hbl, hc0, hc1⟩ := (HP.out.below hB.out).2 k (by have := HL.out; omega)
      have hin : (k : Int) < (len : Int) := by omega
      have HS := Lib.hid (valsL_step (l := l) (k := k) (by have := HL.out; omega) nm)
      have hq := HE.out k
      by_cases he : (l.getD k nil2).1 = nm
      · rw [decide_eq_true he] at hq
        rw [if_pos he] at HS
        clear he
        generalize (l.getD k nil2).1 = p1 at *
        generalize (l.getD k nil2).2 = p2 at *
        generalize T p1 = E1 at *
        generalize hE2 : T p2 = E2 at *
        generalize T nm = SN at *
        have HE2 := Lib.hid hE2
        clear hE2
        go_wp2_with (at_builtin; refine wpList_append_elt textElt rfl (.tmp 18) (.tmp 21) rfl w.heap.size A n c (cellsT (valsL (l.take k) nm)) rfl ((hO.out.2.alloc (.cells #[.string E1, .string E2] 24)).alloc (.cells #[.string E2] 9)) ⟨wr.heap.size + 1, 0, none⟩ 1 1 [.string E2] rfl rfl (Blk.news (Blk.new_at (wr.alloc (.cells #[.string E1, .string E2] 24)) [.string E2] 9 (wr.heap.size + 1) (by simp))) (by intro u hu; simp at hu; subst hu; rfl) (by omega) (by omega) ?_; intro A2 c2 w2 ho2 hbel2; have HO2 := Lib.hid ho2; have HN2 := Lib.hid (((hB.out.alloc hB.out.size (.cells #[.string E1, .string E2] 24)).alloc (by have := hB.out.size; simp; omega) (.cells #[.string E2] 9)).trans hbel2); clear ho2 hbel2)
        go_round
        case rel =>
          refine ⟨k + 1, n + 1, A2, c2, by omega, by go_num, rfl, by omega, Lib.hid ⟨?_, ?_⟩, HN2⟩
          · rw [HS.out, List.length_append, hO.out.1]; rfl
          · have := HO2.out
            rw [HS.out]; unfold cellsT at this ⊢
            rw [List.map_append, List.map_cons, List.map_nil, HE2.out]
            exact this
        case measure => simp [intOf]; omega
      · rw [decide_eq_false he] at hq
        rw [if_neg he] at HS
        clear he
        generalize (l.getD k nil2).1 = p1 at *
        generalize (l.getD k nil2).2 = p2 at *
        generalize T p1 = E1 at *
        generalize T p2 = E2 at *
        generalize T nm = SN at *
        go_wp2
        go_round
        case rel => exact ⟨k + 1, n, A, c, by omega, by go_num, rfl, by omega, by rw [HS.out]; exact Lib.hid (hO.out.alloc _), Lib.hid (hB.out.alloc hB.out.size _)⟩
        case measure => simp [intOf]; omega
    · obtain rfl : k = len := by omega
      have ht : l.take k = l := List.take_of_length_le (by have := HL.out; omega)
      rw [ht] at hO
      clear ht
      go_wp2
      go_ret
      exact ⟨A, c, by rw [hO.out.1]; rfl, hO.out.txts, hB.out⟩

set_option maxHeartbeats 1000000 in
set_option maxRecDepth 100000 in
theorem rvalues_any (a : Option Addr) (l : List PR) (len cap : Nat) (nm : List Int) (w : World) (hP : Prs w a l) (hL : l.length = len) (hmax : len ≤ 100000) (hA : AllB nm) :
    Calls Try.prog 25 #[.slice a len cap, .string (T nm)] w (Vals (valsL l nm) w) := by
  have HP := Lib.hid hP
  have HL := Lib.hid hL
  have HE : Hid (∀ k, ((T (l.getD k nil2).1).toList == (T nm).toList) = decide ((l.getD k nil2).1 = nm)) := Lib.hid fun k => T_beq (hP.1.at_ k).1 hA
  clear hP hL
  unfold Vals
  go_enter Try.func25, Try.ntmps25
  go_wp2
  go_loopw [5, 6] (fun s i wr => ∃ (k n : Nat) (A : Option Addr) (c : Nat), k ≤ len ∧ i = .int .i64 (k : Int) ∧ s = .slice A n c ∧ n ≤ k ∧ Hid (OwnT wr w.heap.size A n c (valsL (l.take k) nm)) ∧ Hid (Below w.heap.size w wr)) (fun _ i _ => len - (intOf i).toNat)
  case atStart => exact ⟨0, 0, none, 0, by omega, rfl, rfl, by omega, Lib.hid ⟨rfl, OwnE.nil w _ (Nat.le_refl _)⟩, Lib.hid (Below.refl _ _)⟩
  case round =>
    obtain ⟨k, n, A, c, hk, rfl, rfl, hn, hO, hB⟩ := hrel
    rcases Nat.lt_or_ge k len with hlt | hge
    · obtain ⟨b, off, rfl, hbl, hc0, hc1⟩ := (HP.out.below hB.out).2 k (by have := HL.out; omega)
      have hin : (k : Int) < (len : Int) := by omega
      have HS := Lib.hid (valsL_step (l := l) (k := k) (by have := HL.out; omega) nm)
      have hq := HE.out k
      by_cases he : (l.getD k nil2).1 = nm
      · rw [decide_eq_true he] at hq
        rw [if_pos he] at HS
        clear he
        generalize (l.getD k nil2).1 = p1 at *
        generalize (l.getD k nil2).2 = p2 at *
        generalize T p1 = E1 at *
        generalize hE2 : T p2 = E2 at *
        generalize T nm = SN at *
        have HE2 := Lib.hid hE2
        clear hE2
        go_wp2_with (at_builtin; refine wpList_append_elt textElt rfl (.tmp 20) (.tmp 26) rfl w.heap.size A n c (cellsT (valsL (l.take k) nm)) rfl (hO.out.2.alloc (.cells #[.string E2] 9)) ⟨wr.heap.size, 0, none⟩ 1 1 [.string E2] rfl rfl (Blk.news (Blk.new wr [.string E2] 9)) (by intro u hu; simp at hu; subst hu; rfl) (by omega) (by omega) ?_; intro A2 c2 w2 ho2 hbel2; have HO2 := Lib.hid ho2; have HN2 := Lib.hid ((hB.out.alloc hB.out.size (.cells #[.string E2] 9)).trans hbel2); clear ho2 hbel2)
        go_round
        case rel =>
          refine ⟨k + 1, n + 1, A2, c2, by omega, by go_num, rfl, by omega, Lib.hid ⟨?_, ?_⟩, HN2⟩
          · rw [HS.out, List.length_append, hO.out.1]; rfl
          · have := HO2.out
            rw [HS.out]; unfold cellsT at this ⊢
            rw [List.map_append, List.map_cons, List.map_nil, HE2.out]
            exact this
        case measure => simp [intOf]; omega
      · rw [decide_eq_false he] at hq
        rw [if_neg he] at HS
        clear he
        generalize (l.getD k nil2).1 = p1 at *
        generalize (l.getD k nil2).2 = p2 at *
        generalize T p1 = E1 at *
        generalize T p2 = E2 at *
        generalize T nm = SN at *
        go_wp2
        go_round
        case rel => exact ⟨k + 1, n, A, c, by omega, by go_num, rfl, by omega, by rw [HS.out]; exact hO, hB⟩
        case measure => simp [intOf]; omega
    · obtain rfl : k = len := by omega
      have ht : l.take k = l := List.take_of_length_le (by have := HL.out; omega)
      rw [ht] at hO
      clear ht
      go_wp2
      go_ret
      exact ⟨A, c, by rw [hO.out.1]; rfl, hO.out.txts, hB.out⟩

set_option maxRecDepth 100000 in
/-- Two rows of the same texts. -/
theorem stexts_yes (a b : Option Addr) (vs : List (List Int)) (n c d : Nat) (w : World) (hP : Txts w a vs) (hQ : Txts w b vs) (hL : vs.length = n) (hmax : n ≤ 1000000) :
    Calls Try.prog 23 #[.slice a n c, .slice b n d] w fun e w' => e = .returned (.bool true) ∧ Below w.heap.size w w' := by
  have HP := Lib.hid hP
  have HQ := Lib.hid hQ
  have HL := Lib.hid hL
  have hmx : Try.prog.follows .mixedOrders = true := by kernel_rfl
  clear hP hQ hL
  go_enter Try.func23, Try.ntmps23
  go_wp2
  go_loopw [5] (fun i wr => ∃ j : Nat, j ≤ n ∧ i = .int .i64 (j : Int) ∧ Hid (Below w.heap.size w wr)) (fun i _ => n - (intOf i).toNat)
  case atStart => exact ⟨0, by omega, rfl, Lib.hid (Below.refl _ _)⟩
  case round =>
    obtain ⟨j, hj, rfl, hB⟩ := hrel
    rcases Nat.lt_or_ge j n with hlt | hge
    · obtain ⟨b1, off1, rfl, hbl1, hc0⟩ := (HP.out.below hB.out) j (by have := HL.out; omega)
      obtain ⟨b2, off2, rfl, hbl2, hd0⟩ := (HQ.out.below hB.out) j (by have := HL.out; omega)
      have hin : (j : Int) < (n : Int) := by omega
      generalize T (vs.getD j []) = E1 at *
      go_wp2_with fail
      go_quiet (fail)
      go_wp2
      go_round
      case rel => exact ⟨j + 1, by omega, by go_num, Lib.hid (below_drewN hB.out _)⟩
      case measure => simp [intOf]; omega
    · obtain rfl : j = n := by omega
      go_wp2
      go_ret
      exact ⟨rfl, hB.out⟩
end Go.Proofs.Ytmimfojlcihhaaa.Pv8
