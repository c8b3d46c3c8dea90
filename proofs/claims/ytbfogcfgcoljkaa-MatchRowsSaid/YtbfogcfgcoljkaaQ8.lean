/-
  Texts beneath the proof, one behind the other.
-/
import Derived.Test.YtbfogcfgcoljkaaQ7
import Derived.Test.YtbfogcfgcoljkaaQ3
import Derived.Test.YtbfogcfgcoljkaaQ2
import Derived.Test.YtbfogcfgcoljkaaQ5
import Derived.Test.YtbfogcfgcoljkaaQ6

/-
  The rows of a match under way, in memory.
-/
namespace Go.Proofs.Ytbfogcfgcoljkaa.Ql
open Go.ChangeShapes Go.WideShapes Go.ChangeAt Go.RowKit
open Bytes8 Blk8 Own8 OwnM OwnE OwnA Dc Fa Fb Fo Pr8 Pv8 Qa Qb Qd Qj
set_option linter.unusedVariables false
set_option maxRecDepth 100000
set_option linter.unusedSimpArgs false

def cellsR : List RW → List VC → List Value
  | r :: M, v :: V => .slice v.1 r.length v.2 :: cellsR M V
  | _, _ => []
theorem cellsR_len : ∀ (M : List RW) (V : List VC), V.length = M.length → (cellsR M V).length = M.length
  | [], [], _ => rfl
  | r :: M, v :: V, h => by simp [cellsR, cellsR_len M V (by simpa using h)]
  | [], _ :: _, h => by cases h
  | _ :: _, [], h => by cases h
theorem cellsR_at : ∀ (M : List RW) (V : List VC) (i : Nat), V.length = M.length → i < M.length → (cellsR M V)[i]? = some (.slice (V.getD i (none, 0)).1 (M.getD i []).length (V.getD i (none, 0)).2)
  | r :: M, v :: V, 0, _, _ => rfl
  | r :: M, v :: V, i + 1, h, hi => by simpa [cellsR] using cellsR_at M V i (by simpa using h) (by simpa using hi)
  | [], _, i, _, hi => absurd hi (by simp)
  | _ :: _, [], i, h, _ => by cases h
theorem cellsR_snoc : ∀ (M : List RW) (V : List VC) (r : RW) (v : VC), V.length = M.length → cellsR (M ++ [r]) (V ++ [v]) = cellsR M V ++ [.slice v.1 r.length v.2]
  | [], [], r, v, _ => rfl
  | s :: M, u :: V, r, v, h => by simp [cellsR, cellsR_snoc M V r v (by simpa using h)]
  | [], _ :: _, _, _, h => by cases h
  | _ :: _, [], _, _, h => by cases h
/-- The rows told so far, all in blocks ahead of B5. -/
def RowsC (w : World) (B0 B5 : Nat) (A : Option Addr) (n c : Nat) (M : List RW) : Prop :=
  n = M.length ∧ B5 ≤ w.heap.size ∧ ∃ V : List VC, V.length = M.length ∧ OwnE 48 1 w B0 A n c (cellsR M V) ∧ (∀ b, ownB A = some b → b < B5) ∧
    ∀ i, i < M.length → AlF (fun b => B0 ≤ b ∧ b < B5 ∧ ownB A ≠ some b) w (V.getD i (none, 0)).1 (M.getD i [])
theorem RowsC.nil (w : World) (B0 : Nat) (h : B0 ≤ w.heap.size) : RowsC w B0 w.heap.size none 0 0 [] := ⟨rfl, Nat.le_refl _, [], rfl, OwnE.nil w B0 h, (fun _ h => by cases h), fun i hi => absurd hi (by simp)⟩
theorem ownE_keptB {E : TypeId} {size : Nat} {w w' : World} {base B n c : Nat} {A : Option Addr} {xs : List Value} (h : OwnE E size w base A n c xs) (hA : ∀ b, ownB A = some b → b < B) (hb : Below B w w') : OwnE E size w' base A n c xs := by
  refine ⟨Nat.le_trans h.1 hb.size, h.2.1, ?_⟩
  rcases h.2.2 with h1 | ⟨k, cap, cur, h1, h2, h3, h4⟩
  · exact .inl h1
  · refine .inr ⟨k, cap, cur, h1, h2, ?_, h4⟩
    injection h1 with e1 _ _
    subst e1
    rw [hb.block k (hA k rfl)]; exact h3
theorem RowsC.kept {w w' : World} {B0 B5 : Nat} {A : Option Addr} {n c : Nat} {M : List RW} (h : RowsC w B0 B5 A n c M) (hb : Below B5 w w') : RowsC w' B0 B5 A n c M := by
  obtain ⟨h1, h0, V, h2, h3, h4, h5⟩ := h
  exact ⟨h1, Nat.le_trans h0 hb.size, V, h2, ownE_keptB h3 h4 hb, h4, fun i hi => (h5 i hi).kept hb.size (fun b hf _ => hb.block b hf.2.1) (fun b hf _ => hf)⟩
theorem RowsC.mts {w : World} {B0 B5 : Nat} {A : Option Addr} {n c : Nat} {M : List RW} (h : RowsC w B0 B5 A n c M) : Mts w A M := fun i hi => by
  obtain ⟨h1, h0, V, h2, h3, h4, h5⟩ := h
  obtain ⟨g, e, _, hlt, hc⟩ := h3.cell (i := i) (by rw [cellsR_len _ _ h2]; exact hi)
  exact ⟨g, 0, _, _, e, hlt, by rw [Nat.zero_add, hc, cellsR_at M V i h2 hi], (h5 i hi).als⟩
theorem RowsC.far {w : World} {B0 B5 : Nat} {A : Option Addr} {n c : Nat} {M : List RW} (h : RowsC w B0 B5 A n c M) {p : Addr} (hp : p.block < B0) (v : Value) : RowsC (w.setCell p v) B0 B5 A n c M := by
  obtain ⟨h1, h0, V, h2, h3, h4, h5⟩ := h
  have hs : (w.setCell p v).heap.size = w.heap.size := by simp
  refine ⟨h1, by rw [hs]; exact h0, V, h2, ⟨by rw [hs]; exact h3.1, h3.2.1, ?_⟩, h4, fun i hi => (h5 i hi).kept (by rw [hs]; exact Nat.le_refl _) (fun b hf _ => far_keeps (by have := hf.1; omega)) (fun b hf _ => hf)⟩
  rcases h3.2.2 with k1 | ⟨k, cap, cur, k1, k2, k3, k4⟩
  · exact .inl k1
  · exact .inr ⟨k, cap, cur, k1, k2, (far_keeps (by omega)).trans k3, k4⟩
/-- One row more: told by a call (w to w1), boxed (w2), appended (w3). -/
theorem RowsC.more {w w1 w2 w3 : World} {B0 B5 : Nat} {A A3 A' : Option Addr} {n c c3 c' : Nat} {M : List RW} {r : RW} (h : RowsC w B0 B5 A n c M) (hr : AlF (fun b => w.heap.size ≤ b ∧ b < w1.heap.size) w1 A' r) (hb1 : Below B5 w w1) (hb2 : Below w1.heap.size w1 w2) (hB0 : B0 ≤ w.heap.size)
    (hO : ∀ V : List VC, V.length = M.length → OwnE 48 1 w2 B0 A n c (cellsR M V) → OwnE 48 1 w3 B0 A3 (n + 1) c3 (cellsR M V ++ [.slice A' r.length c'])) (hg : w2.grownBy w3 (ownB A)) (hat : ownB A3 = ownB A ∨ ownB A3 = some w2.heap.size) :
    RowsC w3 B0 w3.heap.size A3 (n + 1) c3 (M ++ [r]) := by
  obtain ⟨h1, h0, V, h2, h3, h4, h5⟩ := h
  have s1 := hb1.size
  have s2 := hb2.size
  have s3 := hg.size
  have hb12 := hb1.trans (hb2.mono (Nat.le_trans h0 s1))
  have hX := hO V h2 (ownE_keptB h3 h4 hb12)
  have hA3 : ∀ b, ownB A3 = some b → b < w3.heap.size := fun b e => (OwnE.ltB hX b e).2
  have hAw : ∀ b, ownB A = some b → b < w.heap.size := fun b e => Nat.lt_of_lt_of_le (h4 b e) h0
  refine ⟨by simp [h1], Nat.le_refl _, V ++ [(A', c')], by simp [h2], by rw [cellsR_snoc _ _ _ _ h2]; exact hX, hA3, fun i hi => ?_⟩
  rcases Nat.lt_or_ge i M.length with hlt | hge
  · rw [List.getD_eq_getElem?_getD, List.getElem?_append_left (by omega), ← List.getD_eq_getElem?_getD, List.getD_eq_getElem?_getD (l := M ++ [r]), List.getElem?_append_left hlt, ← List.getD_eq_getElem?_getD]
    refine (h5 i hlt).kept (by omega) (fun b hf hbw => ?_) (fun b hf hbw => ⟨hf.1, by omega, fun e => ?_⟩)
    · rw [grown_keeps hg (by omega) hf.2.2]; exact hb12.block b hf.2.1
    · rcases hat with h | h
      · exact hf.2.2 (h ▸ e)
      · rw [h] at e; injection e with e; omega
  · have e1 : i = M.length := by simp at hi; omega
    subst e1
    rw [List.getD_eq_getElem?_getD, List.getElem?_append_right (by omega), List.getD_eq_getElem?_getD (l := M ++ [r]), List.getElem?_append_right (by omega), h2, Nat.sub_self]
    refine hr.kept (by omega) (fun b hf hbw => ?_) (fun b hf hbw => ⟨by omega, by omega, fun e => ?_⟩)
    · rw [grown_keeps hg (by omega) (fun e => by have := hAw b e; omega)]; exact hb2.block b hbw
    · rcases hat with h | h
      · rw [h] at e; have := hAw b e; omega
      · rw [h] at e; injection e with e; omega
end Go.Proofs.Ytbfogcfgcoljkaa.Ql

/-
  The match that words ask for: the program's Compile.
-/
namespace Go.Proofs.Ytbfogcfgcoljkaa.Qm
open Go.ChangeShapes Go.WideShapes Go.ChangeAt Go.RowKit
open Bytes8 Blk8 Own8 OwnM OwnE OwnA Dc Fa Fb Fc Fo Pr8 Pv8 Qa Qb Qd Qj Ql
open Fsp (split_any Splitted)
set_option linter.unusedVariables false
set_option maxRecDepth 100000
set_option linter.unusedSimpArgs false

theorem at_slot (n : Nat) {P : Program} {ops : Array Oper} {Q : Exit → Act → World → Prop} {rest : List Oper} {a : Act} {w : World} {op : Op} {ty : TypeId} {pos : String} {af : Array Edge} {gd : Option (Nat × Bool)}
    (h : wpList P ops Q (⟨some n, op, ty, pos, af, gd⟩ :: rest) a w) : wpList P ops Q (⟨some n, op, ty, pos, af, gd⟩ :: rest) a w := h
theorem drop_cons {ws : List TX} {k : Nat} (hk : k < ws.length) : ws.drop k = ws.getD k [] :: ws.drop (k + 1) := by
  rw [List.drop_eq_getElem_cons hk, List.getD_eq_getElem?_getD, List.getElem?_eq_getElem hk]; rfl
theorem comp_plus {ws : List TX} {k : Nat} {M : List RW} {row : List PR} (hk : k < ws.length) (hx : ws.getD k [] = [43]) (h : row = [] ∨ ws.drop (k + 1) = []) : comp (ws.drop k) M row = (20, []) := by
  rw [drop_cons hk, comp, if_pos hx, if_pos h]
theorem comp_more {ws : List TX} {k : Nat} {M : List RW} {row : List PR} (hk : k < ws.length) (hx : ws.getD k [] = [43]) (h : ¬ (row = [] ∨ ws.drop (k + 1) = [])) : comp (ws.drop k) M row = comp (ws.drop (k + 1)) (M ++ [canon row]) [] := by
  rw [drop_cons hk, comp, if_pos hx, if_neg h]
theorem comp_bad {ws : List TX} {k : Nat} {M : List RW} {row : List PR} (hk : k < ws.length) (hx : ws.getD k [] ≠ [43]) (h : splitE (ws.getD k []) ≠ 0) : comp (ws.drop k) M row = (splitE (ws.getD k []), []) := by
  rw [drop_cons hk, comp, if_neg hx, if_neg h]
theorem comp_word {ws : List TX} {k : Nat} {M : List RW} {row : List PR} (hk : k < ws.length) (hx : ws.getD k [] ≠ [43]) (h : splitE (ws.getD k []) = 0) : comp (ws.drop k) M row = comp (ws.drop (k + 1)) M (row ++ [(splitN (ws.getD k []), splitV (ws.getD k []))]) := by
  rw [drop_cons hk, comp, if_neg hx, if_pos h]
theorem T_plus (x : TX) (hx : AllB x) : ((T x).toList == [43]) = decide (x = [43]) := by
  rw [show ([43] : List UInt8) = (T [43]).toList by rw [T_toList]; rfl]
  exact T_beq hx (fun y hy => by simp at hy; subst hy; decide)
theorem ownP_some {w : World} {base n c : Nat} {A : Option Addr} {l : List PR} (h : OwnP w base A n c l) (hn : 0 < n) : ∃ g, A = some ⟨g, 0, none⟩ := by
  rcases h.2.2.2.2 with ⟨_, h0⟩ | ⟨g, cap, cur, he, hb, _⟩
  · omega
  · injection he with e1 e2 e3; exact ⟨g, e1⟩
def Compd (r : Int × List RW) (w : World) (e : Ending) (w' : World) : Prop := ∃ A' c', e = .returned (.tuple #[.agg #[.slice A' r.2.length c'], .int .i64 r.1]) ∧ Mts w' A' r.2 ∧ Below w.heap.size w w' ∧ r.2.length ≤ c'
theorem compd_none {ws : List TX} {r : Int} {w w' : World} {e : Ending} (h : compM ws = (r, [])) (he : e = .returned (.tuple #[.agg #[.slice none 0 0], .int .i64 r])) (hb : Below w.heap.size w w') : Compd (compM ws) w e w' := by
  rw [h]; exact ⟨none, 0, he, Mts.nil _ _, hb, Nat.le_refl _⟩
theorem rowsC_cap {w : World} {B0 B5 : Nat} {A : Option Addr} {n c : Nat} {M : List RW} (h : RowsC w B0 B5 A n c M) : M.length ≤ c := by
  obtain ⟨h1, _, V, _, h3, _⟩ := h
  rcases h3.2.2 with ⟨_, h0⟩ | ⟨g, cap, cur, he, _, _, hnc, _⟩
  · omega
  · injection he with _ _ e3
    omega
theorem ownP_keptB {w w' : World} {base B n c : Nat} {A : Option Addr} {l : List PR} (h : OwnP w base A n c l) (hb : Below B w w') (hB : w.heap.size ≤ B) : OwnP w' base A n c l := h.kept hb hB
theorem split_ok {x : TX} (hx : AllB x) (hl : x.length ≤ 900000) : okP (splitN x, splitV x) := by
  have h1 : (splitN x).length ≤ x.length := by
    unfold splitN
    split
    · rw [List.length_take]; exact Nat.min_le_right _ _
    · exact Nat.zero_le _
  have h2 : (splitV x).length ≤ x.length := by
    unfold splitV
    split
    · rw [List.length_drop]; omega
    · exact Nat.zero_le _
  exact ⟨splitN_all hx, splitV_all hx, by unfold maxLen; show (splitN x).length ≤ _; omega, by unfold maxLen; show (splitV x).length ≤ _; omega⟩
set_option maxHeartbeats 16000000 in
theorem compile_any (a : Option Addr) (ws : List TX) (n c : Nat) (w : World) (hT : Txts w a ws) (hL : ws.length = n) (hA : ∀ v ∈ ws, AllB v ∧ v.length ≤ 900000) (hn : n ≤ 1000000) :
    Calls Try.prog 9 #[.slice a n c] w (Compd (compM ws) w) := by
  have HT := Lib.hid hT
  have HL := Lib.hid hL
  have HA := Lib.hid hA
  have b1 := (Below.refl w.heap.size w).alloc (Nat.le_refl _) (.cells #[.slice none 0 0] 25)
  have R1 := Lib.hid (Blk.new w [.slice none 0 0] 25)
  have hz1 : (w.alloc (.cells #[.slice none 0 0] 25)).heap.size = w.heap.size + 1 := by simp
  have HB1 := Lib.hid b1
  have HN1 := Lib.hid (RowsC.nil (w.alloc (.cells #[.slice none 0 0] 25)) (w.heap.size + 1) (by rw [hz1]; exact Nat.le_refl _))
  have HO1 := Lib.hid (OwnP.nil (w.alloc (.cells #[.slice none 0 0] 25)) (w.alloc (.cells #[.slice none 0 0] 25)).heap.size (Nat.le_refl _))
  have HZ1 := Lib.hid (Nat.le_of_eq hz1.symm)
  by_cases h32 : 32 < n
  · have HR := Lib.hid (show compM ws = (21, []) by unfold compM; rw [if_pos (by omega)])
    have r0 := R1.out.cell (i := 0) rfl
    have rf := R1.out.frozen 0
    clear hT hL hA b1 hz1
    go_enter Try.func9, Try.ntmps9
    go_wp2_with fail
    refine bodyPost_ret (v := .tuple #[.agg #[.slice none 0 0], .int .i64 21]) (by simp [results_cell_tmp Try.results9, go_sem, r0, rf, Result.andThen]) rfl (compd_none HR.out rfl ?_)
    (repeat (first | (with_reducible exact HB1.out) | refine Below.setCell ?_ (by simp) _ | refine Below.alloc ?_ (by simp) _ | refine below_drewN ?_ _))
  · have HR := Lib.hid (show compM ws = comp (ws.drop 0) [] [] by unfold compM; rw [if_neg (by omega)]; rfl)
    clear hT hL hA b1 hz1
    go_enter Try.func9, Try.ntmps9
    go_upto_region 1 with fail
    generalize w.alloc (.cells #[.slice none 0 0] 25) = w1 at *
    go_wp2_with fail
    go_loopw [4, 5, 16] (fun z4 z5 i wr => ∃ (k nr n5 c4 c5 B5 : Nat) (A4 A5 : Option Addr) (M : List RW) (row : List PR), k ≤ n ∧ i = .int .i64 (k : Int) ∧ z4 = .slice A4 nr c4 ∧ z5 = .slice A5 n5 c5 ∧ nr ≤ k ∧ n5 ≤ k ∧ Hid (compM ws = comp (ws.drop k) M row) ∧ Hid (RowsC wr (w.heap.size + 1) B5 A4 nr c4 M) ∧ Hid (OwnP wr B5 A5 n5 c5 row) ∧ Hid (Blk wr w.heap.size [.slice none 0 0] 25) ∧ Hid (Below w.heap.size w wr) ∧ Hid (w.heap.size + 1 ≤ B5)) (fun _ _ i _ => n - (intOf i).toNat)
    case atStart => exact ⟨0, 0, 0, 0, 0, w1.heap.size, none, none, [], [], by omega, rfl, rfl, rfl, by omega, by omega, HR, HN1, HO1, R1, HB1, HZ1⟩
    case round =>
      clear HR HN1 HO1 R1 HB1 HZ1
      obtain ⟨k, nr, n5, c4, c5, B5, A4, A5, M, row, hk, rfl, rfl, rfl, hnr, hn5, HC, HRw, HOw, HBk, hB, hB5⟩ := hrel
      have k0 := HBk.out.cell (i := 0) rfl
      have kf := HBk.out.frozen 0
      by_cases hlt : k < n
      · obtain ⟨b, off, rfl, hbl, hc0⟩ := (HT.out.below hB.out) k (by have := HL.out; omega)
        have hin : (k : Int) < (n : Int) := by omega
        obtain ⟨hxA, hxl⟩ := HA.out (ws.getD k []) (getD_in (by have := HL.out; omega))
        have hp := T_plus (ws.getD k []) hxA
        by_cases hx : ws.getD k [] = [43]
        · rw [decide_eq_true hx] at hp
          by_cases hbad : row = [] ∨ k + 1 = n
          · have HCp := Lib.hid (HC.out.trans (comp_plus (by have := HL.out; omega) hx (hbad.imp id fun h => List.drop_eq_nil_of_le (by have := HL.out; omega))))
            have hcase : n5 = 0 ∨ (n5 ≠ 0 ∧ (k : Int) = (n : Int) - 1) := by
              rcases Nat.eq_zero_or_pos n5 with h | h
              · exact .inl h
              · refine .inr ⟨by omega, ?_⟩
                rcases hbad with h2 | h2
                · have := HOw.out.2.1; rw [h2] at this; simp at this; omega
                · omega
            clear hbad hx HC HRw HOw
            generalize T (ws.getD k []) = S at *
            rcases hcase with h0 | ⟨h0, h1⟩
            · subst h0
              go_wp2_with fail
              refine bodyPost_ret (v := .tuple #[.agg #[.slice none 0 0], .int .i64 20]) (by simp [results_cell_tmp Try.results9, go_sem, k0, kf, Result.andThen]) rfl (compd_none HCp.out rfl ?_)
              (repeat (first | (with_reducible exact hB.out) | refine Below.setCell ?_ (by simp) _ | refine Below.alloc ?_ (by simp) _ | refine below_drewN ?_ _))
            · have hz : ((n5 : Int) == 0) = false := by simp; omega
              have hz2 : ((k : Int) == (n : Int) - 1) = true := by simp; omega
              clear h1
              go_wp2_with fail
              refine bodyPost_ret (v := .tuple #[.agg #[.slice none 0 0], .int .i64 20]) (by simp [results_cell_tmp Try.results9, go_sem, k0, kf, Result.andThen]) rfl (compd_none HCp.out rfl ?_)
              (repeat (first | (with_reducible exact hB.out) | refine Below.setCell ?_ (by simp) _ | refine Below.alloc ?_ (by simp) _ | refine below_drewN ?_ _))
          · have hne : row ≠ [] := fun h => hbad (.inl h)
            have hkn : k + 1 ≠ n := fun h => hbad (.inr h)
            have hn5p : 1 ≤ n5 := by
              have := HOw.out.2.1
              have := List.length_pos_iff.2 hne
              omega
            have HCp := Lib.hid (HC.out.trans (comp_more (by have := HL.out; omega) hx (fun h => h.elim hne fun h => by have := List.drop_eq_nil_iff.1 h; have := HL.out; omega)))
            have hz : ((n5 : Int) == 0) = false := by simp; omega
            have hz2 : ((k : Int) == (n : Int) - 1) = false := by simp; omega
            clear hbad hx HC hne
            obtain ⟨g5, rfl⟩ := ownP_some HOw.out hn5p
            have HAl := Lib.hid (Qk.alts_any g5 n5 c5 B5 row wr HOw.out hn5p (by omega))
            obtain ⟨-, hB5s, V, hV, hOV, hAV, -⟩ := HRw.out
            have HV := Lib.hid hV
            have HOV := Lib.hid hOV
            have HAV := Lib.hid hAV
            have HAb := Lib.hid fun b (e : ownB A4 = some b) => (OwnE.ltB hOV b e).1
            clear hV hOV hAV
            have hB5' := hB5.out
            generalize T (ws.getD k []) = S at *
            go_wp2_with (first
                | (go_at_call 25; (with_reducible refine HAl.out.mono ?_); rintro e w2 ⟨A6, c6, rfl, hF, hb⟩; have HF := Lib.hid hF; have Hb := Lib.hid hb; have HOx := Lib.hid ((ownE_keptB HOV.out HAV.out hb).alloc (.cells #[.slice A6 (canon row).length c6] 48)); clear hF hb)
                | (at_builtin; refine wpList_append_elt_at rowElt rfl (.tmp 34) (.tmp 37) rfl (w.heap.size + 1) A4 nr c4 (cellsR M V) rfl HOx.out ⟨w2.heap.size, 0, none⟩ 1 1 [.slice A6 (canon row).length c6] rfl rfl (Blk.news (Blk.new w2 [.slice A6 (canon row).length c6] 48)) (by intro u hu; simp at hu; subst hu; rfl) (by omega) (by omega) (by unfold maxLen; omega) ?_; intro A7 c7 w3 ho7 hg7 hat7; have HM7 := Lib.hid (RowsC.more (w1 := w2) (w2 := w2.alloc (.cells #[.slice A6 (canon row).length c6] 48)) (A3 := A7) (c3 := c7) HRw.out HF.out Hb.out ((Below.refl _ _).alloc (Nat.le_refl _) _) (by have := hB5.out; omega) (fun V' _ h => by rw [ownE_one h HOx.out]; exact ho7) hg7 hat7); have HB7 := Lib.hid ((((Hb.out.mono hB5.out).alloc (Nat.le_trans hB5' (Nat.le_trans hB5s Hb.out.size)) _)).trans (below_grown hg7 (by have := Hb.out.size; simp; omega) (fun b e => HAb.out b e))); clear ho7 hg7 hat7))
            have HB8 := Lib.hid (hB.out.trans (HB7.out.mono (Nat.le_succ _)))
            have HK8 := Lib.hid (HBk.out.below HB7.out (Nat.lt_succ_self _))
            have HS8 := Lib.hid (Nat.le_trans (Nat.le_trans hB5' hB5s) HB7.out.size)
            have HO8 := Lib.hid (OwnP.nil w3 w3.heap.size (Nat.le_refl _))
            go_round
            case rel => exact ⟨k + 1, nr + 1, 0, c7, 0, w3.heap.size, A7, none, M ++ [canon row], [], by omega, by go_num, rfl, rfl, by omega, by omega, HCp, HM7, HO8, HK8, HB8, HS8⟩
            case measure => simp [intOf]; omega
        · rw [decide_eq_false hx] at hp
          have HCw := Lib.hid fun (he : splitE (ws.getD k []) = 0) => HC.out.trans (comp_word (by have := HL.out; omega) hx he)
          have HCb := Lib.hid fun (he : splitE (ws.getD k []) ≠ 0) => HC.out.trans (comp_bad (by have := HL.out; omega) hx he)
          clear hx HC
          generalize ws.getD k [] = x at *
          have HS := Lib.hid fun (cb : Nat) (W : World) (h : Bytes W (some ⟨wr.heap.size, 0, none⟩) x) => split_any (some ⟨wr.heap.size, 0, none⟩) x x.length cb W h rfl (by omega)
          unfold Splitted at HS
          dsimp only [pv] at HS
          have HOp := Lib.hid (split_ok hxA hxl)
          have HX := Lib.hid hxA
          have HXl := Lib.hid hxl
          clear hxA hxl
          go_upto_region 14 with (first
            | ((with_reducible apply at_slot 41); refine wpList_text rfl (.tmp 40) rfl x HX.out x.length rfl wr.heap.size rfl rfl ?_; intro cb w2 hbb hG; have HBb := Lib.hid hbb; have HG := Lib.hid hG.below; clear hbb hG)
            | (go_at_call 26; (with_reducible refine (HS.out _ _ HBb.out).mono ?_); rintro e w3 ⟨rfl, hb3⟩; have H3 := Lib.hid (HG.out.trans (hb3.mono HG.out.size)); clear hb3))
          have H4 := Lib.hid (H3.out.alloc H3.out.size (.cells #[.string (T (splitN x)), .string (T (splitV x))] 45))
          have R4 := Lib.hid (Blk.new w3 [.string (T (splitN x)), .string (T (splitV x))] 45)
          generalize hW4 : w3.alloc (.cells #[.string (T (splitN x)), .string (T (splitV x))] 45) = w4 at *
          clear hW4 H3 HG HBb HS
          generalize w3.heap.size = g3 at *
          have m0 := R4.out.cell (i := 0) rfl
          have m1 := R4.out.cell (i := 1) rfl
          have HB4 := Lib.hid (hB.out.trans (H4.out.mono hB.out.size))
          have HK4 := Lib.hid (HBk.out.below H4.out HBk.out.lt)
          have l0 := HK4.out.cell (i := 0) rfl
          have lf := HK4.out.frozen 0
          clear k0 kf hc0 hbl hp
          by_cases he : splitE x = 0
          · have HCp := Lib.hid (HCw.out he)
            have HO4 := Lib.hid (HOw.out.kept H4.out (Nat.le_refl _))
            have hB5s := HRw.out.2.1
            have HR4 := Lib.hid (HRw.out.kept (H4.out.mono hB5s))
            rw [he]
            clear he HCb HCw HX
            generalize splitN x = sn at *
            generalize splitV x = sv at *
            go_wp2_with (at_builtin; refine wpList_append_elt pairElt rfl (.tmp 49) (.tmp 51) rfl B5 A5 n5 c5 (cellsP row) rfl (HO4.out.2.2.alloc (.cells #[.string (T sn), .string (T sv)] 45)) ⟨w4.heap.size, 0, none⟩ 1 1 [.string (T sn), .string (T sv)] rfl rfl (Blk.news (Blk.new w4 [.string (T sn), .string (T sv)] 45)) (by intro u hu; simp at hu; rcases hu with rfl | rfl <;> rfl) (by omega) (by omega) ?_; intro A7 c7 w7 ho7 hb7; have HO7 := Lib.hid (show OwnP w7 B5 A7 (n5 + 1) c7 (row ++ [(sn, sv)]) from ⟨fun p hp => by rcases List.mem_append.1 hp with h | h; exact HO4.out.1 p h; rw [List.mem_singleton.1 h]; exact HOp.out, by rw [List.length_append, HO4.out.2.1]; rfl, by rw [cellsP_app]; exact ho7⟩); have H7 := Lib.hid (((Below.refl B5 w4).alloc (Nat.le_trans hB5s (H4.out.size)) (.cells #[.string (T sn), .string (T sv)] 45)).trans hb7); clear ho7 hb7)
            have HR7 := Lib.hid (HR4.out.kept H7.out)
            have HK7 := Lib.hid (HK4.out.below H7.out (by have := hB5.out; omega))
            have HB7 := Lib.hid (HB4.out.trans (H7.out.mono (by have := hB5.out; omega)))
            go_round
            case rel => exact ⟨k + 1, nr, n5 + 1, c4, c7, B5, A4, A7, M, row ++ [(sn, sv)], by omega, by go_num, rfl, rfl, by omega, by omega, HCp, HR7, HO7, HK7, HB7, hB5⟩
            case measure => simp [intOf]; omega
          · have HCp := Lib.hid (HCb.out he)
            have hbe : (splitE x != 0) = true := by simpa using he
            clear he HCb HCw HX HRw HOw
            generalize splitE x = se at *
            go_wp2_with fail
            refine bodyPost_ret (v := .tuple #[.agg #[.slice none 0 0], .int .i64 se]) (by simp [results_cell_tmp Try.results9, go_sem, l0, lf, Result.andThen]) rfl (compd_none HCp.out rfl ?_)
            (repeat (first | (with_reducible exact HB4.out) | refine Below.setCell ?_ (by simp) _ | refine Below.alloc ?_ (by simp) _ | refine below_drewN ?_ _))
      · obtain rfl : k = n := by omega
        have hdr : ws.drop k = [] := List.drop_eq_nil_of_le (by have := HL.out; omega)
        by_cases hrow : row = []
        · have hn0 : n5 = 0 := by have := HOw.out.2.1; rw [hrow] at this; simpa using this.symm
          have HCp := Lib.hid (show compM ws = (0, M) by rw [HC.out, hdr, comp, if_pos hrow])
          have HMt := Lib.hid fun v => (HRw.out.far (p := ⟨w.heap.size, 0, none⟩) (Nat.lt_succ_self _) v).mts
          have HNr := Lib.hid HRw.out.1
          have HCr := Lib.hid (rowsC_cap HRw.out)
          have hg0 := HBk.out.lt
          have HBf := Lib.hid hg0
          subst hn0
          clear hrow hdr HC HRw HOw hg0
          go_wp2_with fail
          refine bodyPost_ret (v := .tuple #[.agg #[.slice A4 nr c4], .int .i64 0]) (by simp [results_cell_tmp Try.results9, go_sem, k0, kf, Result.andThen]) rfl ?_
          unfold Compd
          rw [HCp.out]
          exact ⟨A4, c4, by rw [HNr.out], HMt.out _, hB.out.setCell (p := ⟨w.heap.size, 0, none⟩) (Nat.le_refl _) _, HCr.out⟩
        · have hn5p : 1 ≤ n5 := by
            have := HOw.out.2.1
            have := List.length_pos_iff.2 hrow
            omega
          have hz : decide (0 < (n5 : Int)) = true := by simp; omega
          have HCp := Lib.hid (show compM ws = (0, M ++ [canon row]) by rw [HC.out, hdr, comp, if_neg hrow])
          clear hrow hdr HC
          obtain ⟨g5, rfl⟩ := ownP_some HOw.out hn5p
          have HAl := Lib.hid (Qk.alts_any g5 n5 c5 B5 row wr HOw.out hn5p (by omega))
          obtain ⟨-, hB5s, V, hV, hOV, hAV, -⟩ := HRw.out
          have HV := Lib.hid hV
          have HOV := Lib.hid hOV
          have HAV := Lib.hid hAV
          have HAb := Lib.hid fun b (e : ownB A4 = some b) => (OwnE.ltB hOV b e).1
          clear hV hOV hAV
          have hB5' := hB5.out
          go_wp2_with (first
              | (go_at_call 25; (with_reducible refine HAl.out.mono ?_); rintro e w2 ⟨A6, c6, rfl, hF, hb⟩; have HF := Lib.hid hF; have Hb := Lib.hid hb; have HOx := Lib.hid ((ownE_keptB HOV.out HAV.out hb).alloc (.cells #[.slice A6 (canon row).length c6] 48)); clear hF hb)
              | (at_builtin; refine wpList_append_elt_at rowElt rfl (.tmp 57) (.tmp 60) rfl (w.heap.size + 1) A4 nr c4 (cellsR M V) rfl HOx.out ⟨w2.heap.size, 0, none⟩ 1 1 [.slice A6 (canon row).length c6] rfl rfl (Blk.news (Blk.new w2 [.slice A6 (canon row).length c6] 48)) (by intro u hu; simp at hu; subst hu; rfl) (by omega) (by omega) (by unfold maxLen; omega) ?_; intro A7 c7 w3 ho7 hg7 hat7; have HM7 := Lib.hid (RowsC.more (w1 := w2) (w2 := w2.alloc (.cells #[.slice A6 (canon row).length c6] 48)) (A3 := A7) (c3 := c7) HRw.out HF.out Hb.out ((Below.refl _ _).alloc (Nat.le_refl _) _) (by have := hB5.out; omega) (fun V' _ h => by rw [ownE_one h HOx.out]; exact ho7) hg7 hat7); have HB7 := Lib.hid ((((Hb.out.mono hB5.out).alloc (Nat.le_trans hB5' (Nat.le_trans hB5s Hb.out.size)) _)).trans (below_grown hg7 (by have := Hb.out.size; simp; omega) (fun b e => HAb.out b e))); clear ho7 hg7 hat7; have k8 := (HBk.out.below HB7.out (Nat.lt_succ_self _)).cell (i := 0) rfl; have f8 := (HBk.out.below HB7.out (Nat.lt_succ_self _)).frozen 0))
          refine bodyPost_ret (v := .tuple #[.agg #[.slice A7 (nr + 1) c7], .int .i64 0]) (by simp [results_cell_tmp Try.results9, go_sem, k8, f8, Result.andThen]) rfl ?_
          unfold Compd
          rw [HCp.out]
          exact ⟨A7, c7, by rw [HM7.out.1], (HM7.out.far (p := ⟨w.heap.size, 0, none⟩) (Nat.lt_succ_self _) _).mts, (hB.out.trans (HB7.out.mono (Nat.le_succ _))).setCell (p := ⟨w.heap.size, 0, none⟩) (Nat.le_refl _) _, rowsC_cap HM7.out⟩
end Go.Proofs.Ytbfogcfgcoljkaa.Qm

/-
  Plain: the match of whole words: small, and with a row.
-/
namespace Go.Proofs.Ytbfogcfgcoljkaa.Qs
open Go.ChangeShapes Go.WideShapes Go.ChangeAt Go.RowKit
open Bytes8 Blk8 Own8 OwnE Fa Fb Fc Fo Pr8 Pv8 Qa Qb Qc Qn Qp
open Qk (grp_len grp_ok)
set_option linter.unusedVariables false
set_option maxRecDepth 100000
set_option linter.unusedSimpArgs false

theorem canon_small (row : List PR) : (canon row).length ≤ row.length ∧ ((∀ p ∈ row, AllB p.1) → ∀ a ∈ canon row, a.2.length ≤ row.length) := by
  have hd := Qh.dd_len (sortN row) row.length
  rw [List.take_of_length_le (by rw [sortN_len]; exact Nat.le_refl _)] at hd
  obtain ⟨d1, d2⟩ := dd_fold (sortN row) [] .nil (sortN_up row) (fun a ha => by cases ha)
  rw [← grp_canon]
  refine ⟨Nat.le_trans (grp_len _ []) (by simp; exact hd), fun h a ha => ?_⟩
  have := (grp_ok (dd (sortN row)) [] 0 (fun _ h => by cases h) (fun p hp => h p ((sortN_mem row p).1 (((d2 p).1 hp).elim (fun h => by cases h) id))) a ha).2
  omega
theorem canon_ok {row : List PR} (h : ∀ p ∈ row, okP p) (hl : row.length ≤ 100000) : OkR (canon row) := by
  obtain ⟨h1, h2⟩ := canon_small row
  have h3 := h2 fun p hp => (h p hp).1
  have hM : 100000 ≤ maxLen := by decide
  refine ⟨fun a ha => ?_, by omega⟩
  have hv : ∀ v ∈ a.2, (a.1, v) ∈ row := fun v hv => (canon_in row (a.1, v)).1 ⟨a, ha, rfl, hv⟩
  refine ⟨?_, fun v hv' => ⟨(h _ (hv v hv')).2.1, (h _ (hv v hv')).2.2.2⟩, by have := h3 a ha; omega⟩
  rcases hc : a.2 with _ | ⟨v, vs⟩
  · exact absurd hc ((canon_ris row).each a ha).1
  · have := h _ (hv v (by rw [hc]; simp))
    exact ⟨this.1, this.2.2.1⟩
theorem split_ok' {x : TX} (hx : AllB x) (hl : x.length ≤ 900000) : okP (splitN x, splitV x) := by
  have h1 : (splitN x).length ≤ x.length := by
    unfold splitN
    split
    · rw [List.length_take]; exact Nat.min_le_right _ _
    · exact Nat.zero_le _
  have h2 : (splitV x).length ≤ x.length := by
    unfold splitV
    split
    · rw [List.length_drop]; omega
    · exact Nat.zero_le _
  exact ⟨splitN_all hx, splitV_all hx, by unfold maxLen; show (splitN x).length ≤ _; omega, by unfold maxLen; show (splitV x).length ≤ _; omega⟩
theorem comp_ok : ∀ (ws : List TX) (rows : List RW) (row : List PR), (∀ v ∈ ws, AllB v ∧ v.length ≤ 900000) → (∀ r ∈ rows, OkR r) → (∀ p ∈ row, okP p) → row.length + ws.length ≤ 100000 → (∀ r ∈ (comp ws rows row).2, OkR r) ∧ (comp ws rows row).2.length ≤ rows.length + ws.length + 1
  | [], rows, row, _, hR, hr, hl => by
    rw [comp]
    dsimp only
    split
    · exact ⟨hR, by omega⟩
    · refine ⟨fun r h => ?_, by simp⟩
      rcases List.mem_append.1 h with h | h
      · exact hR r h
      · rw [List.mem_singleton.1 h]; exact canon_ok hr (by simpa using hl)
  | x :: ws, rows, row, hw, hR, hr, hl => by
    have hl' : row.length + ws.length + 1 ≤ 100000 := by simpa [Nat.add_assoc] using hl
    rw [comp]
    split
    · split
      · exact ⟨(fun _ h => by cases h), Nat.zero_le _⟩
      · obtain ⟨h1, h2⟩ := comp_ok ws (rows ++ [canon row]) [] (fun v hv => hw v (by simp [hv])) (fun r h => by
          rcases List.mem_append.1 h with h | h
          · exact hR r h
          · rw [List.mem_singleton.1 h]; exact canon_ok hr (by omega)) (fun _ h => by cases h) (by simp; omega)
        exact ⟨h1, by simp at h2 ⊢; omega⟩
    · split
      · obtain ⟨h1, h2⟩ := comp_ok ws rows (row ++ [(splitN x, splitV x)]) (fun v hv => hw v (by simp [hv])) hR (fun p h => by
          rcases List.mem_append.1 h with h | h
          · exact hr p h
          · rw [List.mem_singleton.1 h]; exact split_ok' (hw x (by simp)).1 (hw x (by simp)).2) (by simp; omega)
        exact ⟨h1, by simp at h2 ⊢; omega⟩
      · exact ⟨(fun _ h => by cases h), Nat.zero_le _⟩
theorem compM_ok {ws : List TX} (h : ∀ v ∈ ws, AllB v ∧ v.length ≤ 900000) : OkM (compM ws).2 := by
  have hM : 100000 ≤ maxLen := by decide
  unfold compM
  split
  · exact ⟨(fun _ h => by cases h), Nat.zero_le _⟩
  · obtain ⟨h1, h2⟩ := comp_ok ws [] [] h (fun _ h => by cases h) (fun _ h => by cases h) (by simp; omega)
    exact ⟨h1, by simp at h2; omega⟩
theorem comp_some : ∀ (ws : List TX) (rows : List RW) (row : List PR), (comp ws rows row).1 = 0 → (rows ≠ [] ∨ row ≠ [] ∨ ws ≠ []) → (∀ x ∈ ws, x ≠ [43] → True) → (comp ws rows row).2 ≠ []
  | [], rows, row, _, h, _ => by
    rw [comp]
    dsimp only
    split
    · rename_i e
      rcases h with h | h | h
      · exact h
      · exact absurd e h
      · exact absurd rfl h
    · simp
  | x :: ws, rows, row, h0, _, ht => by
    rw [comp] at h0 ⊢
    split at h0
    · rename_i e
      rw [if_pos e]
      split at h0
      · cases h0
      · rename_i e2
        rw [if_neg e2]
        exact comp_some ws _ _ h0 (.inl (by simp)) (fun _ _ _ => trivial)
    · rename_i e
      rw [if_neg e]
      split at h0
      · rename_i e2
        rw [if_pos e2]
        exact comp_some ws _ _ h0 (.inr (.inl (by simp))) (fun _ _ _ => trivial)
      · rename_i e2
        exact absurd h0 e2
theorem compM_some {ws : List TX} (h : (compM ws).1 = 0) (hne : ws ≠ []) : (compM ws).2 ≠ [] := by
  unfold compM at h ⊢
  split at h
  · cases h
  · rename_i e
    rw [if_neg e]
    exact comp_some ws [] [] h (.inr (.inr hne)) (fun _ _ _ => trivial)
end Go.Proofs.Ytbfogcfgcoljkaa.Qs

/-
  The chapter's example of layer 17; few pairs.
-/
namespace Go.Proofs.Ytbfogcfgcoljkaa.Qr
open Go.ChangeShapes Go.WideShapes Go.ChangeAt Go.RowKit
open Bytes8 Blk8 Own8 OwnE Fa Fb Fc Fo Pr8 Pv8 Qa Qb Qc Qd Qn Numb Rows2
open Qm (compile_any Compd)
open Qo (holds_any)
open SeqP (pair_any Paired)
open Seq8
open Pq8 (okR_okP)
open Ps8 (okR)
set_option linter.unusedVariables false
set_option maxRecDepth 100000
set_option linter.unusedSimpArgs false

abbrev exW : List TX := [[65, 61, 49], [65, 61, 50], [66, 61, 51]]
abbrev exM : List RW := [[([65], [[49], [50]]), ([66], [[51]])]]
abbrev exP : List PR := [([66], [51]), ([65], [50])]
theorem ex_comp : compM exW = (0, exM) := by decide +kernel
theorem ex_hold : holdB exP exM = true := by decide +kernel
theorem ex_none : holdB [] [] = true := by decide +kernel
theorem small_M : OkM exM := by
  have h : ∀ v ∈ ([[65], [66], [49], [50], [51]] : List TX), OkT v := by
    intro v hv
    have : (v.all fun x => decide (0 ≤ x) && decide (x < 256)) = true ∧ v.length ≤ maxLen := by
      simp only [List.mem_cons, List.not_mem_nil, or_false] at hv
      rcases hv with rfl | rfl | rfl | rfl | rfl <;> exact ⟨by decide, by decide⟩
    exact ⟨Ff.small_all this.1, this.2⟩
  refine ⟨fun r hr => ⟨fun a ha => ?_, ?_⟩, by decide⟩
  · simp only [List.mem_cons, List.not_mem_nil, or_false] at hr
    subst hr
    simp only [List.mem_cons, List.not_mem_nil, or_false] at ha
    rcases ha with rfl | rfl
    · refine ⟨h _ (by simp), fun v hv => h v ?_, by decide⟩
      simp only [List.mem_cons, List.not_mem_nil, or_false] at hv ⊢
      rcases hv with rfl | rfl <;> simp
    · refine ⟨h _ (by simp), fun v hv => h v ?_, by decide⟩
      simp only [List.mem_cons, List.not_mem_nil, or_false] at hv ⊢
      subst hv; simp
  · simp only [List.mem_cons, List.not_mem_nil, or_false] at hr
    subst hr
    decide
theorem ex_all : ∀ v ∈ exW, AllB v ∧ v.length ≤ 900000 := by
  intro v hv
  have : (v.all fun x => decide (0 ≤ x) && decide (x < 256)) = true ∧ v.length ≤ 900000 := by
    simp only [List.mem_cons, List.not_mem_nil, or_false] at hv
    rcases hv with rfl | rfl | rfl <;> exact ⟨by decide, by decide⟩
  exact ⟨Ff.small_all this.1, this.2⟩
theorem ex_words (w : World) : Txts (w.alloc (.cells #[.string { data := #[65, 61, 49] }, .string { data := #[65, 61, 50] }, .string { data := #[66, 61, 51] }] 9)) (some ⟨w.heap.size, 0, none⟩) exW := fun i hi => by
  have hb := Blk.new w [.string { data := #[65, 61, 49] }, .string { data := #[65, 61, 50] }, .string { data := #[66, 61, 51] }] 9
  refine ⟨w.heap.size, 0, rfl, hb.lt, ?_⟩
  rw [Nat.zero_add]
  rcases i with _ | _ | _ | i
  · rw [hb.cell rfl, show T (exW.getD 0 []) = ({ data := #[65, 61, 49] } : ByteArray) by decide]
  · rw [hb.cell rfl, show T (exW.getD 1 []) = ({ data := #[65, 61, 50] } : ByteArray) by decide]
  · rw [hb.cell rfl, show T (exW.getD 2 []) = ({ data := #[66, 61, 51] } : ByteArray) by decide]
  · simp at hi; omega
theorem ex_pairs (w : World) : Prs (w.alloc (.cells #[.string { data := #[66] }, .string { data := #[51] }, .string { data := #[65] }, .string { data := #[50] }] 45)) (some ⟨w.heap.size, 0, none⟩) exP := by
  have hb := Blk.new w [.string { data := #[66] }, .string { data := #[51] }, .string { data := #[65] }, .string { data := #[50] }] 45
  refine ⟨fun p hp => ?_, fun i hi => ⟨w.heap.size, 0, rfl, hb.lt, ?_⟩⟩
  · simp only [List.mem_cons, List.not_mem_nil, or_false] at hp
    rcases hp with rfl | rfl <;> exact ⟨Ff.small_all (by decide), Ff.small_all (by decide), by decide, by decide⟩
  · rw [Nat.zero_add]
    rcases i with _ | _ | i
    · exact ⟨by rw [hb.cell rfl, show T (exP.getD 0 nil2).1 = ({ data := #[66] } : ByteArray) by decide], by rw [hb.cell rfl, show T (exP.getD 0 nil2).2 = ({ data := #[51] } : ByteArray) by decide]⟩
    · exact ⟨by rw [hb.cell rfl, show T (exP.getD 1 nil2).1 = ({ data := #[65] } : ByteArray) by decide], by rw [hb.cell rfl, show T (exP.getD 1 nil2).2 = ({ data := #[50] } : ByteArray) by decide]⟩
    · simp at hi; omega
set_option maxHeartbeats 8000000 in
theorem first_any (w : World) : Calls Try.prog 7 #[] w fun e w' => e = .returned (.bool true) ∧ Below w.heap.size w w' := by
  have b1 := (Below.refl w.heap.size w).alloc (Nat.le_refl _) (.cells #[.string { data := #[65, 61, 49] }, .string { data := #[65, 61, 50] }, .string { data := #[66, 61, 51] }] 9)
  have HC := Lib.hid (compile_any (some ⟨w.heap.size, 0, none⟩) exW 3 3 _ (ex_words w) rfl ex_all (by decide))
  have B1 := Lib.hid b1
  rw [ex_comp] at HC
  unfold Compd at HC
  dsimp only [exM, List.length] at HC
  clear b1
  go_enter Try.func7, Try.ntmps7
  go_upto_region 2 with (go_at_call 9; (with_reducible refine HC.out.mono ?_); rintro e w2 ⟨A2, c2, rfl, hm, hb, -⟩; have HM := Lib.hid hm; have B2 := Lib.hid (B1.out.trans (hb.mono B1.out.size)); clear hm hb)
  have R3 := Lib.hid (Blk.new w2 [.slice A2 1 c2] 25)
  have b3 := (Below.refl w2.heap.size w2).alloc (Nat.le_refl _) (.cells #[.slice A2 1 c2] 25)
  have M3 := Lib.hid (HM.out.below b3)
  have B3 := Lib.hid (B2.out.trans (b3.mono B2.out.size))
  clear b3
  change Hid (Blk (w2.alloc (.cells #[.slice A2 1 c2] 25)) _ _ _) at R3
  generalize w2.alloc (.cells #[.slice A2 1 c2] 25) = w3 at *
  generalize w2.heap.size = g3 at *
  obtain ⟨b, off, A3, c3, rfl, hbl, k0, hA⟩ := M3.out 0 (by decide)
  obtain ⟨b', off', A4, c4, rfl, hbl2, l0, l1, _⟩ := hA 0 (by decide)
  have r0 := R3.out.cell (i := 0) rfl
  change w3.cell? ⟨b, off + 0, none⟩ = some (.slice _ 2 c3) at k0
  change w3.cell? ⟨b', off' + 0 * 2 + 1, none⟩ = some (.slice A4 2 c4) at l1
  simp only [Nat.add_zero, Nat.zero_mul] at k0 l1
  have b4 := (Below.refl w3.heap.size w3).alloc (Nat.le_refl _) (.cells #[.string { data := #[66] }, .string { data := #[51] }, .string { data := #[65] }, .string { data := #[50] }] 45)
  have H1 := Lib.hid (holds_any exP (some ⟨w3.heap.size, 0, none⟩) 2 2 exM (some ⟨b, off, none⟩) c2 _ (ex_pairs w3) rfl (by decide) (M3.out.below b4) small_M)
  have H2 := Lib.hid fun W => holds_any [] none 0 0 [] none 0 W (Prs.nil W none) rfl (by decide) (Mts.nil W none) ⟨(fun _ h => by cases h), Nat.zero_le _⟩
  have B4 := Lib.hid (B3.out.trans (b4.mono B3.out.size))
  rw [ex_hold] at H1
  simp only [ex_none] at H2
  dsimp only [Qd.mtV, exM, List.length] at H1 H2
  clear hA hbl hbl2 l0 b4
  go_wp2_with (first
    | (go_at_call 17; (with_reducible refine H1.out.mono ?_); rintro e w5 ⟨rfl, hb⟩; have B5 := Lib.hid (B4.out.trans (hb.mono B4.out.size)); clear hb)
    | (go_at_call 17; (with_reducible refine (H2.out _).mono ?_); rintro e w6 ⟨rfl, hb⟩; have B6 := Lib.hid (B5.out.trans (hb.mono B5.out.size)); clear hb))
  go_ret
  exact ⟨rfl, B6.out⟩
/-- Pairs out of numbers. -/
def Made6 (gq : Nat) (w : World) (e : Ending) (w' : World) : Prop :=
  ∃ (L : List PR) (A : Option Addr) (c : Nat), e = .returned (.slice A L.length c) ∧ OwnP w' w.heap.size A L.length c L ∧ ((∀ p ∈ L, okR p) ∧ L.length ≤ 6) ∧ KeptB w.heap.size gq w w'
set_option maxHeartbeats 2000000 in
set_option maxRecDepth 100000 in
theorem pairs6_any (gq : Nat) (a : Option Addr) (len cap : Nat) (f : Nat → Int) (k : Nat) (w : World) (h : SeqIn w gq a len cap f k) :
    Calls Try.prog 21 #[.pointer (some ⟨gq, 0, none⟩), .int .i64 6] w (Made6 gq w) := by
  have hgq := h.1.lt
  have S0 := Lib.hid h
  clear h
  unfold Made6
  go_enter Try.func21, Try.ntmps21
  go_wp2_with (go_at_call 39; (with_reducible refine (seqN_any gq a len cap f k 6 w (by decide) (by decide) S0.out).mono ?_); rintro e w1 ⟨r, k1, rfl, hr, hS, hK⟩; have S1 := Lib.hid hS; have K1 := Lib.hid hK; clear hS hK)
  go_loopw [5, 6] (fun s i wr => ∃ (j n : Nat) (A : Option Addr) (c k2 : Nat) (L : List PR), i = .int .i64 (j : Int) ∧ s = .slice A n c ∧ n + j = r + 1 ∧ n ≤ 6 ∧ j ≤ 6 ∧ Hid (OwnP wr w.heap.size A n c L) ∧ Hid (∀ p ∈ L, okR p) ∧ Hid (SeqIn wr gq a len cap f k2) ∧ Hid (KeptB w.heap.size gq w wr)) (fun _ i _ => (intOf i).toNat)
  case atStart => exact ⟨r + 1, 0, none, 0, k1, [], by go_num, rfl, by omega, by omega, by omega, Lib.hid (OwnP.nil w1 _ K1.out.size), Lib.hid (fun p hp => by cases hp), S1, K1⟩
  case round =>
    obtain ⟨j, n, A, c, k2, L, rfl, rfl, hnj, hn, hj, hO, hR, hS, hK⟩ := hrel
    cases j with
    | zero =>
      have hlen := hO.out.2.1
      go_wp2
      go_ret
      exact ⟨L, A, c, by rw [hlen]; rfl, by rw [hlen]; exact hO.out, ⟨hR.out, by omega⟩, hK.out⟩
    | succ j =>
      have e : ((j + 1 : Nat) : Int) = (j : Int) + 1 := by omega
      have hpos : (0 : Int) < (j : Int) + 1 := by omega
      rw [e]
      go_wp2_with (first
        | (go_at_call 23; (with_reducible refine (pair_any gq a len cap f k2 wr hS.out).mono ?_); rintro e w2 ⟨p1, p2, k3, rfl, hok, hS2, hK2⟩; have HOk := Lib.hid hok; have S2 := Lib.hid hS2; have O2 := Lib.hid (Pq8.OwnP.keptB hO.out hK2 hgq); have K2 := Lib.hid (hK.out.trans (hK2.mono hK.out.size)); dsimp only [pv]; clear hok hS2 hK2)
        | (at_builtin; refine wpList_append_elt pairElt rfl (.tmp 15) (.tmp 18) rfl w.heap.size A n c (cellsP L) rfl (O2.out.2.2.alloc (.cells #[.string (T p1), .string (T p2)] 45)) ⟨w2.heap.size, 0, none⟩ 1 1 [.string (T p1), .string (T p2)] rfl rfl (Blk.news (Blk.new w2 [.string (T p1), .string (T p2)] 45)) (by intro u hu; simp at hu; rcases hu with rfl | rfl <;> rfl) (by omega) (by omega) ?_; intro A2 c2 w3 ho2 hbel2; have HO4 := Lib.hid ho2; have K4 := Lib.hid ((K2.out.alloc K2.out.size (.cells #[.string (T p1), .string (T p2)] 45)).trans (KeptB.of_below hbel2)); have S4 := Lib.hid ((Blk.alloc S2.out.1 (.cells #[.string (T p1), .string (T p2)] 45)).below hbel2 hgq); clear ho2 hbel2))
      go_round
      case rel =>
        refine ⟨j, n + 1, A2, c2, k3, L ++ [(p1, p2)], rfl, rfl, by omega, by omega, by omega, Lib.hid ⟨?_, ?_, ?_⟩, Lib.hid ?_, Lib.hid ⟨S4.out, ints_keptB S0.out.2.1 K4.out S0.out.2.2.1, S2.out.2.2⟩, K4⟩
        · intro q hq
          rcases List.mem_append.1 hq with h | h
          · exact hO.out.1 q h
          · simp at h; subst h; exact okR_okP HOk.out
        · rw [List.length_append, hO.out.2.1]; rfl
        · rw [cellsP_app]; exact HO4.out
        · intro q hq
          rcases List.mem_append.1 hq with h | h
          · exact hR.out q h
          · simp at h; subst h; exact HOk.out
      case measure => simp [intOf] <;> omega
end Go.Proofs.Ytbfogcfgcoljkaa.Qr
