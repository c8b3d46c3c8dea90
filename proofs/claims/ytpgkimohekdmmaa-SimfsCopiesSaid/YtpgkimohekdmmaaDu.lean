/-
  What Copy needs: the next file of a map; copies of a map of names and of a row of rows.
-/
import Derived.Test.YtpgkimohekdmmaaCl
import Derived.Test.YtpgkimohekdmmaaDs
namespace Go.Proofs.Ytpgkimohekdmmaa.Du
open Go.ChangeShapes Go.WideShapes Go.ChangeAt Go.RowKit
open Bytes8 Blk8 Own8 OwnA OwnM OwnE Fa Fo Ta Ua Kf Dm Dp Dc Dd Ds Sfb Go.Maps
set_option linter.unusedVariables false
set_option linter.unusedSimpArgs false
set_option maxRecDepth 100000

theorem rP_ptr (v : Value) (y : DU × List MemPlace) (h : rP v = some y) : ∃ q, v = .pointer q := by
  unfold rP at h
  split at h
  · exact ⟨_, rfl⟩
  · exact ⟨_, rfl⟩
  · cases h
theorem same_keyI (i j : Nat) : (kI i).sameKey (kI j) = decide (i = j) := by
  by_cases e : i = j
  · subst e; rw [WideAt.sameKey_self (kI_key i)]; simp
  · rw [sameKey_ne (fun h => e (kI_inj h))]; simp [e]
/-- What stands at the next number. -/
theorem next_file {D : DU} {S : Nat → Bool} {gs : Nat → Nat} (hV : FilesV D S gs) {x : Int} {q : Option Addr} {kl : Lit} {y : DU × List MemPlace} (hk : keyOf Try.prog 3 (.int .i64 x) = some kl) (hy : rP (.pointer q) = some y) (hat : ∀ zd, D.atKey kl zd = y.1) :
    ∃ i : Nat, x = (i : Int) ∧ kl = kI i ∧ S i = true ∧ q = some ⟨gs i, 0, none⟩ := by
  obtain ⟨x', e1, rfl, hw⟩ := Maps.keyOf_int_inv Try.underlying3 hk
  injection e1 with _ e1
  subst e1
  have hh : Maps.has D (.int .i64 x) = true := has_true_of_atKey (y := y.1) hat
  obtain ⟨i, hi⟩ := hV.keys _ hh
  have hxi : x = (i : Int) := by
    unfold kI at hi
    injection hi with _ hi
  subst hxi
  have hS : S i = true := (hV.has i).symm.trans hh
  refine ⟨i, rfl, rfl, hS, ?_⟩
  have h1 := hV.at_ i .nil
  rw [if_pos hS] at h1
  have h2 := (hat .nil).symm.trans h1
  have h3 := rP_inv (v := .pointer q) (g := gs i) (ps := y.2) (by rw [hy, ← h2])
  injection h3
theorem keyI_ptr (key : Value) (kl : Lit) (h : keyOf Try.prog 3 key = some kl) : ∃ x, key = .int .i64 x := by
  obtain ⟨x, hx, _⟩ := Maps.keyOf_int_inv Try.underlying3 h
  exact ⟨x, hx⟩

/-- What has been met. -/
def met (S : Nat → Bool) (left : Lit → Bool) (j : Nat) : Bool := S j && !left (kI j)
theorem met_start {D : DU} {S : Nat → Bool} {gs : Nat → Nat} (h : FilesV D S gs) : met S (Maps.has D) = fun _ => false := funext fun j => by
  unfold met; rw [h.has]; cases S j <;> rfl
theorem met_end {S : Nat → Bool} {left : Lit → Bool} (h : ∀ kl, left kl = false) : met S left = S := funext fun j => by
  unfold met; rw [h]; cases S j <;> rfl
theorem met_step {S : Nat → Bool} {left : Lit → Bool} {i : Nat} (hi : S i = true) : (fun j => met S left j || j == i) = met S (fun z => left z && !z.sameKey (kI i)) := funext fun j => by
  show (S j && !left (kI j) || j == i) = (S j && !(left (kI j) && !(kI j).sameKey (kI i)))
  rw [same_keyI]
  by_cases e : j = i
  · subst e; rw [hi]; simp
  · simp [e]

/-- The library's copy of a map of names. -/
theorem mclone_any (b k : Nat) (D : DU) (w : World) (h : w.ownsMap Try.prog 9 (plainElem Try.prog 3) b k D) :
    Calls Try.prog 47 #[.map (some b)] w fun e w' => e = .returned (.map (some w.heap.size)) ∧ w'.ownsMap Try.prog 9 (plainElem Try.prog 3) w.heap.size k D ∧ Below w.heap.size w w' :=
  (AnyW.maps_Clone_owns Try.cloneN 9 (plainElem Try.prog 3) b k D w h).mono fun e w' ⟨h1, h2, _, h4⟩ => ⟨h1, h2, h4⟩

/-- The library's copy of a row of rows. -/
theorem sclone_any (w : World) (A : Option Addr) (n c : Nat) (us : List Und) (h : OwnE 73 1 w 0 A n c (us.map Und.val)) (hn : n ≤ 2000000) :
    Calls Try.prog 48 #[.slice A n c] w fun e w' => ∃ A' c', e = .returned (.slice A' n c') ∧ OwnE 73 1 w' w.heap.size A' n c' (us.map Und.val) ∧ Below w.heap.size w w' := by
  have q22 : ∀ (w : World) (a : Option Addr) (n c n' c' : Nat), (binOp .eql 54 (.slice a n c) (.slice none n' c')).run Try.prog w = .ok (.bool a.isNone) w := fun w a n c n' c' => Lib.run_eql_slice_nil w _ _ a n c n' c' Try.underlying54
  have hlen := h.len
  cases A with
  | none =>
    have hn0 : n = 0 := by
      rcases Nat.eq_zero_or_pos n with e | e
      · exact e
      · obtain ⟨g, e1, _⟩ := h.cell (i := 0) (by omega)
        cases e1
    subst hn0
    have hus : us = [] := by
      rw [List.length_map] at hlen
      exact List.eq_nil_of_length_eq_zero (by omega)
    subst hus
    clear h hlen
    go_enter Try.func48, Try.ntmps48
    go_wp2
    go_ret
    exact ⟨none, 0, rfl, OwnE.nil _ _ (Nat.le_refl _), Below.refl _ _⟩
  | some a =>
    have HO := Lib.hid (h.alloc (.cells #[] 73))
    have HL := Lib.hid hlen
    have HC : Hid (∀ j u, (us.map Und.val)[j]? = some u → (w.alloc (.cells #[] 73)).cell? (a.add j) = some u) := Lib.hid fun j u hj => by
      have hjl : j < (us.map Und.val).length := (List.getElem?_eq_some_iff.1 hj).1
      obtain ⟨g, e1, _, _, e4⟩ := HO.out.cell hjl
      injection e1 with e1
      rw [e1, add_none, Nat.zero_add, e4, hj]
    have HU : Hid (∀ u ∈ us.map Und.val, u.oneCell' = true) := Lib.hid fun u hu => by
      obtain ⟨x, _, rfl⟩ := List.mem_map.1 hu
      rfl
    clear h hlen
    generalize hX : us.map Und.val = X at *
    clear hX
    have hX1 : X.length = n * 1 := HL.out
    go_enter Try.func48, Try.ntmps48
    go_wp2_with (at_builtin; refine wpList_append_elt_at pendElt rfl (.tmp 5) (.tmp 6) rfl w.heap.size _ 0 0 [] rfl ⟨by simp, World.ownsRow_made w #[] 0 (Nat.le_refl _) (Nat.zero_le _) rfl⟩ a n c X rfl hX1 HC.out HU.out (by omega) (by omega) (by unfold maxLen; omega) ?_; intro A2 c2 w2 ho2 hg2 hat2; rw [Nat.zero_add, List.nil_append] at ho2; rw [Nat.zero_add]; have HO2 := Lib.hid ho2; clear ho2)
    go_ret
    exact ⟨A2, c2, rfl, HO2.out, ((Below.refl _ w).alloc (Nat.le_refl _) _).grown hg2 (by simp) (fun k hk => by cases hk; exact Nat.le_refl _)⟩
end Go.Proofs.Ytpgkimohekdmmaa.Du
