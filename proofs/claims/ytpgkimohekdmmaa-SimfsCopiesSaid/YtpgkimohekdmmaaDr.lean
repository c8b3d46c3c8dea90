/-
  The library's slices.Backward at the pending rows: what it hands back, and how its rounds go.
-/
import Derived.Test.YtpgkimohekdmmaaKf
import Derived.RangeFuncNested
import Derived.RangeFuncBox
import Derived.RangeFuncLeaves
import Derived.Shelf.Abstract
import Derived.WalkKit
import Derived.OwnWalkIn
import Derived.TacticsInMore
import Derived.LoopNIn
import Derived.LoopIn
namespace Go.Proofs.Ytpgkimohekdmmaa.Dr
open Go.ChangeShapes Go.WideShapes Go.ChangeAt Go.RowKit Go.Shelf
open Bytes8 Blk8 Kf
set_option linter.unusedVariables false
set_option linter.unusedSimpArgs false
set_option maxRecDepth 100000
attribute [local go_sem] Oper.semAt_some

/-- What a round leaves as it was. -/
def Kp (Mn n0 : Nat) (W W' : World) : Prop := KeptF (fun k => k = Mn ∨ n0 ≤ k) W W'
theorem Kp.trans {Mn n0 : Nat} {A B C : World} (h : Kp Mn n0 A B) (k : Kp Mn n0 B C) : Kp Mn n0 A C := KeptF.trans h k fun _ _ e => e
theorem Kp.put {Mn n0 : Nat} {w : World} (h0 : n0 ≤ w.heap.size) (W : World) (l : Nat) (o o' : Obj) (hl : w.heap.size ≤ l) (ho : W.heap[l]? = some o) (h1 : o.isCells = false) (h2 : o.isWalk = false) : Kp Mn n0 W (W.putObj l o') :=
  ⟨rfl, rfl, rfl, by simp, fun k _ hk => World.putObj_heap_other (fun e => hk (.inr (by omega)))⟩

/-- The places that came in k rounds, from the last one of m down. -/
def down (m k : Nat) : List Nat := (List.range k).map fun i => m - 1 - i
theorem down_succ (m k : Nat) : down m (k + 1) = down m k ++ [m - 1 - k] := by simp [down, List.range_succ]
theorem down_len (m k : Nat) : (down m k).length = k := by simp [down]

set_option maxHeartbeats 2000000 in
theorem back1_in (F : Fence) (n : Nat) (hf : F.fn 54) (hro : F.round = none) (hn : 1 ≤ n) (l Bs Mn n0 b off m cap : Nat) (vs : Nat → Value) (hv : ∀ j, ∃ A n c, vs j = .slice A n c) (hm : m ≤ 2000000) (hb : b < n0) (hb2 : b ≠ Mn) (hB : Bs < n0) (hB2 : Bs ≠ Mn) (J Jx : List Nat → World → Prop)
    (hY : ∀ pre x W, J pre W → pre.length < m → YieldAt F (n - 1) Try.prog l #[.int .i64 ((x : Nat) : Int), vs x] W fun e W' =>
      (e = .returned (.bool true) ∧ J (pre ++ [x]) W' ∧ Kp Mn n0 W W') ∨ (e = .returned (.bool false) ∧ Jx (pre ++ [x]) W'))
    (W : World) (hbl : b < W.heap.size) (hBl : Bs < W.heap.size) (hBs : W.cell? ⟨Bs, 0, none⟩ = some (.slice (some ⟨b, off, none⟩) m cap)) (hc : ∀ j, j < m → W.cell? ⟨b, off + j, none⟩ = some (vs j)) (h0 : J [] W) (hm0 : 0 < m) :
    CallsIn F n Try.prog 54 #[.func (.yield l) #[] #[], .pointer (some ⟨Bs, 0, none⟩)] W fun e W' => (∃ v, e = .returned v) ∧
      ((∃ ys, ys = down m m ∧ J ys W') ∨ (∃ pre, (∃ k, k ≤ m ∧ pre = down m k) ∧ Jx pre W')) := by
  obtain ⟨q, rfl⟩ : ∃ q, m = q + 1 := ⟨m - 1, by omega⟩
  have e1 : (((q + 1 : Nat) : Int)) - 1 = (q : Int) := by omega
  refine callsIn_of_wp Try.func54 rfl hf ?_ hro
  simp only [Try.ntmps54, List.size_toArray, List.length_cons, List.length_nil, Nat.reduceAdd, Nat.reduceSub, Array.replicate_succ, Array.replicate_zero, List.push_toArray, List.append_toArray, List.nil_append, List.cons_append]
  gi_wp2
  gi_loopw [3] (fun i wr => ∃ k : Nat, ((∃ j : Nat, i = .int .i64 (j : Int) ∧ j + k = q) ∨ (i = .int .i64 (-1) ∧ k = q + 1)) ∧ J (down (q + 1) k) wr ∧ Kp Mn n0 W wr)
    (fun i _ => (intOf i + 1).toNat)
  case atStart => exact ⟨0, .inl ⟨q, rfl, by omega⟩, h0, KeptF.refl _ _⟩
  case round =>
    obtain ⟨k, hk, hJs, hnx⟩ := hrel
    rcases hk with ⟨j, rfl, hjk⟩ | ⟨rfl, rfl⟩
    · have hcx : wr.cell? ⟨b, off + j, none⟩ = some (vs j) := (World.cell?_of_block (hnx.block b hbl (fun e => by rcases e with e | e <;> omega))).trans (hc j (by omega))
      have hbx : wr.cell? ⟨Bs, 0, none⟩ = some (.slice (some ⟨b, off, none⟩) (q + 1) cap) := (World.cell?_of_block (hnx.block Bs hBl (fun e => by rcases e with e | e <;> omega))).trans hBs
      have hjq : (j : Int) < ((q + 1 : Nat) : Int) := by omega
      have hj0 : (0 : Int) ≤ (j : Int) := by omega
      have hj1 : j < q + 1 := by omega
      have hjm : j ≤ 2000000 := by omega
      obtain ⟨fn, tmps, assign, body, hy, hR⟩ := hY _ j wr hJs (by rw [down_len]; omega)
      obtain ⟨va, vn, vc, hvj⟩ := hv j
      rw [hvj] at hy hcx
      have HD := Lib.hid (show down (q + 1) (k + 1) = down (q + 1) k ++ [j] by rw [down_succ, show q + 1 - 1 - k = j by omega])
      have HJ := Lib.hid hjk
      clear hjk hjq
      gi_wp2
      refine hR.mono ?_
      rintro e W3 (⟨rfl, hJ3, hk3⟩ | ⟨rfl, hJx3⟩)
      · rcases Nat.eq_zero_or_pos j with hj | hj
        · subst hj
          gi_wp2
          go_roundw
          case rel => exact ⟨k + 1, .inr ⟨by go_num, by have := HJ.out; omega⟩, by rw [HD.out]; exact hJ3, hnx.trans hk3⟩
          case measure => simp [intOf]
        · obtain ⟨j', rfl⟩ : ∃ j', j = j' + 1 := ⟨j - 1, by omega⟩
          have e2 : (((j' + 1 : Nat) : Int)) - 1 = (j' : Int) := by omega
          gi_wp2
          go_roundw
          case rel => exact ⟨k + 1, .inl ⟨j', by go_num, by have := HJ.out; omega⟩, by rw [HD.out]; exact hJ3, hnx.trans hk3⟩
          case measure => simp [intOf]; omega
      · gi_wp2
        refine bodyPost_ret (results_none rfl _ _ _) rfl ?_
        exact ⟨⟨_, rfl⟩, .inr ⟨_, ⟨k + 1, by have := HJ.out; omega, HD.out.symm⟩, hJx3⟩⟩
    · gi_wp2
      go_end0
      exact ⟨⟨_, rfl⟩, .inl ⟨_, rfl, hJs⟩⟩

set_option maxHeartbeats 1000000 in
theorem back0_in (F : Fence) (n : Nat) (hf : F.fn 54) (hro : F.round = none) (l Bs : Nat) (a : Option Addr) (cap : Nat) (J : List Nat → World → Prop) (W : World) (hBs : W.cell? ⟨Bs, 0, none⟩ = some (.slice a 0 cap)) (h0 : J [] W) :
    CallsIn F n Try.prog 54 #[.func (.yield l) #[] #[], .pointer (some ⟨Bs, 0, none⟩)] W fun e W' => (∃ v, e = .returned v) ∧ J [] W' := by
  refine callsIn_of_wp Try.func54 rfl hf ?_ hro
  simp only [Try.ntmps54, List.size_toArray, List.length_cons, List.length_nil, Nat.reduceAdd, Nat.reduceSub, Array.replicate_succ, Array.replicate_zero, List.push_toArray, List.append_toArray, List.nil_append, List.cons_append]
  gi_wp2
  gi_loopw [3] (fun i wr => i = .int .i64 (-1) ∧ J [] wr) (fun _ _ => 0)
  case atStart => exact ⟨rfl, h0⟩
  case round =>
    obtain ⟨rfl, hJs⟩ := hrel
    gi_wp2
    go_end0
    exact ⟨⟨_, rfl⟩, hJs⟩

theorem back_any (a : Option Addr) (len cap : Nat) (w : World) :
    Calls Try.prog 39 #[.slice a len cap] w fun e w' => e = .returned (.func (.func 54) #[] #[.pointer (some ⟨w.heap.size, 0, none⟩)]) ∧ w' = w.alloc (.cells #[.slice a len cap] 54) := by
  go_enter Try.func39, Try.ntmps39
  go_wp2
  go_ret
  exact ⟨rfl, rfl⟩

theorem back_stops (F : Fence) (n : Nat) (hf : F.fn 54) (hro : F.round = none) (hn : 1 ≤ n) (Bs Mn n0 m cap : Nat) (A : Option Addr) (vs : Nat → Value) (hv : ∀ j, ∃ A n c, vs j = .slice A n c) (hm : m ≤ 2000000) (w : World)
    (hB : Bs < n0) (hB2 : Bs ≠ Mn) (hn0 : n0 ≤ w.heap.size) (hBs : w.cell? ⟨Bs, 0, none⟩ = some (.slice A m cap)) (hc : ∀ j, j < m → ∃ b off, A = some ⟨b, off, none⟩ ∧ b < n0 ∧ b ≠ Mn ∧ w.cell? ⟨b, off + j, none⟩ = some (vs j)) :
    SeqStopsK F n Try.prog 54 #[.pointer (some ⟨Bs, 0, none⟩)] (fun x : Nat => #[.int .i64 ((x : Nat) : Int), vs x]) (Kp Mn n0) (fun ys => ys = down m m) (fun pre => ∃ k, k ≤ m ∧ pre = down m k) m w := fun l J Jx W hW _ _ hY h0 => by
  have hs := hW.size
  have hBs' := (hW.cell (p := ⟨Bs, 0, none⟩) (by show Bs < w.heap.size; omega)).trans hBs
  rcases Nat.eq_zero_or_pos m with h | h
  · subst h
    exact (back0_in F n hf hro l Bs A cap J W hBs' h0).mono fun e W' ⟨he, hj⟩ => ⟨he, .inl ⟨_, rfl, hj⟩⟩
  · obtain ⟨b, off, rfl, hb, hb2, _⟩ := hc 0 h
    refine (back1_in F n hf hro hn l Bs Mn n0 b off m cap vs hv hm hb hb2 hB hB2 J Jx hY W (by omega) (by omega) hBs' (fun j hj => ?_) h0 h).mono ?_
    · obtain ⟨b', off', e, _, _, h3⟩ := hc j hj
      injection e with e
      injection e with e1 e2
      subst e1; subst e2
      exact (hW.cell (p := ⟨b, off + j, none⟩) (by show b < w.heap.size; omega)).trans h3
    · rintro e W' ⟨he, ⟨ys, rfl, hj⟩ | ⟨pre, hk, hj⟩⟩
      · exact ⟨he, .inl ⟨_, rfl, hj⟩⟩
      · exact ⟨he, .inr ⟨pre, hk, hj⟩⟩
end Go.Proofs.Ytpgkimohekdmmaa.Dr
