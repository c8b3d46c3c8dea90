/-
  Two heads held against each other.
-/
import Derived.Test.YtekmbgcijkdkfaaGk
import Derived.DeepKeys
namespace Go.Proofs.Ytekmbgcijkdkfaa.Gs
open Go.ChangeShapes Go.WideShapes Go.ChangeAt Go.RowKit
open Bytes8 Blk8 Own8 OwnM OwnE LeA LeNum LeB LeP Ob Oc Od Ga Gb Gc Gd Gf Gi Gj
set_option linter.unusedVariables false
set_option linter.unusedSimpArgs false
set_option maxRecDepth 100000

theorem mapM_some {α β : Type} (F : α → Option β) : ∀ l : List α, (∀ a ∈ l, (F a).isSome = true) → (l.mapM F).isSome = true
  | [], _ => rfl
  | a :: l, h => by
    have h1 := h a (by simp)
    have h2 := mapM_some F l (fun b hb => h b (by simp [hb]))
    obtain ⟨x, hx⟩ := Option.isSome_iff_exists.1 h1
    obtain ⟨y, hy⟩ := Option.isSome_iff_exists.1 h2
    simp [List.mapM_cons, hx, hy]
theorem wf_u32 {x : Int} (h : 0 ≤ x ∧ x ≤ 4294967295) : (Lit.int .u32 x).wf = true := by simp [Lit.wf, IntKind.min, IntKind.max, IntKind.signed, IntKind.bits]; omega
theorem wf_i64 {x : Int} (h : -9223372036854775808 ≤ x ∧ x ≤ 9223372036854775807) : (Lit.int .i64 x).wf = true := by simp [Lit.wf, IntKind.min, IntKind.max, IntKind.signed, IntKind.bits]; omega
theorem wf_u64 {x : Int} (h : 0 ≤ x ∧ x ≤ 18446744073709551615) : (Lit.int .u64 x).wf = true := by simp [Lit.wf, IntKind.min, IntKind.max, IntKind.signed, IntKind.bits]; omega
theorem wf_u8 {x : Int} (h : 0 ≤ x ∧ x < 256) : (Lit.int .u8 x).wf = true := by simp [Lit.wf, IntKind.min, IntKind.max, IntKind.signed, IntKind.bits]; omega
theorem lit_at {P : Program} {D : Nat} (cs : List Value) (o : Nat) (k : IntKind) (v : Int) (T : TypeId) (hu : P.underlying T = some (.int k)) (hc : cs[o]? = some (.int k v)) (hw : (Lit.int k v).wf = true) : (P.keyLits (D + 1) T ((cs.drop o).take 1)).isSome = true := by
  have ho : o < cs.length := (List.getElem?_eq_some_iff.1 hc).1
  have e : (cs.drop o).take 1 = [.int k v] := by
    rw [List.drop_eq_getElem_cons ho]
    rw [List.getElem?_eq_getElem ho] at hc
    injection hc with hc
    rw [← hc]; rfl
  rw [e]
  unfold Program.keyLits
  rw [hu]
  simp [hw]
theorem cID : Try.prog.cellsOf 24 = 16 := by kernel_rfl
theorem c8 : Try.prog.cellsOf 5 = 1 := by kernel_rfl
theorem lit_id (h : HD) (ok : h.Ok 21) (k : Nat) (hk : k < 4) : (Try.prog.keyLits 2 24 (((h.cells 21).drop (3 + 16 * k)).take 16)).isSome = true := by
  unfold Program.keyLits
  rw [Try.underlying24]
  dsimp only
  rw [if_pos (by rw [cID, List.length_take, List.length_drop, HD.len]; omega), Option.isSome_map]
  refine mapM_some _ _ (fun i hi => ?_)
  have hi16 := List.mem_range.1 hi
  rw [c8, Nat.mul_one]
  refine lit_at _ i .u8 (h.I (16 * k + i)) _ Try.underlying5 ?_ (wf_u8 (ok.I _))
  rw [List.getElem?_take_of_lt hi16, List.getElem?_drop, Nat.add_assoc]
  exact h.get_I 21 (16 * k + i) (by omega)
theorem cH : Try.prog.cellsOf 40 = 91 := by kernel_rfl
theorem c32 : Try.prog.cellsOf 38 = 1 := by kernel_rfl
theorem c64 : Try.prog.cellsOf 22 = 1 := by kernel_rfl
theorem cInt : Try.prog.cellsOf 3 = 1 := by kernel_rfl
set_option maxHeartbeats 4000000 in
theorem head_lits (h : HD) (ok : h.Ok 21) : (Try.prog.keyLits 3 40 (h.cells 21)).isSome = true := by
  unfold Program.keyLits
  rw [Try.underlying40]
  dsimp only
  rw [if_pos ⟨by rw [cH, HD.len], by kernel_rfl⟩, Option.isSome_map]
  refine mapM_some _ _ (fun f hf => ?_)
  simp only [List.mem_cons, List.not_mem_nil, or_false] at hf
  rcases hf with rfl | rfl | rfl | rfl | rfl | rfl | rfl | rfl | rfl | rfl | rfl | rfl | rfl | rfl | rfl | rfl | rfl | rfl | rfl | rfl | rfl | rfl | rfl | rfl | rfl | rfl | rfl | rfl | rfl | rfl | rfl
  · simp only [c32, c64, cInt, cID]; exact lit_at _ 0 _ _ _ Try.underlying38 (h.get 21 0 (by decide)) (wf_u32 ok.cp)
  · simp only [c32, c64, cInt, cID]; exact lit_at _ 1 _ _ _ Try.underlying38 (h.get 21 1 (by decide)) (wf_u32 ok.ic)
  · simp only [c32, c64, cInt, cID]; exact lit_at _ 2 _ _ _ Try.underlying3 (h.get 21 2 (by decide)) (wf_i64 ok.st)
  · simp only [c32, c64, cInt, cID]; exact lit_id h ok 0 (by decide)
  · simp only [c32, c64, cInt, cID]; exact lit_id h ok 1 (by decide)
  · simp only [c32, c64, cInt, cID]; exact lit_id h ok 2 (by decide)
  · simp only [c32, c64, cInt, cID]; exact lit_id h ok 3 (by decide)
  · simp only [c32, c64, cInt, cID]; exact lit_at _ 67 _ _ _ Try.underlying22 (h.get_N 21 0 (by decide)) (wf_u64 (ok.N 0))
  · simp only [c32, c64, cInt, cID]; exact lit_at _ 68 _ _ _ Try.underlying22 (h.get_N 21 1 (by decide)) (wf_u64 (ok.N 1))
  · simp only [c32, c64, cInt, cID]; exact lit_at _ 69 _ _ _ Try.underlying22 (h.get_N 21 2 (by decide)) (wf_u64 (ok.N 2))
  · simp only [c32, c64, cInt, cID]; exact lit_at _ 70 _ _ _ Try.underlying22 (h.get_N 21 3 (by decide)) (wf_u64 (ok.N 3))
  · simp only [c32, c64, cInt, cID]; exact lit_at _ 71 _ _ _ Try.underlying22 (h.get_N 21 4 (by decide)) (wf_u64 (ok.N 4))
  · simp only [c32, c64, cInt, cID]; exact lit_at _ 72 _ _ _ Try.underlying22 (h.get_N 21 5 (by decide)) (wf_u64 (ok.N 5))
  · simp only [c32, c64, cInt, cID]; exact lit_at _ 73 _ _ _ Try.underlying22 (h.get_N 21 6 (by decide)) (wf_u64 (ok.N 6))
  · simp only [c32, c64, cInt, cID]; exact lit_at _ 74 _ _ _ Try.underlying22 (h.get_N 21 7 (by decide)) (wf_u64 (ok.N 7))
  · simp only [c32, c64, cInt, cID]; exact lit_at _ 75 _ _ _ Try.underlying22 (h.get_N 21 8 (by decide)) (wf_u64 (ok.N 8))
  · simp only [c32, c64, cInt, cID]; exact lit_at _ 76 _ _ _ Try.underlying22 (h.get_N 21 9 (by decide)) (wf_u64 (ok.N 9))
  · simp only [c32, c64, cInt, cID]; exact lit_at _ 77 _ _ _ Try.underlying22 (h.get_N 21 10 (by decide)) (wf_u64 (ok.N 10))
  · simp only [c32, c64, cInt, cID]; exact lit_at _ 78 _ _ _ Try.underlying22 (h.get_N 21 11 (by decide)) (wf_u64 (ok.N 11))
  · simp only [c32, c64, cInt, cID]; exact lit_at _ 79 _ _ _ Try.underlying22 (h.get_N 21 12 (by decide)) (wf_u64 (ok.N 12))
  · simp only [c32, c64, cInt, cID]; exact lit_at _ 80 _ _ _ Try.underlying22 (h.get_N 21 13 (by decide)) (wf_u64 (ok.N 13))
  · simp only [c32, c64, cInt, cID]; exact lit_at _ 81 _ _ _ Try.underlying22 (h.get_N 21 14 (by decide)) (wf_u64 (ok.N 14))
  · simp only [c32, c64, cInt, cID]; exact lit_at _ 82 _ _ _ Try.underlying22 (h.get_N 21 15 (by decide)) (wf_u64 (ok.N 15))
  · simp only [c32, c64, cInt, cID]; exact lit_at _ 83 _ _ _ Try.underlying22 (h.get_N 21 16 (by decide)) (wf_u64 (ok.N 16))
  · simp only [c32, c64, cInt, cID]; exact lit_at _ 84 _ _ _ Try.underlying22 (h.get_N 21 17 (by decide)) (wf_u64 (ok.N 17))
  · simp only [c32, c64, cInt, cID]; exact lit_at _ 85 _ _ _ Try.underlying22 (h.get_N 21 18 (by decide)) (wf_u64 (ok.N 18))
  · simp only [c32, c64, cInt, cID]; exact lit_at _ 86 _ _ _ Try.underlying22 (h.get_N 21 19 (by decide)) (wf_u64 (ok.N 19))
  · simp only [c32, c64, cInt, cID]; exact lit_at _ 87 _ _ _ Try.underlying22 (h.get_N 21 20 (by decide)) (wf_u64 (ok.N 20))
  · simp only [c32, c64, cInt, cID]; exact lit_at _ 88 _ _ _ Try.underlying38 (h.get_ta 21) (wf_u32 ok.ta)
  · simp only [c32, c64, cInt, cID]; exact lit_at _ 89 _ _ _ Try.underlying38 (h.get_ti 21) (wf_u32 ok.ti)
  · simp only [c32, c64, cInt, cID]; exact lit_at _ 90 _ _ _ Try.underlying22 (h.get_te 21) (wf_u64 ok.te)
def eqH (a b : Value) : Sem Value := binOp .eql 40 a b
theorem eq_fold (a b : Array Value) : binOp .eql 40 (.agg a) (.agg b) = eqH (.agg a) (.agg b) := rfl
theorem head_eql (h : HD) (ok : h.Ok 21) (w : World) : (eqH (.agg (h.cells 21).toArray) (.agg (h.cells 21).toArray)).run Try.prog w = .ok (.bool true) w := by
  obtain ⟨lx, hlx⟩ := Option.isSome_iff_exists.1 (head_lits h ok)
  have hfo : (Value.agg (h.cells 21).toArray).formed Try.prog 40 = true := by kernel_rfl
  obtain ⟨r, hr, hiff⟩ := run_equalIn_deep (P := Try.prog) 9997 3 40 (by kernel_rfl) w 3 3 (.agg (h.cells 21).toArray) (.agg (h.cells 21).toArray) lx lx hfo hfo hlx hlx
  have hr1 : r = true := hiff.2 rfl
  subst hr1
  unfold eqH
  rw [run_eql_struct, show (10000 : Nat) = 9997 + 3 from rfl, hr]
  rfl
end Go.Proofs.Ytekmbgcijkdkfaa.Gs
