/-
  An entry that was put is read: plain; places that rise.
-/
import Derived.Test.YteggjmnmlmhkfaaYi
namespace Go.Proofs.Yteggjmnmlmhkfaa.Ys
open Go.ChangeShapes Go.WideShapes Go.ChangeAt Go.RowKit
open Bytes8 Blk8 LeNum Ob Rows2 Yc Yp Yd Yg Yh Yj Yi
set_option linter.unusedVariables false
set_option linter.unusedSimpArgs false
set_option maxRecDepth 100000

abbrev U64 (x : Int) : Prop := 0 ≤ x ∧ x ≤ 18446744073709551615
theorem ent_split (s r m : Int) (K : Nat → Int) (x : Int) (ps : List Int) : entB s r m K x ps = nums [s, r, m] ++ (idL K ++ (nums [x] ++ nums ps)) := by unfold entB; simp
theorem ent_nums (s r m : Int) (K : Nat → Int) (x : Int) (ps : List Int) (hs : U64 s) (hr : U64 r) (hm : U64 m) (hx : U64 x) :
    u8 (entB s r m K x ps) 0 = s ∧ u8 (entB s r m K x ps) 8 = r ∧ u8 (entB s r m K x ps) 16 = m ∧ u8 (entB s r m K x ps) 40 = x := by
  rw [ent_split]
  refine ⟨nums_at [s, r, m] _ 0 0 rfl (by simp) hs, nums_at [s, r, m] _ 1 8 rfl (by simp) hr, nums_at [s, r, m] _ 2 16 rfl (by simp) hm, ?_⟩
  have h := u8_app (nums [s, r, m] ++ idL K) (nums [x] ++ nums ps) 40 0 (by rw [List.length_append, nums_len]; rfl)
  rw [List.append_assoc] at h
  rw [h]
  exact nums_at [x] _ 0 0 rfl (by simp) hx
theorem ent_K (s r m : Int) (K : Nat → Int) (x : Int) (ps : List Int) (i : Nat) (hi : i < 16) : itK (entB s r m K x ps) i = K i := by
  unfold itK
  rw [if_pos hi, ent_split, getD_app (nums [s, r, m]) _ 24 i (by rw [nums_len]; rfl), getD_cut _ _ _ (by simpa [idL] using hi)]
  unfold idL
  rcases i with _ | _ | _ | _ | _ | _ | _ | _ | _ | _ | _ | _ | _ | _ | _ | _ | i
  all_goals first | rfl | omega
theorem ent_items (s r m : Int) (K : Nat → Int) (x : Int) (f g : Nat → Int) (n i : Nat) (hi : i < n) (hf : Wd f n) (hg : Wd g n) :
    itA (entB s r m K x (prs f g n)) i = f i ∧ itH (entB s r m K x (prs f g n)) i = g i := by
  unfold itA itH entB
  have hl : (nums [s, r, m] ++ idL K ++ nums [x]).length = 48 := by rw [List.length_append, List.length_append, nums_len, nums_len]; rfl
  have h := prs_read f g n i hi hf hg []
  rw [List.append_nil] at h
  rw [u8_app _ _ 48 _ hl, Nat.add_assoc, u8_app _ _ 48 _ hl]
  exact h
theorem entV_cong {s r m : Int} {K K2 : Nat → Int} {x : Int} {A : Option Addr} {n c : Nat} (h : ∀ i, i < 16 → K i = K2 i) : entV s r m K x A n c = entV s r m K2 x A n c := by
  unfold entV
  rw [h 0 (by decide), h 1 (by decide), h 2 (by decide), h 3 (by decide), h 4 (by decide), h 5 (by decide), h 6 (by decide), h 7 (by decide), h 8 (by decide), h 9 (by decide), h 10 (by decide), h 11 (by decide), h 12 (by decide), h 13 (by decide), h 14 (by decide), h 15 (by decide)]
theorem ent_code (s r m : Int) (K : Nat → Int) (x : Int) (f g : Nat → Int) (n : Nat) (hs : U64 s) (hr : U64 r) (hm : U64 m) (hx : U64 x) (hf : Wd f n) (hg : Wd g n) (h0 : 0 < n) (hn : n ≤ 1000) :
    entC0 (objB 3 (entB s r m K x (prs f g n))) 0 = (if s = 0 then 13 else if risB f n then 0 else 11) := by
  have hl := entB_len s r m K x f g n
  obtain ⟨c1, c2, c3⟩ := obj_read 3 (entB s r m K x (prs f g n)) (by decide) (by decide) (by omega)
  have he : ecode (objB 3 (entB s r m K x (prs f g n))) 0 3 48 16 = 0 := ecode_fine (by decide) (by decide) (by omega) (by omega) (by omega)
  obtain ⟨n0, _⟩ := ent_nums s r m K x (prs f g n) hs hr hm hx
  have hN : itN (entB s r m K x (prs f g n)) = n := by unfold itN; rw [hl]; omega
  unfold entC0
  rw [he, if_neg (by decide), c3, n0, hN, risB_cong (fun i hi => (ent_items s r m K x f g n i hi hf hg).1)]
/-- What is told of an entry that was put. -/
theorem ent_back (s r m : Int) (K : Nat → Int) (x : Int) (f g : Nat → Int) (n : Nat) (hs : U64 s) (hr : U64 r) (hm : U64 m) (hx : U64 x) (hf : Wd f n) (hg : Wd g n) (h0 : 0 < n) (hn : n ≤ 1000) (hs0 : s ≠ 0) (hris : risB f n = true) :
    entC0 (objB 3 (entB s r m K x (prs f g n))) 0 = 0 ∧ eNum (objB 3 (entB s r m K x (prs f g n))) 0 0 = s ∧ eNum (objB 3 (entB s r m K x (prs f g n))) 0 8 = r ∧ eNum (objB 3 (entB s r m K x (prs f g n))) 0 16 = m ∧ eNum (objB 3 (entB s r m K x (prs f g n))) 0 40 = x
    ∧ (∀ i, i < 16 → eK (objB 3 (entB s r m K x (prs f g n))) 0 i = K i) ∧ eN (objB 3 (entB s r m K x (prs f g n))) 0 = n
    ∧ ∀ i, i < n → itA (bodyL (objB 3 (entB s r m K x (prs f g n))) 0) i = f i ∧ itH (bodyL (objB 3 (entB s r m K x (prs f g n))) 0) i = g i := by
  have hl := entB_len s r m K x f g n
  obtain ⟨c1, c2, c3⟩ := obj_read 3 (entB s r m K x (prs f g n)) (by decide) (by decide) (by omega)
  have hc := ent_code s r m K x f g n hs hr hm hx hf hg h0 hn
  rw [if_neg hs0, hris, if_pos rfl] at hc
  obtain ⟨t1, t2, t3⟩ := told_yes hc
  obtain ⟨n0, n8, n16, n40⟩ := ent_nums s r m K x (prs f g n) hs hr hm hx
  rw [t1, t1, t1, t1, t2, t3, c3]
  refine ⟨hc, n0, n8, n16, n40, fun i hi => ent_K s r m K x _ i hi, ?_, fun i hi => ent_items s r m K x f g n i hi hf hg⟩
  unfold itN; rw [hl]; omega
theorem ent_none (s r m : Int) (K : Nat → Int) (x : Int) (f g : Nat → Int) : entC0 (objB 3 (entB s r m K x (prs f g 0))) 0 = 5 := by
  have hl := entB_len s r m K x f g 0
  have he : ecode (objB 3 (entB s r m K x (prs f g 0))) 0 3 48 16 = 5 := ecode_short (by decide) (by decide) (by omega) (by omega)
  unfold entC0
  rw [he, if_pos (by decide)]
/-- Places that rise by steps. -/
def plc (d : Nat → Nat) : Nat → Nat
  | 0 => 0
  | k + 1 => plc d k + 1 + d k
theorem plc_le (d : Nat → Nat) (hd : ∀ i, d i < 90) (k : Nat) : plc d k ≤ 91 * k := by
  induction k with
  | zero => exact Nat.le_refl _
  | succ k ih => have := hd k; show plc d k + 1 + d k ≤ _; omega
def pA (d : Nat → Nat) (i : Nat) : Int := ((plc d (i + 1) : Nat) : Int)
theorem pA_ris (d : Nat → Nat) (n : Nat) : risB (pA d) n = true := by
  induction n with
  | zero => rfl
  | succ n ih =>
    cases n with
    | zero => rfl
    | succ n =>
      rw [risB, ih, Bool.true_and]
      apply decide_eq_true
      show ((plc d (n + 1) : Nat) : Int) < ((plc d (n + 1) + 1 + d (n + 1) : Nat) : Int)
      omega
theorem plc_mono (d : Nat → Nat) (i j : Nat) (h : i ≤ j) : plc d i ≤ plc d j := by
  induction j with
  | zero => obtain rfl : i = 0 := by omega
            exact Nat.le_refl _
  | succ j ih =>
    rcases Nat.lt_or_ge i (j + 1) with h1 | h1
    · have := ih (by omega)
      show _ ≤ plc d j + 1 + d j
      omega
    · obtain rfl : i = j + 1 := by omega
      exact Nat.le_refl _
/-- .. with one of them once more. -/
def badF (f : Nat → Int) (n j : Nat) (i : Nat) : Int := if i < n then f i else f j
theorem bad_ris (d : Nat → Nat) (n j : Nat) (hj : j < n) : risB (badF (pA d) n j) (n + 1) = false := by
  rw [risB_succ _ n (by omega)]
  have h : ¬ badF (pA d) n j (n - 1) < badF (pA d) n j n := by
    unfold badF pA
    rw [if_pos (by omega), if_neg (by omega)]
    have := plc_mono d (j + 1) (n - 1 + 1) (by omega)
    omega
  rw [decide_eq_false h, Bool.and_false]
theorem prs_cong {f g f2 g2 : Nat → Int} {n : Nat} (h : ∀ i, i < n → f i = f2 i ∧ g i = g2 i) : prs f g n = prs f2 g2 n := by
  induction n with
  | zero => rfl
  | succ n ih => rw [prs_succ, prs_succ, ih (fun i hi => h i (by omega)), (h n (by omega)).1, (h n (by omega)).2]
theorem bad_prs (f g : Nat → Int) (n j : Nat) : prs (badF f n j) (badF g n j) n = prs f g n :=
  prs_cong fun i hi => ⟨if_pos hi, if_pos hi⟩

abbrev eL (s r m : Int) (K : Nat → Int) (x : Int) (f g : Nat → Int) (n : Nat) : List Int := objB 3 (entB s r m K x (prs f g n))
abbrev eS (n : Nat) : Nat := 16 + (48 + 16 * n) + padN (48 + 16 * n)
theorem back_read (s r m : Int) (K : Nat → Int) (x : Int) (f g : Nat → Int) (n : Nat) (hs : U64 s) (hr : U64 r) (hm : U64 m) (hx : U64 x) (hf : Wd f n) (hg : Wd g n) (h0 : 0 < n) (hn : n ≤ 1000) (hs0 : s ≠ 0) (hris : risB f n = true) (W : World) (base : Nat) (B : Option Addr) (c : Nat) (ho : Own8.Own W base B (eS n) c (eL s r m K x f g n)) :
    Calls Try.prog 9 #[.slice B (eS n) c, .int .u64 0] W fun e w' => ∃ A2 c2, e = .returned (.tuple #[entV s r m K x A2 n c2, .int .i64 0]) ∧ Below W.heap.size W w' ∧ In2 w' A2 n f g := by
  obtain ⟨b1, b2, b3, b4, b5, b6, b7, b8⟩ := ent_back s r m K x f g n hs hr hm hx hf hg h0 hn hs0 hris
  refine (read_0 B _ _ c W ho.bytes ho.2.1 (by have := padN_le (48 + 16 * n); unfold eS; omega) (OwnM.own_cap ho).1 (OwnM.own_cap ho).2).mono fun e w' ⟨A2, c2, h1, h2, h3⟩ => ⟨A2, c2, ?_, h2, ?_⟩
  · rw [h1, b2, b3, b4, b5, b7, b1, entV_cong b6]
  · rw [b7] at h3
    exact In2.cong h3 b8
theorem back_code (s r m : Int) (K : Nat → Int) (x : Int) (f g : Nat → Int) (n : Nat) (code : Int) (hn : n ≤ 1000) (hc : entC0 (eL s r m K x f g n) 0 = code) (h0 : code ≠ 0) (W : World) (base : Nat) (B : Option Addr) (c : Nat) (ho : Own8.Own W base B (eS n) c (eL s r m K x f g n)) :
    Calls Try.prog 9 #[.slice B (eS n) c, .int .u64 0] W fun e w' => ∃ A2 c2, e = .returned (.tuple #[entV 0 0 0 (fun _ => 0) 0 A2 0 c2, .int .i64 code]) ∧ Below W.heap.size W w' := by
  obtain ⟨t1, t2, t3⟩ := told_no (l := eL s r m K x f g n) (a := 0) (by rw [hc]; exact h0)
  refine (read_0 B _ _ c W ho.bytes ho.2.1 (by have := padN_le (48 + 16 * n); unfold eS; omega) (OwnM.own_cap ho).1 (OwnM.own_cap ho).2).mono fun e w' ⟨A2, c2, h1, h2, h3⟩ => ⟨A2, c2, ?_, h2⟩
  rw [h1, t1, t1, t1, t1, t2, t3, hc]
theorem store_newK (w : World) (s r m x : Int) (K : Nat → Int) (A : Option Addr) (n c : Nat) :
    (stE (.pointer (some ⟨w.heap.size, 0, none⟩)) (.agg #[.int .u64 s, .int .u64 r, .int .u64 m, .int .u8 (K 0), .int .u8 (K 1), .int .u8 (K 2), .int .u8 (K 3), .int .u8 (K 4), .int .u8 (K 5), .int .u8 (K 6), .int .u8 (K 7), .int .u8 (K 8), .int .u8 (K 9), .int .u8 (K 10), .int .u8 (K 11), .int .u8 (K 12), .int .u8 (K 13), .int .u8 (K 14), .int .u8 (K 15), .int .u64 x, .slice A n c])).run Try.prog (w.alloc (zC 29)) = .ok () ((w.alloc (zC 29)).setRow w.heap.size #[.int .u64 s, .int .u64 r, .int .u64 m, .int .u8 (K 0), .int .u8 (K 1), .int .u8 (K 2), .int .u8 (K 3), .int .u8 (K 4), .int .u8 (K 5), .int .u8 (K 6), .int .u8 (K 7), .int .u8 (K 8), .int .u8 (K 9), .int .u8 (K 10), .int .u8 (K 11), .int .u8 (K 12), .int .u8 (K 13), .int .u8 (K 14), .int .u8 (K 15), .int .u64 x, .slice A n c]) := by
  unfold stE
  simp only [Instr.storeAt, Instr.sureAddr, Sem.run_bind, Sem.run_pure, Result.andThen_ok]
  exact run_storeVar_row (w.alloc (zC 29)) w.heap.size 29 29 zL.toArray #[.int .u64 s, .int .u64 r, .int .u64 m, .int .u8 (K 0), .int .u8 (K 1), .int .u8 (K 2), .int .u8 (K 3), .int .u8 (K 4), .int .u8 (K 5), .int .u8 (K 6), .int .u8 (K 7), .int .u8 (K 8), .int .u8 (K 9), .int .u8 (K 10), .int .u8 (K 11), .int .u8 (K 12), .int .u8 (K 13), .int .u8 (K 14), .int .u8 (K 15), .int .u64 x, .slice A n c] (show Blk (w.alloc (zC 29)) w.heap.size zL 29 from Blk.new w zL _) entInfo (by simp) (by simp [Value.oneCell'])
end Go.Proofs.Yteggjmnmlmhkfaa.Ys
