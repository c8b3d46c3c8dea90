/-
  The walk of ObjRows.
-/
import Derived.Test.YtbfeomoafpgejaaOm
import Derived.Test.YtbfeomoafpgejaaNumb
import Derived.Test.YtbfeomoafpgejaaRows2
import Derived.Deep.CutBlock
import Derived.IntWalk
import Derived.BigQuiet
namespace Go.Proofs.Ytbfeomoafpgejaa.ObjRowsW
open Go.ChangeShapes Go.WideShapes Go.ChangeAt Go.RowKit
open Bytes8 Blk8 Own8 OwnM OwnE LeA LeAl LeNum LeB LeP RefA RefB Ob Oc Od Oe Og Ff Fb Om Numb Cl8 Rows2
set_option linter.unusedVariables false
set_option maxRecDepth 100000
set_option linter.unusedSimpArgs false

/-! ## plain -/
/-- Objects one behind the other. -/
def rowsB (K : Nat → Nat) (P : Nat → List Int) (k : Nat) : List Int := flat (fun i => objB (1 + (K i : Int)) (P i)) k
theorem rowsB_succ (K : Nat → Nat) (P : Nat → List Int) (k : Nat) : rowsB K P (k + 1) = rowsB K P k ++ objB (1 + (K k : Int)) (P k) := flat_succ _ _
theorem rowsB_len (K : Nat → Nat) (P : Nat → List Int) (k : Nat) : (rowsB K P (k + 1)).length = (rowsB K P k).length + (16 + (P k).length + padN (P k).length) := by
  rw [rowsB_succ, List.length_append, objB_len]
theorem rowsB_8 (K : Nat → Nat) (P : Nat → List Int) (k : Nat) : (rowsB K P k).length % 8 = 0 := by
  induction k with
  | zero => rfl
  | succ k ih =>
    have := padN_le (P k).length
    rw [rowsB_len]
    omega
theorem rowsB_le (K : Nat → Nat) (P : Nat → List Int) (k : Nat) (h : ∀ r, r < k → (P r).length ≤ 60) : (rowsB K P k).length ≤ 83 * k := by
  induction k with
  | zero => exact Nat.le_refl _
  | succ k ih =>
    have := padN_le (P k).length
    have h1 := ih fun r hr => h r (by omega)
    have h2 := h k (by omega)
    rw [rowsB_len]
    omega
theorem rowsB_all (K : Nat → Nat) (P : Nat → List Int) (k : Nat) (hK : ∀ i, K i < 7) (hP : ∀ r, r < k → AllB (P r)) : AllB (rowsB K P k) := by
  induction k with
  | zero => intro x hx; cases hx
  | succ k ih =>
    have := hK k
    rw [rowsB_succ]
    exact (ih fun r hr => hP r (by omega)).app (objB_all (by omega) (by omega) (hP k (by omega)))
theorem rowsB_more (K : Nat → Nat) (P : Nat → List Int) (k n : Nat) (h : k < n) : ∃ q, rowsB K P n = rowsB K P k ++ (objB (1 + (K k : Int)) (P k) ++ q) := by
  induction n with
  | zero => omega
  | succ n ih =>
    rcases Nat.lt_or_ge k n with h1 | h1
    · obtain ⟨q, e⟩ := ih h1
      exact ⟨q ++ objB (1 + (K n : Int)) (P n), by rw [rowsB_succ, e, List.append_assoc, List.append_assoc]⟩
    · obtain rfl : k = n := by omega
      exact ⟨[], by rw [rowsB_succ, List.append_nil]⟩
theorem rowsB_at (K : Nat → Nat) (P : Nat → List Int) (k n : Nat) (h : k < n) (hK : ∀ i, K i < 7) (h60 : (P k).length ≤ 60) :
    code (rowsB K P n) (rowsB K P k).length = 0 ∧ kindL (rowsB K P n) (rowsB K P k).length = 1 + (K k : Int) ∧ sizeL (rowsB K P n) (rowsB K P k).length = 16 + ((P k).length : Int) := by
  obtain ⟨q, e⟩ := rowsB_more K P k n h
  have := hK k
  obtain ⟨h1, h2, h3, _⟩ := put_read (rowsB K P k) q (P k) (1 + (K k : Int)) _ rfl (rowsB_8 K P k) (by omega) (by omega) (by omega)
  rw [← e] at h1 h2 h3
  exact ⟨h1, h2, by rw [h3]; omega⟩
theorem rowsB_end (K : Nat → Nat) (P : Nat → List Int) (n : Nat) : code (rowsB K P n) (rowsB K P n).length = 2 := by
  have := rowsB_8 K P n
  unfold code
  rw [if_neg (by omega), if_pos (by omega)]
theorem size_up (n : Nat) : (16 + (n : Int) + 7) / 8 * 8 = ((16 + n + padN n : Nat) : Int) := by unfold padN; omega

abbrev fr0 (k s : Int) : Obj := .cells #[.int .i64 k, .int .i64 0, .int .u64 s] 26
theorem u64_eq {a b : Int} (h : a = b) : Value.int .u64 a = .int .u64 b := by rw [h]

theorem walk_long (a0 : Option Addr) (n0 c0 : Nat) (a1 : Option Addr) (n1 c1 : Nat) (w : World) (h : 20 < n1 ∨ ¬ 20 < n1 ∧ n0 < n1) :
    Calls Try.prog 6 #[.slice a0 n0 c0, .slice a1 n1 c1] w fun e w' => e = .returned (.bool true) ∧ Below w.heap.size w w' := by
  rcases h with h | ⟨h1, h⟩
  all_goals
    go_enter Try.func6, Try.ntmps6
    go_wp2_with (go_at_call 8; (with_reducible refine (first_any _).mono ?_); rintro e w1 ⟨rfl, hbel⟩; have B1 := Lib.hid hbel; clear hbel)
    go_ret
    exact ⟨rfl, B1.out⟩

set_option maxHeartbeats 8000000 in
theorem walk_main (a0 : Option Addr) (n0 c0 : Nat) (a1 : Option Addr) (n1 c1 : Nat) (f : Nat → Int) (A : Nat → Option Addr) (L C : Nat → Nat) (P : Nat → List Int) (w : World) (h0 : InInts .i64 w a0 n0 f) (h1 : InRows w a1 n1 A L C P) (hn1 : ¬ 20 < n1) (hn0 : ¬ n0 < n1) :
    Calls Try.prog 6 #[.slice a0 n0 c0, .slice a1 n1 c1] w fun e w' => e = .returned (.bool true) ∧ Below w.heap.size w w' := by
  have H0 := Lib.hid h0
  have H1 := Lib.hid h1
  have hK : ∀ i, ∃ j : Nat, numBelow (f i) 7 = (j : Int) ∧ j < 7 := fun i => by
    obtain ⟨j, hj, hj7⟩ := below_nat (f i) 7 (by decide)
    exact ⟨j, hj.out, by omega⟩
  obtain ⟨K, hK⟩ : ∃ K : Nat → Nat, ∀ i, numBelow (f i) 7 = (K i : Int) ∧ K i < 7 := ⟨fun i => (hK i).choose, fun i => (hK i).choose_spec⟩
  have HK := Lib.hid hK
  clear hK h0 h1
  go_enter Try.func6, Try.ntmps6
  go_wp2_with (go_at_call 8; (with_reducible refine (first_any _).mono ?_); rintro e w1 ⟨rfl, hbel⟩; have B1 := Lib.hid hbel; have I1 := Lib.hid (H0.out.below hbel); have J1 := Lib.hid (H1.out.below hbel); clear hbel)
  go_loopw [6, 7] (fun s i wr => ∃ (k : Nat) (A6 : Option Addr) (c6 : Nat), k ≤ n1 ∧ i = .int .i64 (k : Int) ∧ s = .slice A6 (rowsB K P k).length c6 ∧ Hid (∀ r, r < k → (P r).length ≤ 60) ∧ Hid (Own wr w1.heap.size A6 (rowsB K P k).length c6 (rowsB K P k)) ∧ Hid (Below w1.heap.size w1 wr)) (fun _ i _ => n1 - (intOf i).toNat)
  case atStart => exact ⟨0, none, 0, Nat.zero_le _, rfl, rfl, Lib.hid (fun r hr => absurd hr (by omega)), Lib.hid (Own.nil w1 _ (Nat.le_refl _)), Lib.hid (Below.refl _ _)⟩
  case round =>
    obtain ⟨k, A6, c6, hk, rfl, rfl, h60, ho, hbel⟩ := hrel
    by_cases hlt : k < n1
    · obtain ⟨b1, o1, rfl, g1, g2w, g3w, g4, g5, g6⟩ := J1.out k hlt
      obtain ⟨b0, o0, rfl, e1, e2w, e3⟩ := I1.out k (by omega)
      have g2 := (hbel.out.cell (p := ⟨b1, o1 + k, none⟩) g1).trans g2w
      have e2 := (hbel.out.cell (p := ⟨b0, o0 + k, none⟩) e1).trans e2w
      have g3 := g3w.below hbel.out (Nat.le_refl _)
      clear g2w e2w g3w
      have G3 := Lib.hid g3
      have G4 := Lib.hid g4
      have hk0 : (k : Int) < (n0 : Int) := by omega
      have hk1 : (k : Int) < (n1 : Int) := by omega
      have hz : 0 ≤ (k : Int) := by omega
      by_cases hL : 60 < L k
      · have hL2 : (60 : Int) < (L k : Int) := by omega
        clear g3 g4 g5 g6
        go_wp2
        go_ret
        exact ⟨rfl, B1.out.trans (hbel.out.mono B1.out.size)⟩
      · have hL2 : ¬ (60 : Int) < (L k : Int) := by omega
        have hlen := rowsB_le K P k h60.out
        have hK7 := (HK.out k).2
        have HS := Lib.hid (rowsB_succ K P k)
        have HSl := Lib.hid (rowsB_len K P k)
        have HN := Lib.hid fun (W : World) => number_nat (f k) 7 (K k) W (by decide) (by decide) (HK.out k).1
        have HP : Hid (∀ (z : Int) (W : World) (hz : z = 1 + (K k : Int)) (h : Below wr.heap.size wr W), Calls Try.prog 19 #[.int .i64 z, .slice (A k) (L k) (C k)] W (Owned (objB (1 + (K k : Int)) (P k)) (16 + L k + padN (L k)) W)) := Lib.hid fun z W hz h => by subst hz; exact put_yes (1 + (K k : Int)) (A k) (P k) (L k) (C k) W (by omega) (g3.below h (Nat.le_refl _)) g4 (by omega)
        unfold Owned at HP
        have HZ := Lib.hid (show IntKind.i64.wrap (1 + (K k : Int)) = 1 + (K k : Int) from IntWalk.i64_in _ (by omega))
        have h60' := Lib.hid (show ∀ r, r < k + 1 → (P r).length ≤ 60 from fun r hr => by
          rcases Nat.lt_or_ge r k with h | h
          · exact h60.out r h
          · obtain rfl : r = k := by omega
            rw [g4]; omega)
        have hLk : L k ≤ 60 := by omega
        have hpd := padN_le (L k)
        have HOl := Lib.hid (show (objB (1 + (K k : Int)) (P k)).length = 16 + L k + padN (L k) by rw [objB_len, g4])
        rw [g4] at HSl
        have e2d : wr.drew.cell? ⟨b0, o0 + k, none⟩ = some (.int .i64 (f k)) := e2
        have g2d : wr.drew.cell? ⟨b1, o1 + k, none⟩ = some (.slice (A k) (L k) (C k)) := g2
        generalize hRL : (rowsB K P k).length = rl at *
        generalize hpn : padN (L k) = pn at *
        generalize hRB : rowsB K P k = RB at *
        have hsz := hbel.out.size
        clear g3 g4 g5 g6 e3 hRL hpn hRB h60
        go_upto_region 12 with fail
        go_region_held3 (fun w' => w'.cell? ⟨b0, o0 + k, none⟩ = some (.int .i64 (f k)) ∧ w'.cell? ⟨b1, o1 + k, none⟩ = some (.slice (A k) (L k) (C k))) (first | (with_reducible exact ⟨e2d, g2d⟩) | (with_reducible exact ⟨e2b, g2b⟩) | (with_reducible exact ⟨e2c, g2c⟩) | go_keep) (first
          | (refine step_append_bytes (o := ⟨some 52, _, _, _, _, _⟩) rfl (.tmp 40) (.tmp 51) rfl w1.heap.size A6 rl c6 RB rfl O2.out A2 (16 + L k + pn) c2 _ rfl Y2.out.bytes HOl.out (by omega) ?_; intro A3 c3 w3 ho3 hbel3; have O3 := Lib.hid ho3; have B3 := Lib.hid (B2.out.trans hbel3); have e2c := (hbel3.cell (p := ⟨b0, o0 + k, none⟩) e1).trans e2b; have g2c := (hbel3.cell (p := ⟨b1, o1 + k, none⟩) g1).trans g2b; clear ho3 hbel3)
          | (go_at_call 25; (with_reducible refine (HN.out _).mono ?_); rintro e w' ⟨rfl, rfl⟩)
          | (go_at_call 19; (with_reducible refine (HP.out _ _ HZ.out (Below.refl _ _).drew).mono ?_); rintro e w2 ⟨A2, c2, rfl, ho2, hbel2⟩; have O2 := Lib.hid (ho.out.drew.kept hbel2 (Nat.le_refl _)); have Y2 := Lib.hid ho2; have B2 := Lib.hid (hbel.out.drew.trans (hbel2.mono hsz)); have e2b := (hbel2.cell (p := ⟨b0, o0 + k, none⟩) (Nat.lt_of_lt_of_le e1 hsz)).trans e2d; have g2b := (hbel2.cell (p := ⟨b1, o1 + k, none⟩) (Nat.lt_of_lt_of_le g1 hsz)).trans g2d; clear ho2 hbel2))
        go_wp2
        go_roundw
        case rel =>
          refine ⟨k + 1, A3, c3, by omega, by go_num, ?_, h60', ?_, B3⟩
          · rw [HSl.out]
          · rw [HSl.out, HS.out]; exact O3
        case measure => simp [intOf]; omega
    · obtain rfl : k = n1 := by omega
      have hlen := rowsB_le K P k h60.out
      have hb := ho.out.bytes
      have hcap := own_cap ho.out
      have HCap := Lib.hid hcap
      have HL := Lib.hid ho.out.2.1
      have BW := Lib.hid (B1.out.trans (hbel.out.mono B1.out.size))
      have HR := Lib.hid fun (q : Nat) (z : Int) (W : World) (hz : z = ((rowsB K P q).length : Int)) (hq : q ≤ k) (h : Below wr.heap.size wr W) => hz ▸ read_any A6 (rowsB K P k) (rowsB K P k).length c6 (rowsB K P q).length W (hb.below h (Nat.le_refl _)) rfl (by omega) hcap.1 hcap.2 (by have := rowsB_le K P q (fun r hr => h60.out r (by omega)); omega)
      unfold FrTold at HR
      have HE := Lib.hid (rowsB_end K P k)
      have HAt := Lib.hid fun (q : Nat) (hq : q < k) => rowsB_at K P q k hq (fun i => (HK.out i).2) (h60.out q hq)
      have HI := Lib.hid (I1.out.below hbel.out)
      have HJ := Lib.hid (J1.out.below hbel.out)
      have HUp := Lib.hid fun (q : Nat) (hq : q < k) => rowsB_len K P q
      have HLe := Lib.hid fun (q : Nat) (hq : q ≤ k) => rowsB_le K P q (fun r hr => h60.out r (by omega))
      have hk0' : ¬ (k : Int) < (k : Int) := by omega
      have hmax : (rowsB K P k).length ≤ 1700 := by omega
      clear hb hcap ho I1 J1
      generalize hRn : (rowsB K P k).length = rn at *
      have HRn := Lib.hid hRn
      clear hRn
      rename World => w4
      go_wp2
      go_loopw [8, 9] (fun s i wx => ∃ (q : Nat), q ≤ k ∧ i = .int .i64 (q : Int) ∧ s = .int .u64 ((rowsB K P q).length : Int) ∧ Hid (Below w4.heap.size w4 wx)) (fun _ i _ => k - (intOf i).toNat)
      case atStart => exact ⟨0, Nat.zero_le _, rfl, rfl, Lib.hid (Below.refl _ _)⟩
      case round =>
        obtain ⟨q, hq, rfl, rfl, hbx⟩ := hrel
        by_cases hqk : q < k
        · obtain ⟨t1, t2, t3⟩ := HAt.out q hqk
          have HRd := Lib.hid (HR.out q _ wr rfl (by omega) hbx.out)
          rw [t1, t2, t3] at HRd
          have hle := HLe.out q (by omega)
          have HUq := Lib.hid (HUp.out q hqk)
          obtain ⟨b1, o1, rfl, g1, g2w, _, g4, _, _⟩ := HJ.out q hqk
          obtain ⟨b0, o0, rfl, e1, e2w, e3⟩ := HI.out q (by omega)
          have hL60 := Lib.hid (h60.out q hqk)
          rw [g4] at HRd HUq hL60
          have hL := hL60.out
          have hkq0 : (q : Int) < (n0 : Int) := by omega
          have hkq1 : (q : Int) < (k : Int) := by omega
          have hkq2 : 0 ≤ (q : Int) := by omega
          have hK7 := (HK.out q).2
          have HN := Lib.hid fun (W : World) => number_nat (f q) 7 (K q) W (by decide) (by decide) (HK.out q).1
          have hZ1 : IntKind.i64.wrap (1 + (K q : Int)) = 1 + (K q : Int) := IntWalk.i64_in _ (by omega)
          have hZ2 : IntKind.i64.wrap (16 + (L q : Int)) = 16 + (L q : Int) := IntWalk.i64_in _ (by omega)
          have hZ3 : IntKind.u64.wrap (16 + (L q : Int)) = 16 + (L q : Int) := by rw [IntKind.wrap_u64]; omega
          have HZ1 := Lib.hid hZ1
          have HZ2 := Lib.hid hZ2
          have HZ3 := Lib.hid hZ3
          have HSu := Lib.hid (size_up (L q))
          clear t1 t2 t3 g4 hZ1 hZ2 hZ3
          generalize hRq : (rowsB K P q).length = rq at *
          clear hRq
          go_upto_region 18 with (go_at_call 9; (with_reducible refine HRd.out.mono ?_); rintro e w5 ⟨rfl, hbel5⟩; have B5 := Lib.hid ((hbx.out.trans (hbel5.mono hbx.out.size)).alloc (hbx.out.trans (hbel5.mono hbx.out.size)).size (fr0 (1 + (K q : Int)) (16 + (L q : Int)))); have X5 := Lib.hid (Blk.new w5 [.int .i64 (1 + (K q : Int)), .int .i64 0, .int .u64 (16 + (L q : Int))] 26); clear hbel5)
          generalize hW : w5.alloc (fr0 (1 + (K q : Int)) (16 + (L q : Int))) = W at *
          clear hW
          generalize w5.heap.size = gx at *
          have x0 := X5.out.cell (i := 0) rfl
          have x1 := X5.out.cell (i := 1) rfl
          have x2 := X5.out.cell (i := 2) rfl
          have e2 := (B5.out.cell (p := ⟨b0, o0 + q, none⟩) e1).trans e2w
          have g2 := (B5.out.cell (p := ⟨b1, o1 + q, none⟩) g1).trans g2w
          have hZ1 := HZ1.out
          have hZ2 := HZ2.out
          have hZ3 := HZ3.out
          have hmx : Try.prog.follows .mixedOrders = true := by kernel_rfl
          go_quiet ((go_at_call 25; (with_reducible refine quiet_kept (HN.out _))))
          clear hZ1 hZ2 hZ3
          have x2' : (W.drewN nq).cell? ⟨gx, 2, none⟩ = some (.int .u64 (16 + (L q : Int))) := x2
          clear x0 x1 x2 e2 g2
          go_wp2
          go_roundw
          case rel =>
            refine ⟨q + 1, by omega, by go_num, ?_, Lib.hid (below_drewN B5.out _)⟩
            refine u64_eq ?_
            have h1 := HSu.out
            rw [HUq.out]
            omega
          case measure => simp [intOf]; omega
        · obtain rfl : q = k := by omega
          have HRd := Lib.hid (HR.out q _ wr rfl (Nat.le_refl _) hbx.out)
          rw [rowsB_end K P q] at HRd
          generalize kindL (rowsB K P q) (rowsB K P q).length = kd at *
          generalize sizeL (rowsB K P q) (rowsB K P q).length = sd at *
          have HRn2 := Lib.hid (show ((rowsB K P q).length : Int) = (rn : Int) by rw [HRn.out])
          rw [HRn2.out] at HRd ⊢
          go_wp2_with (go_at_call 9; (with_reducible refine HRd.out.mono ?_); rintro e w6 ⟨rfl, hbel⟩; have B6 := Lib.hid ((hbx.out.trans (hbel.mono hbx.out.size)).alloc (hbx.out.trans (hbel.mono hbx.out.size)).size (fr0 kd sd)); clear hbel)
          go_ret
          exact ⟨rfl, BW.out.trans (B6.out.mono BW.out.size)⟩

theorem walk (a0 : Option Addr) (n0 c0 : Nat) (z0 : List Int) (a1 : Option Addr) (n1 c1 : Nat) (A : Nat → Option Addr) (L C : Nat → Nat) (Z : Nat → List Int) (w : World) (h0 : IsRow .i64 w a0 n0 c0 z0) (h1 : IsRows .u8 w a1 n1 c1 A L C Z) :
    Calls Try.prog 6 #[.slice a0 n0 c0, .slice a1 n1 c1] w fun e w' => e = .returned (.bool true) ∧ Below w.heap.size w w' := by
  obtain ⟨i0, _, _⟩ := ints_in h0
  obtain ⟨i1, _, _⟩ := rows_in h1
  by_cases h : 20 < n1
  · exact walk_long a0 n0 c0 a1 n1 c1 w (.inl h)
  by_cases h2 : n0 < n1
  · exact walk_long a0 n0 c0 a1 n1 c1 w (.inr ⟨h, h2⟩)
  · exact walk_main a0 n0 c0 a1 n1 c1 _ A L C _ w i0 i1 h h2
end Go.Proofs.Ytbfeomoafpgejaa.ObjRowsW
