/-
  What the program's Put, PutArray, PutTable lay.
-/
import Derived.Test.YteggjmnmlmhkfaaYp
import Derived.Deep.RegionHeld3
import Derived.Deep.CutBlock
namespace Go.Proofs.Yteggjmnmlmhkfaa.Yd
open Go.ChangeShapes Go.WideShapes Go.ChangeAt Go.RowKit
open Bytes8 Blk8 Own8 OwnM OwnE OwnA LeA LeAl LeNum LeB LeP RefA RefB Ob Oc Od Oe Rows2 Kf Yc Yp
set_option linter.unusedVariables false
set_option linter.unusedSimpArgs false
set_option maxRecDepth 100000

/-- An entry, as it is handed. -/
abbrev entV (s r m : Int) (K : Nat → Int) (x : Int) (A : Option Addr) (n c : Nat) : Value := .agg #[.int .u64 s, .int .u64 r, .int .u64 m, .int .u8 (K 0), .int .u8 (K 1), .int .u8 (K 2), .int .u8 (K 3), .int .u8 (K 4), .int .u8 (K 5), .int .u8 (K 6), .int .u8 (K 7), .int .u8 (K 8), .int .u8 (K 9), .int .u8 (K 10), .int .u8 (K 11), .int .u8 (K 12), .int .u8 (K 13), .int .u8 (K 14), .int .u8 (K 15), .int .u64 x, .slice A n c]
abbrev entC (T : TypeId) (s r m : Int) (K : Nat → Int) (x : Int) (A : Option Addr) (n c : Nat) : Obj := .cells #[.int .u64 s, .int .u64 r, .int .u64 m, .int .u8 (K 0), .int .u8 (K 1), .int .u8 (K 2), .int .u8 (K 3), .int .u8 (K 4), .int .u8 (K 5), .int .u8 (K 6), .int .u8 (K 7), .int .u8 (K 8), .int .u8 (K 9), .int .u8 (K 10), .int .u8 (K 11), .int .u8 (K 12), .int .u8 (K 13), .int .u8 (K 14), .int .u8 (K 15), .int .u64 x, .slice A n c] T
def entL (s r m : Int) (K : Nat → Int) (x : Int) (A : Option Addr) (n c : Nat) : List Value := [.int .u64 s, .int .u64 r, .int .u64 m, .int .u8 (K 0), .int .u8 (K 1), .int .u8 (K 2), .int .u8 (K 3), .int .u8 (K 4), .int .u8 (K 5), .int .u8 (K 6), .int .u8 (K 7), .int .u8 (K 8), .int .u8 (K 9), .int .u8 (K 10), .int .u8 (K 11), .int .u8 (K 12), .int .u8 (K 13), .int .u8 (K 14), .int .u8 (K 15), .int .u64 x, .slice A n c]
theorem ent_id {w : World} {g : Nat} {T : TypeId} {s r m x : Int} {K : Nat → Int} {A : Option Addr} {n c : Nat} (h : Blk w g (entL s r m K x A n c) T) (hK : IdOk K) : Bytes w (some ⟨g, 3, none⟩) (idL K) := by
  refine ⟨idL_all hK, fun i hi => ⟨g, 3, rfl, h.lt, ?_⟩⟩
  have h16 : i < 16 := hi
  refine h.cell ?_
  unfold entL idL
  rcases i with _ | _ | _ | _ | _ | _ | _ | _ | _ | _ | _ | _ | _ | _ | _ | _ | i
  all_goals first | rfl | omega
/-- The bytes of an entry's body. -/
def entB (s r m : Int) (K : Nat → Int) (x : Int) (ps : List Int) : List Int := nums [s, r, m] ++ idL K ++ nums [x] ++ nums ps
theorem entB_len (s r m : Int) (K : Nat → Int) (x : Int) (f g : Nat → Int) (k : Nat) : (entB s r m K x (prs f g k)).length = 48 + 16 * k := by
  unfold entB
  rw [List.length_append, List.length_append, List.length_append, nums_prs_len, nums_len, nums_len]
  rfl

abbrev Inside (b : Nat) (W : World) (s r m : Int) (A : Option Addr) (n c : Nat) : Prop := W.cell? ⟨b, 0, none⟩ = some (.int .u64 s) ∧ W.cell? ⟨b, 1, none⟩ = some (.int .u64 r) ∧ W.cell? ⟨b, 2, none⟩ = some (.int .u64 m) ∧ W.cell? ⟨b, 20, none⟩ = some (.slice A n c)

/-- Numbers behind nothing: room was made ahead of them, or behind them. -/
theorem lit_a (base c0 : Nat) (ls : List Int) (k z : Nat) (N : Array Value) (hN : (ls.map (Value.int .u64)).toArray = N) (W : World) (g1 g2 : Nat) (h1 : W.heap.size = g1) (h2 : g1 + 1 = g2) (hb : base ≤ g1) (hc : c0 ≤ maxLen) (hv : I64 ls) (hk : ls.length = k) (hkm : k ≤ 1000) (hz : 8 * k = z) :
    Calls Try.prog 36 #[.slice (some ⟨g1, 0, none⟩) 0 c0, .slice (some ⟨g2, 0, none⟩) k k] ((W.alloc (.cells (Array.replicate c0 (Value.int .u8 0)) 5)).alloc (.cells N 23)).drew (Laid' base (nums ls) z W) := by
  subst hN
  have h := with_new base (some ⟨g1, 0, none⟩) 0 c0 [] ls k z g2 (W.drew.alloc (.cells (Array.replicate c0 (Value.int .u8 0)) 5)) (by simp [h1, h2]) (own_room c0 g1 base W.drew h1 hb hc) hv hk (by decide) (by omega) (by omega)
  exact h.mono fun e w' ⟨A', c', e1, e2, e3⟩ => ⟨A', c', e1, e2, (((Below.refl base W).drew).alloc (by show base ≤ W.heap.size; omega) _).trans e3⟩
theorem lit_b (base c0 : Nat) (ls : List Int) (k z : Nat) (N : Array Value) (hN : (ls.map (Value.int .u64)).toArray = N) (W : World) (g1 g2 : Nat) (h1 : W.heap.size = g1) (h2 : g1 + 1 = g2) (hb : base ≤ g1) (hc : c0 ≤ maxLen) (hv : I64 ls) (hk : ls.length = k) (hkm : k ≤ 1000) (hz : 8 * k = z) :
    Calls Try.prog 36 #[.slice (some ⟨g2, 0, none⟩) 0 c0, .slice (some ⟨g1, 0, none⟩) k k] ((W.alloc (.cells N 23)).alloc (.cells (Array.replicate c0 (Value.int .u8 0)) 5)).drew (Laid' base (nums ls) z W) := by
  subst hN
  have ho := own_room c0 g2 base (W.drew.alloc (.cells (ls.map (Value.int .u64)).toArray 23)) (by simp [h1, h2]) (by omega) hc
  have h := with_blk base (some ⟨g2, 0, none⟩) 0 c0 [] g1 ls k k z 23 _ ho ((Blk.new_at W.drew (ls.map (Value.int .u64)) 23 g1 h1).alloc _) hv hk (fun e => by simp [ownB] at e; omega) (by decide) (by omega) (by omega)
  refine h.mono fun e w' ⟨A', c', e1, e2, e3, _⟩ => ⟨A', c', e1, e2, Below.trans ?_ (Laid.below ho e3)⟩
  exact ((((Below.refl base W).drew).alloc (by show base ≤ W.heap.size; omega) _).alloc (by simp; omega) _)

set_option maxHeartbeats 4000000 in
theorem put_any (s r m : Int) (K : Nat → Int) (x : Int) (A : Option Addr) (n c : Nat) (f g : Nat → Int) (w : World) (hi : In2 w A n f g) (hn : n ≤ 50000) (hK : IdOk K) (hs : 0 ≤ s ∧ s ≤ 18446744073709551615) (hr : 0 ≤ r ∧ r ≤ 18446744073709551615) (hm : 0 ≤ m ∧ m ≤ 18446744073709551615) (hx : 0 ≤ x ∧ x ≤ 18446744073709551615) :
    Calls Try.prog 19 #[entV s r m K x A n c] w (Owned (objB 3 (entB s r m K x (prs f g n))) (16 + (48 + 16 * n) + padN (48 + 16 * n)) w) := by
  have HI := Lib.hid hi
  have b0 := Lib.hid ((Below.refl w.heap.size w).alloc (Nat.le_refl _) (entC 29 s r m K x A n c))
  have R0 := Lib.hid (show Blk (w.alloc (entC 29 s r m K x A n c)) w.heap.size (entL s r m K x A n c) 29 from Blk.new w _ _)
  have hw1 : IntKind.i64.wrap ((n : Int) * 16) = (n : Int) * 16 := by rw [IntKind.wrap_i64]; omega
  have hw2 : IntKind.i64.wrap (48 + (n : Int) * 16) = 48 + (n : Int) * 16 := by rw [IntKind.wrap_i64]; omega
  have hmk := make_room (48 + 16 * n) (48 + (n : Int) * 16) (by omega) (by omega)
  have i0 := R0.out.drew.cell (i := 0) rfl
  have i1 := R0.out.drew.cell (i := 1) rfl
  have i2 := R0.out.drew.cell (i := 2) rfl
  have i20 := R0.out.drew.cell (i := 20) rfl
  have PA := Lib.hid ((R0.out.alloc (.cells (Array.replicate (48 + 16 * n) (Value.int .u8 0)) 5)).drew)
  have pa0 := PA.out.cell (i := 0) rfl
  have pa1 := PA.out.cell (i := 1) rfl
  have pa2 := PA.out.cell (i := 2) rfl
  have pa20 := PA.out.cell (i := 20) rfl
  have PB := Lib.hid ((R0.out.alloc (.cells #[.int .u64 s, .int .u64 r, .int .u64 m] 23)).drew)
  have pb0 := PB.out.cell (i := 0) rfl
  have pb1 := PB.out.cell (i := 1) rfl
  have pb2 := PB.out.cell (i := 2) rfl
  have pb20 := PB.out.cell (i := 20) rfl
  have PC := Lib.hid (((R0.out.alloc (.cells (Array.replicate (48 + 16 * n) (Value.int .u8 0)) 5)).alloc (.cells #[.int .u64 s, .int .u64 r, .int .u64 m] 23)).drew)
  have pc0 := PC.out.cell (i := 0) rfl
  have pc1 := PC.out.cell (i := 1) rfl
  have pc2 := PC.out.cell (i := 2) rfl
  have pc20 := PC.out.cell (i := 20) rfl
  have PD := Lib.hid (((R0.out.alloc (.cells #[.int .u64 s, .int .u64 r, .int .u64 m] 23)).alloc (.cells (Array.replicate (48 + 16 * n) (Value.int .u8 0)) 5)).drew)
  have pd0 := PD.out.cell (i := 0) rfl
  have pd1 := PD.out.cell (i := 1) rfl
  have pd2 := PD.out.cell (i := 2) rfl
  have pd20 := PD.out.cell (i := 20) rfl
  have HLt := Lib.hid (Nat.lt_succ_self w.heap.size)
  have hI3 : I64 [s, r, m] := by intro v hv; simp at hv; rcases hv with rfl | rfl | rfl <;> assumption
  have H1 := Lib.hid fun (g1 g2 : Nat) (h1 : w.heap.size + 1 = g1) (h2 : w.heap.size + 1 + 1 = g2) => lit_a (w.heap.size + 1) (48 + 16 * n) [s, r, m] 3 24 _ rfl (w.alloc (entC 29 s r m K x A n c)) g1 g2 (by simp [h1]) (by omega) (by omega) (by unfold maxLen; omega) hI3 rfl (by decide) rfl
  have H2 := Lib.hid fun (g1 g2 : Nat) (h1 : w.heap.size + 1 = g1) (h2 : w.heap.size + 1 + 1 = g2) => lit_b (w.heap.size + 1) (48 + 16 * n) [s, r, m] 3 24 _ rfl (w.alloc (entC 29 s r m K x A n c)) g1 g2 (by simp [h1]) (by omega) (by omega) (by unfold maxLen; omega) hI3 rfl (by decide) rfl
  dsimp only [List.map] at H1 H2
  clear hi
  go_enter Try.func19, Try.ntmps19
  go_wp2
  go_cut [3] from 6 to 19 (fun z wx => ∃ A1 c1, z = .slice A1 24 c1 ∧ Hid (Own wx (w.heap.size + 1) A1 24 c1 (nums [s, r, m])) ∧ Hid (Below (w.heap.size + 1) (w.alloc (entC 29 s r m K x A n c)) wx))
  case first =>
    go_region_held3 (fun W => Inside w.heap.size W s r m A n c) (first | (with_reducible exact ⟨i0, i1, i2, i20⟩) | (with_reducible exact ⟨pa0, pa1, pa2, pa20⟩) | (with_reducible exact ⟨pb0, pb1, pb2, pb20⟩) | (with_reducible exact ⟨pc0, pc1, pc2, pc20⟩) | (with_reducible exact ⟨pd0, pd1, pd2, pd20⟩) | (with_reducible exact ⟨q0, q1, q2, q20⟩) | go_keep) (first
      | (go_at_call 36; (with_reducible refine (H1.out _ _ (by simp) (by simp)).mono ?_); rintro e w2 ⟨A1, c1, rfl, ho1, hb1⟩; have HO1 := Lib.hid ho1; have HB1 := Lib.hid hb1; have R2 := Lib.hid (R0.out.below hb1 HLt.out); have q0 := R2.out.cell (i := 0) rfl; have q1 := R2.out.cell (i := 1) rfl; have q2 := R2.out.cell (i := 2) rfl; have q20 := R2.out.cell (i := 20) rfl; clear ho1 hb1)
      | (go_at_call 36; (with_reducible refine (H2.out _ _ (by simp) (by simp)).mono ?_); rintro e w3 ⟨A1, c1, rfl, ho1, hb1⟩; have HO1 := Lib.hid ho1; have HB1 := Lib.hid hb1; have R2 := Lib.hid (R0.out.below hb1 HLt.out); have q0 := R2.out.cell (i := 0) rfl; have q1 := R2.out.cell (i := 1) rfl; have q2 := R2.out.cell (i := 2) rfl; have q20 := R2.out.cell (i := 20) rfl; clear ho1 hb1))
    all_goals
      go_wp2_with fail
      go_meet
      case rel => exact ⟨A1, c1, rfl, HO1, HB1⟩
  case rest =>
    clear i0 i1 i2 i20 pa0 pa1 pa2 pa20 pb0 pb1 pb2 pb20 pc0 pc1 pc2 pc20 pd0 pd1 pd2 pd20 PA PB PC PD H1 H2 hmk hw1 hw2
    obtain ⟨A1, c1, rfl, ho1, hb1⟩ := hcut
    have R1 := Lib.hid (R0.out.below hb1.out HLt.out)
    have i19 := R1.out.cell (i := 19) rfl
    have i20 := R1.out.cell (i := 20) rfl
    have HId := Lib.hid (ent_id R1.out hK)
    have HW := Lib.hid fun (W : World) (A2 : Option Addr) (c2 g1 : Nat) (hg : W.heap.size = g1) (ho : Own W (w.heap.size + 1) A2 40 c2 (nums [s, r, m] ++ idL K)) => with1 (w.heap.size + 1) A2 40 c2 _ x 48 g1 W hg ho hx (by decide) rfl
    go_wp2_with (first
      | (at_builtin; refine wpList_append_bytes rfl (.tmp 20) (.tmp 22) rfl (w.heap.size + 1) A1 24 c1 _ rfl ho1.out (some ⟨w.heap.size, 3, none⟩) 16 16 (idL K) rfl HId.out rfl (by decide) ?_; intro A2 c2 w2 ho2 hb2; have HO2 := Lib.hid ho2; have HB2 := Lib.hid (hb1.out.trans hb2); have R2 := Lib.hid (R1.out.below hb2 HLt.out); have j19 := R2.out.cell (i := 19) rfl; clear ho2 hb2)
      | (go_at_call 36; (with_reducible refine (HW.out _ _ _ _ (by simp) HO2.out).mono ?_); rintro e w3 ⟨A3, c3, rfl, ho3, hb3⟩; have HO3 := Lib.hid ho3; have HB3 := Lib.hid (HB2.out.trans hb3); have R3 := Lib.hid (R2.out.below hb3 HLt.out); have k20 := R3.out.cell (i := 20) rfl; clear ho3 hb3))
    have hcat : nums [s, r, m] ++ idL K ++ nums [x] = entB s r m K x (prs f g 0) := by unfold entB; rw [prs_zero, nums_nil, List.append_nil]
    rw [hcat] at HO3
    have HEs := Lib.hid fun k : Nat => show entB s r m K x (prs f g (k + 1)) = entB s r m K x (prs f g k) ++ nums [f k, g k] by unfold entB; rw [nums_prs]; simp
    have HP := Lib.hid fun (B : Option Addr) (cb : Nat) (W : World) (ho : Own W (w.heap.size + 1) B (48 + 16 * n) cb (entB s r m K x (prs f g n))) => put_yes 3 B _ (48 + 16 * n) cb W (by decide) ho.bytes ho.2.1 (by omega)
    unfold Owned at HP
    generalize padN (48 + 16 * n) = pn at *
    clear j19 i19 i20 HO2 HB2 R2 HId ho1 hb1 R1 hcat
    go_loopw [3, 32] (fun z i wr => ∃ (k : Nat) (A' : Option Addr) (c' : Nat), k ≤ n ∧ z = .slice A' (48 + 16 * k) c' ∧ i = .int .i64 (k : Int) ∧ Hid (Own wr (w.heap.size + 1) A' (48 + 16 * k) c' (entB s r m K x (prs f g k))) ∧ Hid (Below (w.heap.size + 1) (w.alloc (entC 29 s r m K x A n c)) wr)) (fun _ i _ => n - (intOf i).toNat)
    case atStart => exact ⟨0, A3, c3, Nat.zero_le _, rfl, rfl, HO3, HB3⟩
    case round =>
      obtain ⟨k, A', c', hk, rfl, rfl, ho, hb⟩ := hrel
      have Bw := Lib.hid (b0.out.trans (hb.out.mono (Nat.le_succ _)))
      have hsz : w.heap.size + 1 ≤ wr.heap.size := by have := hb.out.size; simpa using this
      by_cases hlt : k < n
      · obtain ⟨b, off, rfl, hblt, c0, c1', f01, g01⟩ := (HI.out.keep Bw.out) k hlt
        have HEk := Lib.hid (HEs.out k)
        have HW2 := Lib.hid fun (W : World) (g1 : Nat) (hg : W.heap.size = g1) (ho : Own W (w.heap.size + 1) A' (48 + 16 * k) c' (entB s r m K x (prs f g k))) => with2 (w.heap.size + 1) A' (48 + 16 * k) c' _ (f k) (g k) (48 + 16 * k + 16) g1 W hg ho f01 g01 (by omega) rfl
        generalize f k = X at *
        generalize g k = Y at *
        go_wp2_with (go_at_call 36; (with_reducible refine (HW2.out _ _ (by simp) (ho.out.alloc _)).mono ?_); rintro e w4 ⟨A4, c4, rfl, ho4, hb4⟩; have HO4 := Lib.hid ho4; have HB4 := Lib.hid hb4; clear ho4 hb4)
        go_roundw
        case rel =>
          refine ⟨k + 1, A4, c4, by omega, rfl, by go_num, ?_, Lib.hid ((hb.out.alloc hsz _).trans HB4.out)⟩
          rw [HEk.out]
          exact HO4
        case measure => simp [intOf]; omega
      · obtain rfl : k = n := by omega
        go_wp2_with (go_at_call 37; (with_reducible refine (HP.out _ _ _ ho.out).mono ?_); rintro e w5 ⟨A5, c5, rfl, ho5, hb5⟩; have HO5 := Lib.hid ho5; have HB5 := Lib.hid hb5; clear ho5 hb5)
        go_ret
        exact ⟨A5, c5, rfl, Own.base HO5.out Bw.out.size, Bw.out.trans (HB5.out.mono Bw.out.size)⟩

abbrev arrV (x : Int) (A : Option Addr) (n c : Nat) : Value := .agg #[.int .u64 x, .slice A n c]
abbrev arrC (T : TypeId) (x : Int) (A : Option Addr) (n c : Nat) : Obj := .cells #[.int .u64 x, .slice A n c] T
/-- The bytes of an array's body. -/
def arrB (x : Int) (l : List Int) : List Int := nums [x] ++ nums l
abbrev InsideA (b : Nat) (W : World) (x : Int) (A : Option Addr) (n c : Nat) : Prop := W.cell? ⟨b, 0, none⟩ = some (.int .u64 x) ∧ W.cell? ⟨b, 1, none⟩ = some (.slice A n c)

set_option maxHeartbeats 4000000 in
theorem putArray_any (x : Int) (A : Option Addr) (n c : Nat) (f : Nat → Int) (w : World) (hi : InInts .u64 w A n f) (hn : n ≤ 50000) (hx : 0 ≤ x ∧ x ≤ 18446744073709551615) :
    Calls Try.prog 21 #[arrV x A n c] w (Owned (objB 6 (arrB x (ints f n))) (16 + (8 + 8 * n) + padN (8 + 8 * n)) w) := by
  have HI := Lib.hid hi
  have b0 := Lib.hid ((Below.refl w.heap.size w).alloc (Nat.le_refl _) (arrC 39 x A n c))
  have R0 := Lib.hid (show Blk (w.alloc (arrC 39 x A n c)) w.heap.size [.int .u64 x, .slice A n c] 39 from Blk.new w _ _)
  have hw1 : IntKind.i64.wrap ((n : Int) * 8) = (n : Int) * 8 := by rw [IntKind.wrap_i64]; omega
  have hw2 : IntKind.i64.wrap (8 + (n : Int) * 8) = 8 + (n : Int) * 8 := by rw [IntKind.wrap_i64]; omega
  have hmk := make_room (8 + 8 * n) (8 + (n : Int) * 8) (by omega) (by omega)
  have HLt := Lib.hid (Nat.lt_succ_self w.heap.size)
  have hI1 : I64 [x] := by intro v hv; simp at hv; subst hv; exact hx
  have i0 := R0.out.drew.cell (i := 0) rfl
  have i1 := R0.out.drew.cell (i := 1) rfl
  have PA := Lib.hid ((R0.out.alloc (.cells (Array.replicate (8 + 8 * n) (Value.int .u8 0)) 5)).drew)
  have pa0 := PA.out.cell (i := 0) rfl
  have pa1 := PA.out.cell (i := 1) rfl
  have PB := Lib.hid ((R0.out.alloc (.cells #[.int .u64 x] 23)).drew)
  have pb0 := PB.out.cell (i := 0) rfl
  have pb1 := PB.out.cell (i := 1) rfl
  have PC := Lib.hid (((R0.out.alloc (.cells (Array.replicate (8 + 8 * n) (Value.int .u8 0)) 5)).alloc (.cells #[.int .u64 x] 23)).drew)
  have pc0 := PC.out.cell (i := 0) rfl
  have pc1 := PC.out.cell (i := 1) rfl
  have PD := Lib.hid (((R0.out.alloc (.cells #[.int .u64 x] 23)).alloc (.cells (Array.replicate (8 + 8 * n) (Value.int .u8 0)) 5)).drew)
  have pd0 := PD.out.cell (i := 0) rfl
  have pd1 := PD.out.cell (i := 1) rfl
  have H1 := Lib.hid fun (g1 g2 : Nat) (h1 : w.heap.size + 1 = g1) (h2 : w.heap.size + 1 + 1 = g2) => lit_a (w.heap.size + 1) (8 + 8 * n) [x] 1 8 _ rfl (w.alloc (arrC 39 x A n c)) g1 g2 (by simp [h1]) (by omega) (by omega) (by unfold maxLen; omega) hI1 rfl (by decide) rfl
  have H2 := Lib.hid fun (g1 g2 : Nat) (h1 : w.heap.size + 1 = g1) (h2 : w.heap.size + 1 + 1 = g2) => lit_b (w.heap.size + 1) (8 + 8 * n) [x] 1 8 _ rfl (w.alloc (arrC 39 x A n c)) g1 g2 (by simp [h1]) (by omega) (by omega) (by unfold maxLen; omega) hI1 rfl (by decide) rfl
  dsimp only [List.map] at H1 H2
  have HW := Lib.hid fun (W : World) (A1 : Option Addr) (c1 : Nat) (ho : Own W (w.heap.size + 1) A1 8 c1 (nums [x])) (hb : Below w.heap.size w W) => with_any (w.heap.size + 1) A1 8 c1 (nums [x]) A n c f W ho (HI.out.below hb) (fun h0 b off e hb' => by
    obtain ⟨b2, off2, e2, hlt, _⟩ := HI.out 0 h0
    rw [e] at e2
    injection e2 with e2
    injection e2 with e3
    have := (Own.block ho hb').1
    omega) (by decide) (by omega)
  have HP := Lib.hid fun (B : Option Addr) (cb : Nat) (W : World) (ho : Own W (w.heap.size + 1) B (8 + 8 * n) cb (nums [x] ++ nums (ints f n))) => put_yes 6 B _ (8 + 8 * n) cb W (by decide) ho.bytes ho.2.1 (by omega)
  unfold Owned at HP
  unfold arrB
  generalize padN (8 + 8 * n) = pn at *
  clear hi
  go_enter Try.func21, Try.ntmps21
  go_wp2
  go_cut [3] from 4 to 13 (fun z wx => ∃ A1 c1, z = .slice A1 8 c1 ∧ Hid (Own wx (w.heap.size + 1) A1 8 c1 (nums [x])) ∧ Hid (Below (w.heap.size + 1) (w.alloc (arrC 39 x A n c)) wx))
  case first =>
    go_region_held3 (fun W => InsideA w.heap.size W x A n c) (first | (with_reducible exact ⟨i0, i1⟩) | (with_reducible exact ⟨pa0, pa1⟩) | (with_reducible exact ⟨pb0, pb1⟩) | (with_reducible exact ⟨pc0, pc1⟩) | (with_reducible exact ⟨pd0, pd1⟩) | (with_reducible exact ⟨q0, q1⟩) | go_keep) (first
      | (go_at_call 36; (with_reducible refine (H1.out _ _ (by simp) (by simp)).mono ?_); rintro e w2 ⟨A1, c1, rfl, ho1, hb1⟩; have HO1 := Lib.hid ho1; have HB1 := Lib.hid hb1; have R2 := Lib.hid (R0.out.below hb1 HLt.out); have q0 := R2.out.cell (i := 0) rfl; have q1 := R2.out.cell (i := 1) rfl; clear ho1 hb1)
      | (go_at_call 36; (with_reducible refine (H2.out _ _ (by simp) (by simp)).mono ?_); rintro e w3 ⟨A1, c1, rfl, ho1, hb1⟩; have HO1 := Lib.hid ho1; have HB1 := Lib.hid hb1; have R2 := Lib.hid (R0.out.below hb1 HLt.out); have q0 := R2.out.cell (i := 0) rfl; have q1 := R2.out.cell (i := 1) rfl; clear ho1 hb1))
    all_goals
      go_wp2_with fail
      go_meet
      case rel => exact ⟨A1, c1, rfl, HO1, HB1⟩
  case rest =>
    clear i0 i1 pa0 pa1 pb0 pb1 pc0 pc1 pd0 pd1 PA PB PC PD H1 H2 hmk hw1 hw2
    obtain ⟨A1, c1, rfl, ho1, hb1⟩ := hcut
    have R1 := Lib.hid (R0.out.below hb1.out HLt.out)
    have i1 := R1.out.cell (i := 1) rfl
    have Bw := Lib.hid (b0.out.trans (hb1.out.mono (Nat.le_succ _)))
    go_wp2_with (first
      | (go_at_call 36; (with_reducible refine (HW.out _ _ _ ho1.out Bw.out).mono ?_); rintro e w3 ⟨A3, c3, rfl, ho3, hk3, _⟩; have HO3 := Lib.hid ho3; have HB3 := Lib.hid (Bw.out.trans ((Laid.below ho1.out hk3).mono (Nat.le_succ _))); clear ho3 hk3)
      | (go_at_call 37; (with_reducible refine (HP.out _ _ _ HO3.out).mono ?_); rintro e w5 ⟨A5, c5, rfl, ho5, hb5⟩; have HO5 := Lib.hid ho5; have HB5 := Lib.hid hb5; clear ho5 hb5))
    go_ret
    exact ⟨A5, c5, rfl, Own.base HO5.out HB3.out.size, HB3.out.trans (HB5.out.mono HB3.out.size)⟩

/-- The bytes that PutTable lays. -/
def tabB (k : Int) (l : List Int) : List Int := if isTab k then objB k (nums l) else []
theorem isTable_any (k : Int) (w : World) : Calls Try.prog 35 #[.int .i64 k] w fun e w' => e = .returned (.bool (isTab k)) ∧ w = w' := by
  have h2 : isTab k = (k == 4 || k == 5) := rfl
  by_cases h : k = 4
  · subst h
    go_enter Try.func35, Try.ntmps35
    go_wp2
    go_ret
    exact ⟨ret_bool h2.symm, rfl⟩
  · go_enter Try.func35, Try.ntmps35
    go_wp2
    go_ret
    exact ⟨ret_bool h2.symm, rfl⟩
theorem putTable_no (k : Int) (A : Option Addr) (n c : Nat) (w : World) (h : isTab k = false) :
    Calls Try.prog 23 #[.int .i64 k, .slice A n c] w fun e w' => e = .returned (.slice none 0 0) ∧ w = w' := by
  have HT := Lib.hid (isTable_any k w)
  rw [h] at HT
  go_enter Try.func23, Try.ntmps23
  go_wp2_with (go_at_call 35; (with_reducible refine HT.out.mono ?_); rintro e w' ⟨rfl, rfl⟩)
  go_ret
  exact ⟨rfl, rfl⟩
theorem isTab_k {k : Int} (h : isTab k = true) : 1 ≤ k ∧ k ≤ 7 := by
  unfold isTab at h
  simp at h
  omega
set_option maxHeartbeats 4000000 in
theorem putTable_yes (kd : Int) (A : Option Addr) (n c : Nat) (f g : Nat → Int) (w : World) (h : isTab kd = true) (hi : In2 w A n f g) (hn : n ≤ 50000) :
    Calls Try.prog 23 #[.int .i64 kd, .slice A n c] w (Owned (objB kd (nums (prs f g n))) (16 + 16 * n + padN (16 * n)) w) := by
  have HT := Lib.hid fun W => isTable_any kd W
  rw [h] at HT
  have HI := Lib.hid hi
  have hw1 : IntKind.i64.wrap ((n : Int) * 16) = (n : Int) * 16 := by rw [IntKind.wrap_i64]; omega
  have hmk := make_room (16 * n) ((n : Int) * 16) (by omega) (by omega)
  have HO := Lib.hid (own_room (16 * n) w.heap.size w.heap.size w rfl (Nat.le_refl _) (by unfold maxLen; omega))
  have B0 := Lib.hid ((Below.refl w.heap.size w).alloc (Nat.le_refl _) (.cells (Array.replicate (16 * n) (Value.int .u8 0)) 5))
  have HP := Lib.hid fun (B : Option Addr) (cb : Nat) (W : World) (ho : Own W w.heap.size B (16 * n) cb (nums (prs f g n))) => put_yes kd B _ (16 * n) cb W (isTab_k h) ho.bytes ho.2.1 (by omega)
  unfold Owned at HP
  have HEs := Lib.hid fun k : Nat => nums_prs f g k
  generalize padN (16 * n) = pn at *
  clear hi h
  go_enter Try.func23, Try.ntmps23
  go_wp2_with (go_at_call 35; (with_reducible refine (HT.out _).mono ?_); rintro e w' ⟨rfl, rfl⟩)
  go_loopw [5, 17] (fun z i wr => ∃ (k : Nat) (A' : Option Addr) (c' : Nat), k ≤ n ∧ z = .slice A' (16 * k) c' ∧ i = .int .i64 (k : Int) ∧ Hid (Own wr w.heap.size A' (16 * k) c' (nums (prs f g k))) ∧ Hid (Below w.heap.size w wr)) (fun _ i _ => n - (intOf i).toNat)
  case atStart => exact ⟨0, some ⟨w.heap.size, 0, none⟩, 16 * n, Nat.zero_le _, rfl, rfl, HO, B0⟩
  case round =>
    obtain ⟨k, A', c', hk, rfl, rfl, ho, hb⟩ := hrel
    have hsz := hb.out.size
    by_cases hlt : k < n
    · obtain ⟨b, off, rfl, hblt, c0, c1', f01, g01⟩ := (HI.out.keep hb.out) k hlt
      have HEk := Lib.hid (HEs.out k)
      have HW2 := Lib.hid fun (W : World) (g1 : Nat) (hg : W.heap.size = g1) (ho : Own W w.heap.size A' (16 * k) c' (nums (prs f g k))) => with2 w.heap.size A' (16 * k) c' _ (f k) (g k) (16 * k + 16) g1 W hg ho f01 g01 (by omega) rfl
      generalize f k = X at *
      generalize g k = Y at *
      go_wp2_with (go_at_call 36; (with_reducible refine (HW2.out _ _ (by simp) (ho.out.alloc _)).mono ?_); rintro e w4 ⟨A4, c4, rfl, ho4, hb4⟩; have HO4 := Lib.hid ho4; have HB4 := Lib.hid hb4; clear ho4 hb4)
      go_roundw
      case rel =>
        refine ⟨k + 1, A4, c4, by omega, rfl, by go_num, ?_, Lib.hid ((hb.out.alloc hsz _).trans HB4.out)⟩
        rw [HEk.out]
        exact HO4
      case measure => simp [intOf]; omega
    · obtain rfl : k = n := by omega
      go_wp2_with (go_at_call 37; (with_reducible refine (HP.out _ _ _ ho.out).mono ?_); rintro e w5 ⟨A5, c5, rfl, ho5, hb5⟩; have HO5 := Lib.hid ho5; have HB5 := Lib.hid hb5; clear ho5 hb5)
      go_ret
      exact ⟨A5, c5, rfl, Own.base HO5.out hb.out.size, hb.out.trans (HB5.out.mono hb.out.size)⟩
end Go.Proofs.Yteggjmnmlmhkfaa.Yd
