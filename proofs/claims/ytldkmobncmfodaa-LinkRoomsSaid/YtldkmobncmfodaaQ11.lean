/-
  Texts beneath the proof, one behind the other.
-/
import Derived.Deep.RegionHeld3
import Derived.Test.YtldkmobncmfodaaQ10
import Derived.Test.YtldkmobncmfodaaQ7
import Derived.Test.YtldkmobncmfodaaQ6

/-
  What the document's PutEntry, PutArray, PutTable lay.
-/
namespace Go.Proofs.Ytldkmobncmfodaa.Yk
open Go.ChangeShapes Go.WideShapes Go.ChangeAt Go.RowKit
open Bytes8 Blk8 Own8 OwnM OwnE OwnA LeA LeAl LeNum LeB LeP RefA RefB Ob Oc Od Oe Rows2 Kf Yc Yp Yd
set_option linter.unusedVariables false
set_option linter.unusedSimpArgs false
set_option maxRecDepth 100000

/-- Numbers of a literal as bytes; behind a draw. -/
def NumsTold (ls : List Int) (z : Nat) (W : World) (e : Ending) (w' : World) : Prop := ∃ A c, e = .returned (.slice A z c) ∧ Own w' W.heap.size A z c (nums ls) ∧ Below W.heap.size W w'
theorem rnums_lit (ls : List Int) (k z : Nat) (N : Array Value) (hN : (ls.map (Value.int .u64)).toArray = N) (W : World) (g : Nat) (hg : W.heap.size = g) (hv : I64 ls) (hk : ls.length = k) (hkm : k ≤ 1000) (hz : 8 * k = z) :
    Calls Try.prog 48 #[.slice (some ⟨g, 0, none⟩) k k] (W.alloc (.cells N 36)) (NumsTold ls z W) := by
  subst hN hg hz
  have h := rnums_any W.heap.size k k ls 36 _ (Blk.new W _ _) hv hk hkm
  exact h.mono fun e w' ⟨A, c, h1, h2, h3⟩ => ⟨A, c, h1, Own.base h2 (by simp), ((Below.refl W.heap.size W).alloc (Nat.le_refl _) _).trans (h3.mono (by simp))⟩
theorem rnums_litd (ls : List Int) (k z : Nat) (N : Array Value) (hN : (ls.map (Value.int .u64)).toArray = N) (W : World) (g : Nat) (hg : W.heap.size = g) (hv : I64 ls) (hk : ls.length = k) (hkm : k ≤ 1000) (hz : 8 * k = z) :
    Calls Try.prog 48 #[.slice (some ⟨g, 0, none⟩) k k] (W.alloc (.cells N 36)).drew (NumsTold ls z W) :=
  (rnums_lit ls k z N hN W.drew g hg hv hk hkm hz).mono fun e w' ⟨A, c, h1, h2, h3⟩ => ⟨A, c, h1, h2, (Below.refl W.heap.size W).drew.trans h3⟩
theorem I64_one {x : Int} (h : 0 ≤ x ∧ x ≤ 18446744073709551615) : I64 [x] := by intro v hv; simp at hv; subst hv; exact h
theorem I64_two {x y : Int} (h : 0 ≤ x ∧ x ≤ 18446744073709551615) (h2 : 0 ≤ y ∧ y ≤ 18446744073709551615) : I64 [x, y] := by intro v hv; simp at hv; rcases hv with rfl | rfl <;> assumption

set_option maxHeartbeats 4000000 in
theorem rputArray_any (x : Int) (A : Option Addr) (n c : Nat) (f : Nat → Int) (w : World) (hi : InInts .u64 w A n f) (hn : n ≤ 50000) (hx : 0 ≤ x ∧ x ≤ 18446744073709551615) :
    Calls Try.prog 64 #[arrV x A n c] w (Owned (objB 6 (arrB x (ints f n))) (16 + (8 + 8 * n) + padN (8 + 8 * n)) w) := by
  have HI := Lib.hid hi
  have b0 := Lib.hid ((Below.refl w.heap.size w).alloc (Nat.le_refl _) (arrC 141 x A n c))
  have R0 := Lib.hid (show Blk (w.alloc (arrC 141 x A n c)) w.heap.size [.int .u64 x, .slice A n c] 141 from Blk.new w _ _)
  have i0 := R0.out.drew.cell (i := 0) rfl
  have i1 := R0.out.drew.cell (i := 1) rfl
  have PB := Lib.hid (R0.out.alloc (.cells #[.int .u64 x] 36)).drew
  have pb0 := PB.out.cell (i := 0) rfl
  have pb1 := PB.out.cell (i := 1) rfl
  have HN := Lib.hid fun (W : World) (g : Nat) (hg : W.heap.size = g) => rnums_litd [x] 1 8 _ rfl W g hg (I64_one hx) rfl (by decide) rfl
  dsimp only [List.map] at HN
  have HN2 := Lib.hid fun (W : World) (hb : Below w.heap.size w W) => rnums_in A n c f W (HI.out.below hb) (by omega)
  have HP := Lib.hid fun (B : Option Addr) (cb : Nat) (W : World) (base : Nat) (ho : Own W base B (8 + 8 * n) cb (nums [x] ++ nums (ints f n))) => rput_yes 6 B _ (8 + 8 * n) cb W (by decide) ho.bytes ho.2.1 (by omega)
  unfold Owned at HP
  unfold NumsTold at HN
  unfold arrB
  generalize padN (8 + 8 * n) = pn at *
  clear hi
  go_enter Try.func64, Try.ntmps64
  go_wp2
  go_region_held3 (fun W => InsideA w.heap.size W x A n c) (first | (with_reducible exact ⟨i0, i1⟩) | (with_reducible exact ⟨pb0, pb1⟩) | (with_reducible exact ⟨q0, q1⟩) | (with_reducible exact ⟨r0, r1⟩) | (with_reducible exact ⟨s0, s1⟩) | (with_reducible exact ⟨t0, t1⟩) | go_keep) (first
    | (refine step_append_bytes (o := ⟨some 10, _, _, _, _, _⟩) rfl (.tmp 6) (.tmp 9) rfl (w.heap.size + 1) A1 8 c1 (nums [x]) rfl O1.out A2 (8 * n) c2 (nums (ints f n)) rfl O2.out.bytes (nums_ints_len f n) (by omega) ?_; intro A3 c3 w3 ho3 hb3; have O3 := Lib.hid ho3; have B3 := Lib.hid (B2.out.trans hb3); have R3 := Lib.hid (R0.out.below B3.out (Nat.lt_succ_self _)); have s0 := R3.out.cell (i := 0) rfl; have s1 := R3.out.cell (i := 1) rfl; clear ho3 hb3)
    | (go_at_call 48; (with_reducible refine (HN.out _ _ (by simp)).mono ?_); rintro e w1 ⟨A1, c1, rfl, ho1, hb1⟩; have O1' := Lib.hid (Own.base ho1 (b2 := w.heap.size + 1) (by simp)); have B1 := Lib.hid (show Below (w.heap.size + 1) (w.alloc (arrC 141 x A n c)) w1 from Below.mono hb1 (by simp)); have R1 := Lib.hid (R0.out.below B1.out (Nat.lt_succ_self _)); have q0 := R1.out.cell (i := 0) rfl; have q1 := R1.out.cell (i := 1) rfl; clear ho1 hb1)
    | (go_at_call 48; (with_reducible refine (HN2.out w1 (b0.out.trans (B1.out.mono (Nat.le_succ _)))).mono ?_); rintro e w2 ⟨A2, c2, rfl, ho2, hb2⟩; have O2 := Lib.hid ho2; have O1 := Lib.hid (O1'.out.kept hb2 (Nat.le_refl _)); have B2 := Lib.hid (B1.out.trans (hb2.mono (by have := B1.out.size; simpa using this))); have R2 := Lib.hid (R0.out.below B2.out (Nat.lt_succ_self _)); have r0 := R2.out.cell (i := 0) rfl; have r1 := R2.out.cell (i := 1) rfl; clear ho2 hb2)
    | (go_at_call 53; (with_reducible refine (HP.out _ _ _ _ O3.out).mono ?_); rintro e w4 ⟨A4, c4, rfl, ho4, hb4⟩; have O4 := Lib.hid ho4; have B4 := Lib.hid hb4; have R4 := Lib.hid (R3.out.below hb4 R3.out.lt); have t0 := R4.out.cell (i := 0) rfl; have t1 := R4.out.cell (i := 1) rfl; clear ho4 hb4))
  go_wp2
  go_ret
  have Bw := b0.out.trans (B3.out.mono (Nat.le_succ _))
  exact ⟨A4, c4, rfl, Own.base O4.out Bw.size, Bw.trans (B4.out.mono Bw.size)⟩

theorem rputTable_no (k : Int) (A : Option Addr) (n c : Nat) (w : World) (h : isTab k = false) :
    Calls Try.prog 35 #[.int .i64 k, .slice A n c] w fun e w' => e = .returned (.slice none 0 0) ∧ w = w' := by
  have h1 : (k == 4) = false ∧ (k == 5) = false := by unfold isTab at h; simpa using h
  have h2 : ¬ k = 4 := by simpa using h1.1
  have h3 : ¬ k = 5 := by simpa using h1.2
  have h4 : (k != 4) = true := by simpa using h2
  have h5 : (k != 5) = true := by simpa using h3
  go_enter Try.func35, Try.ntmps35
  go_wp2
  go_ret
  exact ⟨rfl, rfl⟩
set_option maxHeartbeats 4000000 in
theorem rputTable_at (kd : Int) (A : Option Addr) (n c : Nat) (f g : Nat → Int) (w : World) (h : kd = 4 ∨ kd = 5) (hi : In2 w A n f g) (hn : n ≤ 50000) :
    Calls Try.prog 35 #[.int .i64 kd, .slice A n c] w (Owned (objB kd (nums (prs f g n))) (16 + 16 * n + padN (16 * n)) w) := by
  have HI := Lib.hid hi
  have HP := Lib.hid fun (B : Option Addr) (cb : Nat) (W : World) (ho : Own W w.heap.size B (16 * n) cb (nums (prs f g n))) => rput_yes kd B _ (16 * n) cb W (by omega) ho.bytes ho.2.1 (by omega)
  unfold Owned at HP
  have HEs := Lib.hid fun k : Nat => nums_prs f g k
  generalize padN (16 * n) = pn at *
  clear hi
  rcases h with rfl | rfl
  all_goals
    go_enter Try.func35, Try.ntmps35
    go_wp2
    go_loopw [5, 6] (fun z i wr => ∃ (k : Nat) (A' : Option Addr) (c' : Nat), k ≤ n ∧ z = .slice A' (16 * k) c' ∧ i = .int .i64 (k : Int) ∧ Hid (Own wr w.heap.size A' (16 * k) c' (nums (prs f g k))) ∧ Hid (Below w.heap.size w wr)) (fun _ i _ => n - (intOf i).toNat)
    case atStart => exact ⟨0, none, 0, Nat.zero_le _, rfl, rfl, Own.nil w _ (Nat.le_refl _), Lib.hid (Below.refl _ _)⟩
    case round =>
      obtain ⟨k, A', c', hk, rfl, rfl, ho, hb⟩ := hrel
      have hsz := hb.out.size
      by_cases hlt : k < n
      · obtain ⟨b, off, rfl, hlow, c0w, c1w, f01, g01⟩ := HI.out k hlt
        have c0 := (hb.out.cell (p := ⟨b, off + k * 2, none⟩) hlow).trans c0w
        have c1' := (hb.out.cell (p := ⟨b, off + k * 2 + 1, none⟩) hlow).trans c1w
        have hblt : b < wr.heap.size := Nat.lt_of_lt_of_le hlow hsz
        have HLo := Lib.hid hlow
        have HEk := Lib.hid (HEs.out k)
        clear c0w c1w hlow
        have HN := Lib.hid fun (W : World) (g1 : Nat) (hg : W.heap.size = g1) => rnums_litd [f k, g k] 2 16 _ rfl W g1 hg (I64_two f01 g01) rfl (by decide) rfl
        dsimp only [List.map] at HN
        unfold NumsTold at HN
        generalize f k = X at *
        generalize g k = Y at *
        have u0 : wr.drew.cell? ⟨b, off + k * 2, none⟩ = some (.int .u64 X) := c0
        have u1 : wr.drew.cell? ⟨b, off + k * 2 + 1, none⟩ = some (.int .u64 Y) := c1'
        have hk0 : (0 : Int) ≤ (k : Int) := by omega
        have hkn : (k : Int) < (n : Int) := by omega
        have HBl := Lib.hid hblt
        go_wp2
        go_region_held3 (fun W => W.cell? ⟨b, off + k * 2, none⟩ = some (.int .u64 X) ∧ W.cell? ⟨b, off + k * 2 + 1, none⟩ = some (.int .u64 Y)) (first | (with_reducible exact ⟨u0, u1⟩) | (with_reducible exact ⟨q0, q1⟩) | (with_reducible exact ⟨r0, r1⟩) | go_keep) (first
          | (go_at_call 48; (with_reducible refine (HN.out _ _ (by simp)).mono ?_); rintro e w2 ⟨A2, c2, rfl, ho2, hb2⟩; have O2 := Lib.hid ho2; have O3 := Lib.hid (ho.out.kept hb2 (Nat.le_refl _)); have B2 := Lib.hid (hb.out.trans (hb2.mono hsz)); have q0 := (hb2.cell (p := ⟨b, off + k * 2, none⟩) HBl.out).trans u0; have q1 := (hb2.cell (p := ⟨b, off + k * 2 + 1, none⟩) HBl.out).trans u1; clear ho2 hb2)
          | (refine step_append_bytes (o := ⟨some 32, _, _, _, _, _⟩) rfl (.tmp 19) (.tmp 31) rfl w.heap.size A' (16 * k) c' _ rfl O3.out A2 16 c2 (nums [X, Y]) rfl O2.out.bytes (by rw [nums_len]; rfl) (by omega) ?_; intro A3 c3 w3 ho3 hb3; have HO3 := Lib.hid ho3; have HB3 := Lib.hid (B2.out.trans hb3); have r0 := (hb3.cell (p := ⟨b, off + k * 2, none⟩) HLo.out).trans q0; have r1 := (hb3.cell (p := ⟨b, off + k * 2 + 1, none⟩) HLo.out).trans q1; clear ho3 hb3))
        all_goals
          go_wp2
          go_roundw
          case rel =>
            refine ⟨k + 1, A3, c3, by omega, rfl, by go_num, ?_, HB3⟩
            rw [HEk.out]
            exact HO3
          case measure => simp [intOf]; omega
      · obtain rfl : k = n := by omega
        go_wp2_with (go_at_call 53; (with_reducible refine (HP.out _ _ _ ho.out).mono ?_); rintro e w5 ⟨A5, c5, rfl, ho5, hb5⟩; have HO5 := Lib.hid ho5; have HB5 := Lib.hid hb5; clear ho5 hb5)
        go_ret
        exact ⟨A5, c5, rfl, Own.base HO5.out hb.out.size, hb.out.trans (HB5.out.mono hb.out.size)⟩

set_option maxHeartbeats 4000000 in
theorem rputEntry_any (s r m : Int) (K : Nat → Int) (x : Int) (A : Option Addr) (n c : Nat) (f g : Nat → Int) (w : World) (hi : In2 w A n f g) (hn : n ≤ 50000) (hK : IdOk K) (hs : 0 ≤ s ∧ s ≤ 18446744073709551615) (hr : 0 ≤ r ∧ r ≤ 18446744073709551615) (hm : 0 ≤ m ∧ m ≤ 18446744073709551615) (hx : 0 ≤ x ∧ x ≤ 18446744073709551615) :
    Calls Try.prog 43 #[entV s r m K x A n c] w (Owned (objB 3 (entB s r m K x (prs f g n))) (16 + (48 + 16 * n) + padN (48 + 16 * n)) w) := by
  have HI := Lib.hid hi
  have b0 := Lib.hid ((Below.refl w.heap.size w).alloc (Nat.le_refl _) (entC 116 s r m K x A n c))
  have R0 := Lib.hid (show Blk (w.alloc (entC 116 s r m K x A n c)) w.heap.size (entL s r m K x A n c) 116 from Blk.new w _ _)
  have hI3 : I64 [s, r, m] := by intro v hv; simp at hv; rcases hv with rfl | rfl | rfl <;> assumption
  have i0 := R0.out.drew.cell (i := 0) rfl
  have i1 := R0.out.drew.cell (i := 1) rfl
  have i2 := R0.out.drew.cell (i := 2) rfl
  have PB := Lib.hid (R0.out.alloc (.cells #[.int .u64 s, .int .u64 r, .int .u64 m] 36)).drew
  have pb0 := PB.out.cell (i := 0) rfl
  have pb1 := PB.out.cell (i := 1) rfl
  have pb2 := PB.out.cell (i := 2) rfl
  have HLt := Lib.hid (Nat.lt_succ_self w.heap.size)
  have HN := Lib.hid fun (W : World) (g : Nat) (hg : W.heap.size = g) => rnums_litd [s, r, m] 3 24 _ rfl W g hg hI3 rfl (by decide) rfl
  have HNx := Lib.hid fun (W : World) (g : Nat) (hg : W.heap.size = g) => rnums_lit [x] 1 8 _ rfl W g hg (I64_one hx) rfl (by decide) rfl
  dsimp only [List.map] at HN HNx
  unfold NumsTold at HN HNx
  have HEs := Lib.hid fun k : Nat => show entB s r m K x (prs f g (k + 1)) = entB s r m K x (prs f g k) ++ nums [f k, g k] by unfold entB; rw [nums_prs]; simp
  have HP := Lib.hid fun (B : Option Addr) (cb : Nat) (W : World) (ho : Own W (w.heap.size + 1) B (48 + 16 * n) cb (entB s r m K x (prs f g n))) => rput_yes 3 B _ (48 + 16 * n) cb W (by decide) ho.bytes ho.2.1 (by omega)
  unfold Owned at HP
  have hcat : nums [s, r, m] ++ idL K ++ nums [x] = entB s r m K x (prs f g 0) := by unfold entB; rw [prs_zero, nums_nil, List.append_nil]
  have HCat := Lib.hid hcat
  generalize padN (48 + 16 * n) = pn at *
  clear hi hcat hI3
  go_enter Try.func43, Try.ntmps43
  go_wp2
  go_region_held3 (fun W => W.cell? ⟨w.heap.size, 0, none⟩ = some (.int .u64 s) ∧ W.cell? ⟨w.heap.size, 1, none⟩ = some (.int .u64 r) ∧ W.cell? ⟨w.heap.size, 2, none⟩ = some (.int .u64 m)) (first | (with_reducible exact ⟨i0, i1, i2⟩) | (with_reducible exact ⟨pb0, pb1, pb2⟩) | (with_reducible exact ⟨q0, q1, q2⟩) | (with_reducible exact ⟨r0, r1, r2⟩) | go_keep) (first
    | (go_at_call 48; (with_reducible refine (HN.out _ _ (by simp)).mono ?_); rintro e w1 ⟨A1, c1, rfl, ho1, hb1⟩; have O1 := Lib.hid (Own.base ho1 (b2 := w.heap.size + 1) (by simp)); have B1 := Lib.hid (show Below (w.heap.size + 1) (w.alloc (entC 116 s r m K x A n c)) w1 from Below.mono hb1 (by simp)); have R1 := Lib.hid (R0.out.below B1.out HLt.out); have HId := Lib.hid (ent_id R1.out hK); have q0 := R1.out.cell (i := 0) rfl; have q1 := R1.out.cell (i := 1) rfl; have q2 := R1.out.cell (i := 2) rfl; clear ho1 hb1)
    | (refine step_append_bytes (o := ⟨some 15, _, _, _, _, _⟩) rfl (.tmp 12) (.tmp 14) rfl (w.heap.size + 1) A1 24 c1 (nums [s, r, m]) rfl O1.out (some ⟨w.heap.size, 3, none⟩) 16 16 (idL K) rfl HId.out rfl (by decide) ?_; intro A2 c2 w2 ho2 hb2; have HO2 := Lib.hid ho2; have HB2 := Lib.hid (B1.out.trans hb2); have R2 := Lib.hid (R0.out.below HB2.out HLt.out); have r0 := R2.out.cell (i := 0) rfl; have r1 := R2.out.cell (i := 1) rfl; have r2 := R2.out.cell (i := 2) rfl; have j19 := R2.out.cell (i := 19) rfl; clear ho2 hb2))
  clear i0 i1 i2 pb0 pb1 pb2 q0 q1 q2 r0 r1 r2
  go_wp2_with (first
    | (go_at_call 48; (with_reducible refine (HNx.out _ _ (by simp)).mono ?_); rintro e w3 ⟨A3, c3, rfl, ho3, hb3⟩; have O3 := Lib.hid ho3; have HO2k := Lib.hid (HO2.out.kept hb3 (Nat.le_refl _)); have HB3 := Lib.hid (HB2.out.trans (hb3.mono (by have := HB2.out.size; simpa using this))); clear ho3 hb3)
    | (at_builtin; refine wpList_append_bytes rfl (.tmp 16) (.tmp 20) rfl (w.heap.size + 1) A2 40 c2 _ rfl HO2k.out A3 8 c3 (nums [x]) rfl O3.out.bytes (by rw [nums_len]; rfl) (by decide) ?_; intro A4 c4 w4 ho4 hb4; rw [HCat.out] at ho4; have HO4 := Lib.hid ho4; have HB4 := Lib.hid (HB3.out.trans hb4); have R4 := Lib.hid (R0.out.below HB4.out HLt.out); have k20 := R4.out.cell (i := 20) rfl; clear ho4 hb4))
  go_loopw [3, 4] (fun z i wr => ∃ (k : Nat) (A' : Option Addr) (c' : Nat), k ≤ n ∧ z = .slice A' (48 + 16 * k) c' ∧ i = .int .i64 (k : Int) ∧ Hid (Own wr (w.heap.size + 1) A' (48 + 16 * k) c' (entB s r m K x (prs f g k))) ∧ Hid (Below (w.heap.size + 1) (w.alloc (entC 116 s r m K x A n c)) wr)) (fun _ i _ => n - (intOf i).toNat)
  case atStart => exact ⟨0, A4, c4, Nat.zero_le _, rfl, rfl, HO4, HB4⟩
  case round =>
    obtain ⟨k, A', c', hk, rfl, rfl, ho, hb⟩ := hrel
    have Bw := Lib.hid (b0.out.trans (hb.out.mono (Nat.le_succ _)))
    have hsz : w.heap.size + 1 ≤ wr.heap.size := by have := hb.out.size; simpa using this
    have Rr := Lib.hid (R0.out.below hb.out HLt.out)
    have l20 := Rr.out.cell (i := 20) rfl
    by_cases hlt : k < n
    · obtain ⟨b, off, rfl, hlow, c0w, c1w, f01, g01⟩ := HI.out k hlt
      have c0 := (Bw.out.cell (p := ⟨b, off + k * 2, none⟩) hlow).trans c0w
      have c1' := (Bw.out.cell (p := ⟨b, off + k * 2 + 1, none⟩) hlow).trans c1w
      have hblt : b < wr.heap.size := by omega
      have hlow1 : b < w.heap.size + 1 := by omega
      have HLo := Lib.hid hlow1
      have HEk := Lib.hid (HEs.out k)
      clear c0w c1w hlow hlow1
      have HN2 := Lib.hid fun (W : World) (g1 : Nat) (hg : W.heap.size = g1) => rnums_litd [f k, g k] 2 16 _ rfl W g1 hg (I64_two f01 g01) rfl (by decide) rfl
      dsimp only [List.map] at HN2
      unfold NumsTold at HN2
      generalize f k = X at *
      generalize g k = Y at *
      have u0 : wr.drew.cell? ⟨b, off + k * 2, none⟩ = some (.int .u64 X) := c0
      have u1 : wr.drew.cell? ⟨b, off + k * 2 + 1, none⟩ = some (.int .u64 Y) := c1'
      have u2 : wr.drew.cell? ⟨w.heap.size, 20, none⟩ = some (.slice (some ⟨b, off, none⟩) n c) := l20
      have Na := Lib.hid ((Below.refl wr.heap.size wr).alloc (Nat.le_refl _) (.cells #[.int .u64 X, .int .u64 Y] 36)).drew
      have v0 := (Na.out.cell (p := ⟨b, off + k * 2, none⟩) hblt).trans c0
      have v1 := (Na.out.cell (p := ⟨b, off + k * 2 + 1, none⟩) hblt).trans c1'
      have v2 := (Na.out.cell (p := ⟨w.heap.size, 20, none⟩) (by show w.heap.size < wr.heap.size; omega)).trans l20
      have hk0 : (0 : Int) ≤ (k : Int) := by omega
      have hkn : (k : Int) < (n : Int) := by omega
      have HBl := Lib.hid hblt
      go_wp2
      go_region_held3 (fun W => W.cell? ⟨b, off + k * 2, none⟩ = some (.int .u64 X) ∧ W.cell? ⟨b, off + k * 2 + 1, none⟩ = some (.int .u64 Y) ∧ W.cell? ⟨w.heap.size, 20, none⟩ = some (.slice (some ⟨b, off, none⟩) n c)) (first | (with_reducible exact ⟨u0, u1, u2⟩) | (with_reducible exact ⟨v0, v1, v2⟩) | (with_reducible exact ⟨q0, q1, q2⟩) | (with_reducible exact ⟨r0, r1, r2⟩) | go_keep) (first
        | (go_at_call 48; (with_reducible refine (HN2.out _ _ (by simp)).mono ?_); rintro e w5 ⟨A5, c5, rfl, ho5, hb5⟩; have O5 := Lib.hid ho5; have O6 := Lib.hid (ho.out.kept hb5 (Nat.le_refl _)); have B5 := Lib.hid (hb.out.trans (hb5.mono hsz)); have q0 := (hb5.cell (p := ⟨b, off + k * 2, none⟩) HBl.out).trans u0; have q1 := (hb5.cell (p := ⟨b, off + k * 2 + 1, none⟩) HBl.out).trans u1; have q2 := (hb5.cell (p := ⟨w.heap.size, 20, none⟩) (by show w.heap.size < wr.heap.size; omega)).trans u2; clear ho5 hb5)
        | (refine step_append_bytes (o := ⟨some 44, _, _, _, _, _⟩) rfl (.tmp 29) (.tmp 43) rfl (w.heap.size + 1) A' (48 + 16 * k) c' _ rfl O6.out A5 16 c5 (nums [X, Y]) rfl O5.out.bytes (by rw [nums_len]; rfl) (by omega) ?_; intro A7 c7 w7 ho7 hb7; have HO7 := Lib.hid ho7; have HB7 := Lib.hid (B5.out.trans hb7); have r0 := (hb7.cell (p := ⟨b, off + k * 2, none⟩) HLo.out).trans q0; have r1 := (hb7.cell (p := ⟨b, off + k * 2 + 1, none⟩) HLo.out).trans q1; have r2 := (hb7.cell (p := ⟨w.heap.size, 20, none⟩) HLt.out).trans q2; clear ho7 hb7))
      all_goals
        go_wp2
        go_roundw
        case rel =>
          refine ⟨k + 1, A7, c7, by omega, rfl, by go_num, ?_, HB7⟩
          rw [HEk.out]
          exact HO7
        case measure => simp [intOf]; omega
    · obtain rfl : k = n := by omega
      go_wp2_with (go_at_call 53; (with_reducible refine (HP.out _ _ _ ho.out).mono ?_); rintro e w5 ⟨A5, c5, rfl, ho5, hb5⟩; have HO5 := Lib.hid ho5; have HB5 := Lib.hid hb5; clear ho5 hb5)
      go_ret
      exact ⟨A5, c5, rfl, Own.base HO5.out Bw.out.size, Bw.out.trans (HB5.out.mono Bw.out.size)⟩
end Go.Proofs.Ytldkmobncmfodaa.Yk

/-
  The document's writer's small calls: eight bytes put into its image; the room of an array.
-/
namespace Go.Proofs.Ytldkmobncmfodaa.Mb
open Go.ChangeShapes Go.WideShapes Go.ChangeAt Go.RowKit
open Bytes8 Blk8 Own8 OwnM OwnE LeA LeNum LeB LeP RefA RefB Ob Oc Od Ga Ma Kf
set_option linter.unusedVariables false
set_option linter.unusedSimpArgs false
set_option maxRecDepth 100000

theorem room_any (k : Nat) (w : World) : Calls Try.prog 63 #[.int .i64 (k : Int)] w fun e w' => e = .returned (.int .i64 (roomN k : Nat)) ∧ w = w' := by
  by_cases h : 6 < k
  · have d1 : decide ((6 : Int) < (k : Int)) = true := by simp; omega
    rw [show roomN k = 256 by unfold roomN; rw [if_pos h]]
    go_enter Try.func63, Try.ntmps63
    go_wp2
    go_ret
    exact ⟨rfl, rfl⟩
  · rcases k with _ | _ | _ | _ | _ | _ | _ | k
    all_goals first
      | omega
      | (go_enter Try.func63, Try.ntmps63
         go_wp2
         go_ret
         exact ⟨rfl, rfl⟩)
/-- A byte of a row of the call's own is set. -/
theorem own_set {w : World} {base g n c : Nat} {l : List Int} (h : Own w base (some ⟨g, 0, none⟩) n c l) (i : Nat) {x : Int} (h0 : 0 ≤ x) (h1 : x < 256) : Own (w.setCell ⟨g, i, none⟩ (.int .u8 x)) base (some ⟨g, 0, none⟩) n c (l.set i x) := by
  refine ⟨h.1.set i h0 h1, by rw [List.length_set]; exact h.2.1, by simpa using h.2.2.1, ?_⟩
  have := (h.2.2.2.stored i (.int .u8 x)).1
  rw [List.map_set]
  exact this
theorem own_lt {w : World} {base g n c : Nat} {l : List Int} (h : Own w base (some ⟨g, 0, none⟩) n c l) : base ≤ g ∧ g < w.heap.size := h.lt g rfl
/-- What a call leaves that sets bytes of one row alone. -/
structure Put8 (bb : Nat) (w w' : World) : Prop where
  kept : KeptF (One bb) w w'
  size : w'.heap.size = w.heap.size
theorem Put8.refl (bb : Nat) (w : World) : Put8 bb w w := ⟨KeptF.refl _ _, rfl⟩
theorem Put8.set {bb : Nat} {w0 w : World} (h : Put8 bb w0 w) (i : Nat) (u : Value) : Put8 bb w0 (w.setCell ⟨bb, i, none⟩ u) := ⟨h.kept.setCell (p := ⟨bb, i, none⟩) (fun _ => (rfl : bb = bb)) u, by simpa using h.size⟩
theorem Put8.trans {bb : Nat} {a b c : World} (h : Put8 bb a b) (k : Put8 bb b c) : Put8 bb a c := ⟨h.kept.trans k.kept fun _ _ h => h, k.size.trans h.size⟩
theorem blk_keptF {F : Nat → Prop} {w w' : World} {g : Nat} {vs : List Value} {T : TypeId} (h : Blk w g vs T) (hk : KeptF F w w') (hF : ¬ F g) : Blk w' g vs T := (hk.block g h.lt hF).trans h
theorem put_any (g bb cb n a : Nat) (cs : List Value) (T : TypeId) (l : List Int) (v : Int) (B : Nat) (w : World) (hs : Blk w g cs T) (h3 : cs[143]? = some (.slice (some ⟨bb, 0, none⟩) n cb)) (hb : Own w B (some ⟨bb, 0, none⟩) n cb l) (hne : g ≠ bb) (ha : a + 8 ≤ n) (hn : n ≤ 4000000) :
    Calls Try.prog 46 #[.pointer (some ⟨g, 0, none⟩), .int .u64 (a : Int), .int .u64 v] w fun e w' => e = .returned (.tuple #[]) ∧ Own w' B (some ⟨bb, 0, none⟩) n cb (put8 l a v) ∧ Put8 bb w w' := by
  have HS := Lib.hid hs
  have H3 := Lib.hid h3
  have HL := Lib.hid hb.2.1
  clear hs h3
  go_enter Try.func46, Try.ntmps46
  go_wp2
  go_loopw [6] (fun i wr => ∃ k : Nat, k ≤ 8 ∧ i = .int .i64 (k : Int) ∧ Hid (Own wr B (some ⟨bb, 0, none⟩) n cb (over l a (lowB v k))) ∧ Hid (Put8 bb w wr)) (fun i _ => 8 - (intOf i).toNat)
  case atStart => exact ⟨0, Nat.zero_le _, rfl, Lib.hid (by rw [show lowB v 0 = [] from rfl, over_nil]; exact hb), Lib.hid (Put8.refl _ _)⟩
  case round =>
    obtain ⟨k, hk, rfl, hO, hP⟩ := hrel
    by_cases hlt : k < 8
    · have c3 := (blk_keptF HS.out hP.out.kept hne).cell H3.out
      have hcell := hO.out.2.2.2.cellAt (a + k) (by omega)
      have hfr := hO.out.2.2.2.frozenAt (a + k)
      obtain ⟨z, hz2⟩ : ∃ z, (over l a (lowB v k))[a + k]? = some z := ⟨_, List.getElem?_eq_getElem (by rw [hO.out.2.1]; omega)⟩
      rw [List.getElem?_map, hz2] at hcell
      clear hz2
      have HSt := Lib.hid (own_set hO.out (a + k) (Int.emod_nonneg (v / 256 ^ k) (by decide : (256 : Int) ≠ 0)) (Int.emod_lt_of_pos (v / 256 ^ k) (by decide)))
      rw [show (over l a (lowB v k)).set (a + k) (v / 256 ^ k % 256) = over l a (lowB v (k + 1)) by
        have e := over_step l a (lowB v k) (v / 256 ^ k % 256) (by rw [lowB_len, HL.out]; omega)
        rw [lowB_len] at e
        rw [lowB_succ, e]] at HSt
      rw [← two_pow_8] at HSt
      have hpk : a + k < n := by omega
      generalize hpk2 : a + k = pk at *
      go_wp2
      go_roundw
      case rel => exact ⟨k + 1, by omega, by go_num, HSt, Lib.hid (hP.out.set _ _)⟩
      case measure => simp [intOf]; omega
    · obtain rfl : k = 8 := by omega
      go_wp2
      go_end0
      exact ⟨rfl, hO.out, hP.out⟩
theorem put_at (g bb cb n a : Nat) (z : Int) (hz : z = (a : Int)) (cs : List Value) (T : TypeId) (l : List Int) (v : Int) (B : Nat) (w : World) (hs : Blk w g cs T) (h3 : cs[143]? = some (.slice (some ⟨bb, 0, none⟩) n cb)) (hb : Own w B (some ⟨bb, 0, none⟩) n cb l) (hne : g ≠ bb) (ha : a + 8 ≤ n) (hn : n ≤ 4000000) :
    Calls Try.prog 46 #[.pointer (some ⟨g, 0, none⟩), .int .u64 z, .int .u64 v] w fun e w' => e = .returned (.tuple #[]) ∧ Own w' B (some ⟨bb, 0, none⟩) n cb (put8 l a v) ∧ Put8 bb w w' := by
  subst hz; exact put_any g bb cb n a cs T l v B w hs h3 hb hne ha hn
end Go.Proofs.Ytldkmobncmfodaa.Mb

/-
  The document's writer in memory: its cells, one set at a time.
-/
namespace Go.Proofs.Ytldkmobncmfodaa.Mc
open Go.ChangeShapes Go.WideShapes Go.ChangeAt Go.RowKit
open Bytes8 Blk8 Own8 OwnM OwnA OwnE LeA LeNum LeB LeP RefA RefB Ob Oc Od Ga Ma Kf Mb
set_option linter.unusedVariables false
set_option linter.unusedSimpArgs false
set_option maxRecDepth 100000

/-- The four slices of a writer. -/
structure Sl where
  b : Value
  d : Value
  f : Value
  m : Value
def Cf.at_ (C : Cf) (i : Nat) : Value :=
  if i < 48 then (if i < 16 then .int .u8 (C.F i) else if i < 32 then .int .u8 (C.M (i - 16)) else .int .u8 (C.S (i - 32)))
  else if i = 48 then .int .i64 (C.ds : Int) else if i = 49 then .int .i64 (C.fs : Int) else if i = 50 then .int .i64 (C.most : Int) else .bool C.keyed
def Mk.at_ (m : Mk) (S : Sl) (i : Nat) : Value :=
  if i < 142 then (if i < 52 then Cf.at_ m.C i else m.h.at_ 20 (i - 52))
  else if i = 142 then .int .u64 (m.depth : Int) else if i = 143 then S.b else if i = 144 then S.d else if i = 145 then S.f else S.m
def Mk.cells (m : Mk) (S : Sl) : List Value := (List.range 147).map (Mk.at_ m S)
theorem Mk.len (m : Mk) (S : Sl) : (Mk.cells m S).length = 147 := by simp [Mk.cells]
theorem Mk.get (m : Mk) (S : Sl) (i : Nat) (hi : i < 147) : (Mk.cells m S)[i]? = some (Mk.at_ m S i) := by simp [Mk.cells, hi]
theorem Mk.get_N (m : Mk) (S : Sl) (i : Nat) (hi : i < 20) : (Mk.cells m S)[119 + i]? = some (.int .u64 (m.h.N i)) := by
  rw [Mk.get m S _ (by omega)]
  unfold Mk.at_
  rw [if_pos (by omega), if_neg (by omega), show 119 + i - 52 = 67 + i by omega]
  have := m.h.get_N 20 i hi
  rw [m.h.get 20 _ (by omega)] at this
  exact this
theorem Mk.get_depth (m : Mk) (S : Sl) : (Mk.cells m S)[142]? = some (.int .u64 (m.depth : Int)) := by rw [Mk.get m S _ (by decide)]; rfl
theorem Mk.get_b (m : Mk) (S : Sl) : (Mk.cells m S)[143]? = some S.b := by rw [Mk.get m S _ (by decide)]; rfl
theorem Mk.get_d (m : Mk) (S : Sl) : (Mk.cells m S)[144]? = some S.d := by rw [Mk.get m S _ (by decide)]; rfl
theorem Mk.get_f (m : Mk) (S : Sl) : (Mk.cells m S)[145]? = some S.f := by rw [Mk.get m S _ (by decide)]; rfl
theorem Mk.get_m (m : Mk) (S : Sl) : (Mk.cells m S)[146]? = some S.m := by rw [Mk.get m S _ (by decide)]; rfl
theorem Mk.get_ds (m : Mk) (S : Sl) : (Mk.cells m S)[48]? = some (.int .i64 (m.C.ds : Int)) := by rw [Mk.get m S _ (by decide)]; rfl
theorem Mk.get_fs (m : Mk) (S : Sl) : (Mk.cells m S)[49]? = some (.int .i64 (m.C.fs : Int)) := by rw [Mk.get m S _ (by decide)]; rfl
theorem Mk.get_most (m : Mk) (S : Sl) : (Mk.cells m S)[50]? = some (.int .i64 (m.C.most : Int)) := by rw [Mk.get m S _ (by decide)]; rfl
theorem Mk.get_F (m : Mk) (S : Sl) (i : Nat) (hi : i < 16) : (Mk.cells m S)[i]? = some (.int .u8 (m.C.F i)) := by
  rw [Mk.get m S _ (by omega)]
  unfold Mk.at_ Cf.at_
  rw [if_pos (by omega), if_pos (by omega), if_pos (by omega), if_pos hi]
abbrev fileV (C : Cf) : List Value := [.int .u8 (C.F 0), .int .u8 (C.F 1), .int .u8 (C.F 2), .int .u8 (C.F 3), .int .u8 (C.F 4), .int .u8 (C.F 5), .int .u8 (C.F 6), .int .u8 (C.F 7), .int .u8 (C.F 8), .int .u8 (C.F 9), .int .u8 (C.F 10), .int .u8 (C.F 11), .int .u8 (C.F 12), .int .u8 (C.F 13), .int .u8 (C.F 14), .int .u8 (C.F 15)]
theorem Mk.file_range {w : World} {g : Nat} {T : TypeId} {m : Mk} {S : Sl} (hb : Blk w g (Mk.cells m S) T) : w.rangeAt g 0 (fileV m.C) := fun j v hj => by
  have hl : j < 16 := (List.getElem?_eq_some_iff.1 hj).1
  have h2 := hb.cell (Mk.get_F m S j hl)
  have e : (fileV m.C)[j]? = some (.int .u8 (m.C.F j)) := by
    rcases j with _ | _ | _ | _ | _ | _ | _ | _ | _ | _ | _ | _ | _ | _ | _ | _ | j
    all_goals first | rfl | omega
  rw [e] at hj
  injection hj with hj
  subst hj
  rw [Nat.zero_add]
  exact h2
theorem Mk.get_keyed (m : Mk) (S : Sl) : (Mk.cells m S)[51]? = some (.bool m.C.keyed) := by rw [Mk.get m S _ (by decide)]; rfl
theorem set_map (f f' : Nat → Value) (n i : Nat) (v : Value) (h1 : f' i = v) (h2 : ∀ j, j ≠ i → f' j = f j) : ((List.range n).map f).set i v = (List.range n).map f' := by
  apply List.ext_getElem?
  intro j
  rw [List.getElem?_set]
  by_cases hj : j < n
  · by_cases he : i = j
    · subst he
      simp [hj, h1]
    · rw [if_neg he]
      simp [hj, h2 j (fun e => he e.symm)]
  · simp [hj]
    omega
theorem at_N (m : Mk) (S : Sl) (i : Nat) (hi : i < 20) : Mk.at_ m S (119 + i) = .int .u64 (m.h.N i) := by
  have := Mk.get_N m S i hi
  rw [Mk.get m S _ (by omega)] at this
  injection this
theorem Mk.set_N (m : Mk) (S : Sl) (i : Nat) (hi : i < 20) (v : Int) : (Mk.cells m S).set (119 + i) (.int .u64 v) = Mk.cells { m with h := setN m.h i v } S := by
  refine set_map _ _ _ _ _ ?_ fun j hj => ?_
  · rw [at_N _ _ _ hi]; simp [setN]
  · unfold Mk.at_
    by_cases h1 : j < 142
    · rw [if_pos h1, if_pos h1]
      by_cases h2 : j < 52
      · rw [if_pos h2, if_pos h2]
      · rw [if_neg h2, if_neg h2]
        unfold HD.at_
        simp only [setN]
        by_cases h3 : j - 52 < 67 + 20
        · by_cases h4 : j - 52 < 67
          · simp only [h4, if_true]
          · rw [if_neg (by omega), if_neg h4, if_pos h3, if_neg (by omega), if_neg h4, if_pos h3, if_neg (by omega)]
        · simp only [h3, if_false]
    · rw [if_neg h1, if_neg h1]
theorem Mk.set_Nk (m : Mk) (S : Sl) (i k : Nat) (hi : i < 20) (hk : k = 119 + i) (v : Int) : (Mk.cells m S).set k (.int .u64 v) = Mk.cells { m with h := setN m.h i v } S := by subst hk; exact Mk.set_N m S i hi v
theorem Mk.get_Nk (m : Mk) (S : Sl) (i k : Nat) (hi : i < 20) (hk : k = 119 + i) : (Mk.cells m S)[k]? = some (.int .u64 (m.h.N i)) := by subst hk; exact Mk.get_N m S i hi
theorem Mk.set_depth (m : Mk) (S : Sl) (v : Nat) : (Mk.cells m S).set 142 (.int .u64 (v : Int)) = Mk.cells { m with depth := v } S :=
  set_map _ _ _ _ _ rfl fun j hj => by
    unfold Mk.at_
    by_cases h1 : j < 142
    · rw [if_pos h1, if_pos h1]
    · rw [if_neg h1, if_neg h1, if_neg hj, if_neg hj]
theorem Mk.set_b (m : Mk) (S : Sl) (v : Value) : (Mk.cells m S).set 143 v = Mk.cells m { S with b := v } :=
  set_map _ _ _ _ _ rfl fun j hj => by
    unfold Mk.at_
    by_cases h1 : j < 142
    · rw [if_pos h1, if_pos h1]
    · rw [if_neg h1, if_neg h1, if_neg hj, if_neg hj]
theorem Mk.set_d (m : Mk) (S : Sl) (v : Value) : (Mk.cells m S).set 144 v = Mk.cells m { S with d := v } :=
  set_map _ _ _ _ _ rfl fun j hj => by
    unfold Mk.at_
    by_cases h1 : j < 142
    · rw [if_pos h1, if_pos h1]
    · rw [if_neg h1, if_neg h1, if_neg hj, if_neg hj]
theorem Mk.set_f (m : Mk) (S : Sl) (v : Value) : (Mk.cells m S).set 145 v = Mk.cells m { S with f := v } :=
  set_map _ _ _ _ _ rfl fun j hj => by
    unfold Mk.at_
    by_cases h1 : j < 142
    · rw [if_pos h1, if_pos h1]
    · rw [if_neg h1, if_neg h1, if_neg hj, if_neg hj]
theorem Mk.set_m (m : Mk) (S : Sl) (v : Value) : (Mk.cells m S).set 146 v = Mk.cells m { S with m := v } := by
  refine (List.ext_getElem? fun j => ?_)
  rw [List.getElem?_set]
  by_cases hj : j < 147
  · by_cases he : 146 = j
    · subst he
      rw [if_pos rfl, if_pos (by rw [Mk.len]; decide), Mk.get _ _ _ hj]
      rfl
    · rw [if_neg he, Mk.get _ _ _ hj, Mk.get _ _ _ hj]
      unfold Mk.at_
      by_cases h1 : j < 142
      · rw [if_pos h1, if_pos h1]
      · rw [if_neg h1, if_neg h1]
        by_cases h2 : j = 142
        · rw [if_pos h2, if_pos h2]
        · rw [if_neg h2, if_neg h2]
          by_cases h3 : j = 143
          · rw [if_pos h3, if_pos h3]
          · rw [if_neg h3, if_neg h3]
            by_cases h4 : j = 144
            · rw [if_pos h4, if_pos h4]
            · rw [if_neg h4, if_neg h4, if_pos (by omega), if_pos (by omega)]
  · rw [if_neg (by omega), List.getElem?_eq_none (by rw [Mk.len]; omega), List.getElem?_eq_none (by rw [Mk.len]; omega)]
theorem Mk.cells_same {m m' : Mk} (h1 : m.C = m'.C) (h2 : m.h = m'.h) (h3 : m.depth = m'.depth) (S : Sl) : Mk.cells m S = Mk.cells m' S := by
  unfold Mk.cells
  congr 1
  funext i
  unfold Mk.at_
  rw [h1, h2, h3]
/-- 'append' in a walk, with what grows. -/
theorem wpList_append_g {w : World} {ops : Array Oper} {rest : List Oper} {o : Oper} {a : Act} {Q : Exit → Act → World → Prop} (hgd : o.guard = none) (s x : Operand)
    (hop : o.op = .call { callee := .builtin .append, args := #[s, x], argTypes := #[28, 28] })
    (base bb : Nat) (n c : Nat) (l : List Int) (hs : a.eval s = .slice (some ⟨bb, 0, none⟩) n c) (ho : Own w base (some ⟨bb, 0, none⟩) n c l) (hn : 0 < n) (A2 : Option Addr) (m c2 : Nat) (ys : List Int) (hx : a.eval x = .slice A2 m c2) (hb : Bytes w A2 ys) (hm : ys.length = m) (hsz : n + m ≤ 70368744177664)
    (h : ∀ b' c' w', Own w' base (some ⟨b', 0, none⟩) (n + m) c' (l ++ ys) → w.grownBy w' (some bb) → (b' = bb ∨ b' = w.heap.size) → wpList Try.prog ops Q rest (a.put o.dst (.slice (some ⟨b', 0, none⟩) (n + m) c')) w') : wpList Try.prog ops Q (o :: rest) a w :=
  wpList_plain hgd fun K hK => by
    obtain ⟨A', c', w', hr, h1, h2, h3⟩ := run_append_at w o.type base _ n c l ho A2 m c2 ys hb hm hsz
    unfold Oper.wp execOp
    simp only [hop, resolve, invoke, builtin, Sem.run_bind, Sem.run_pure, Result.andThen_ok, List.map_toArray, List.map_cons, List.map_nil, hs, hx, hr]
    rcases h1.2.2.2.2 with ⟨he, h0⟩ | ⟨g, cap, cur, hv, hbg, hg, _⟩
    · exfalso; omega
    · injection hv with e1 e2 e3
      subst e1
      refine hK _ _ (h g c' w' h1 h2 ?_)
      simpa [ownB] using h3
end Go.Proofs.Ytldkmobncmfodaa.Mc
