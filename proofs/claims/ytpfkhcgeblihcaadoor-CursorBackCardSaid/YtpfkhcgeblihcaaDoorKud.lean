/-
  Sixteen bytes in 32 digits: the program's way and the document's.
-/
import Derived.Test.YtpfkhcgeblihcaaDoorKuc
import Derived.Test.YtpfkhcgeblihcaaDoorOwn
namespace Go.Proofs.YtpfkhcgeblihcaaDoor.Kud
open Go.ChangeShapes Go.WideShapes Go.ChangeAt Go.RowKit
open Bytes8 Blk8 Own8 Fa Kua Kub Kuc
set_option linter.unusedVariables false
set_option linter.unusedSimpArgs false
set_option maxRecDepth 100000

theorem make_room (p : Nat) (z : Int) (hz : z = (p : Int)) (hp : p ≤ 100000000) (w : World) : (Instr.makeSlice 53 (.int .i64 0) (.int .i64 z)).run Tryd.prog w = .ok (.slice (some ⟨w.heap.size, 0, none⟩) 0 p) (w.alloc (.cells (Array.replicate p (Value.int .u8 0)) 5)) := by
  subst hz
  obtain ⟨i, hi, hzz⟩ := Option.map_eq_some_iff.1 info8
  simp only [Prod.mk.injEq] at hzz
  obtain ⟨hz, hs, hb⟩ := hzz
  have h := run_make (P := Tryd.prog) w 53 5 i (.int .u8 0) Tryd.underlying53 hi hz .i64 .i64 0 (p : Int) (Int.le_refl _) (by omega) (by rw [hb]; omega) (by omega)
  have e : madeCells (Value.int .u8 0).cells ((p : Int).toNat * i.size) = Array.replicate p (Value.int .u8 0) := by
    apply Array.ext'
    rw [hs, Nat.mul_one, Int.toNat_natCast]
    show (madeCells #[Value.int .u8 0] p).toList = _
    rw [toList_madeCells_one]
    simp
  rw [e] at h
  exact h
theorem own_room (p g base : Nat) (w : World) (hg : w.heap.size = g) (hb : base ≤ g) (hp : p ≤ maxLen) : Own (w.alloc (.cells (Array.replicate p (Value.int .u8 0)) 5)) base (some ⟨g, 0, none⟩) 0 p [] := by
  subst hg
  exact ⟨(fun _ h => by cases h), rfl, by simp; omega, World.ownsRow_made w _ p hb hp (by simp)⟩
abbrev D16 : ByteArray := { data := #[48, 49, 50, 51, 52, 53, 54, 55, 56, 57, 97, 98, 99, 100, 101, 102] }
theorem d16 {d : Nat} (hd : d < 16) (w : World) : (Instr.index 9 (.string D16) (.int .u8 (d : Int))).run Tryd.prog w = .ok (.int .u8 (hexD d)) w := by
  rcases d with _ | _ | _ | _ | _ | _ | _ | _ | _ | _ | _ | _ | _ | _ | _ | _ | d
  all_goals first | omega | kernel_rfl
theorem id_at (K : Nat → Int) {i : Nat} (hi : i < 16) (w : World) : (Instr.index 23 (idV K) (.int .i64 (i : Int))).run Tryd.prog w = .ok (.int .u8 (K i)) w := by
  rcases i with _ | _ | _ | _ | _ | _ | _ | _ | _ | _ | _ | _ | _ | _ | _ | _ | i
  all_goals first | omega | kernel_rfl
theorem and15b {v : Int} (h0 : 0 ≤ v) (h1 : v < 256) : bits .and .u8 v 15 = v % 16 := by
  obtain ⟨n, rfl⟩ : ∃ n : Nat, v = n := ⟨v.toNat, by omega⟩
  have := u8_and_nat n 15 (by omega) (by decide)
  rw [show ((15 : Nat) : Int) = 15 from rfl] at this
  rw [this, Nat.and_two_pow_sub_one_eq_mod n 4]
  omega
set_option maxHeartbeats 2000000 in
theorem hex_any (K : Nat → Int) (hK : IdOk K) (w : World) : Calls Tryd.prog 20 #[idV K] w fun e w' => e = .returned (.string (T (hexL K))) ∧ Below w.heap.size w w' := by
  have hmk := make_room 32 32 rfl (by decide)
  have HK := Lib.hid hK
  clear hK
  go_enter Tryd.func20, Tryd.ntmps20
  go_upto_region 3 with fail
  have b1 := (Below.refl w.heap.size w).alloc (Nat.le_refl _) (.cells #[.int .u8 (K 0), .int .u8 (K 1), .int .u8 (K 2), .int .u8 (K 3), .int .u8 (K 4), .int .u8 (K 5), .int .u8 (K 6), .int .u8 (K 7), .int .u8 (K 8), .int .u8 (K 9), .int .u8 (K 10), .int .u8 (K 11), .int .u8 (K 12), .int .u8 (K 13), .int .u8 (K 14), .int .u8 (K 15)] 23)
  have s1 : (w.alloc (.cells #[.int .u8 (K 0), .int .u8 (K 1), .int .u8 (K 2), .int .u8 (K 3), .int .u8 (K 4), .int .u8 (K 5), .int .u8 (K 6), .int .u8 (K 7), .int .u8 (K 8), .int .u8 (K 9), .int .u8 (K 10), .int .u8 (K 11), .int .u8 (K 12), .int .u8 (K 13), .int .u8 (K 14), .int .u8 (K 15)] 23)).heap.size = w.heap.size + 1 := by simp only [World.alloc, Array.size_push]
  generalize w.alloc (.cells #[.int .u8 (K 0), .int .u8 (K 1), .int .u8 (K 2), .int .u8 (K 3), .int .u8 (K 4), .int .u8 (K 5), .int .u8 (K 6), .int .u8 (K 7), .int .u8 (K 8), .int .u8 (K 9), .int .u8 (K 10), .int .u8 (K 11), .int .u8 (K 12), .int .u8 (K 13), .int .u8 (K 14), .int .u8 (K 15)] 23) = w1 at *
  have O1 := Lib.hid (own_room 32 (w.heap.size + 1) w.heap.size w1 s1 (by omega) (by decide))
  have B1 := Lib.hid (b1.alloc b1.size (.cells (Array.replicate 32 (Value.int .u8 0)) 5))
  clear b1
  generalize w1.alloc (.cells (Array.replicate 32 (Value.int .u8 0)) 5) = w2 at *
  clear s1 hmk
  go_wp2
  go_loopw [3, 5, 8] (fun o c i wr => ∃ (k n c : Nat) (A : Option Addr), k ≤ 16 ∧ n = 2 * k ∧ i = .int .i64 (k : Int) ∧ o = .slice A n c ∧ Hid (Own wr w.heap.size A n c (hexN K k)) ∧ Hid (Below w.heap.size w wr)) (fun _ _ i _ => 16 - (intOf i).toNat)
  case atStart => exact ⟨0, 0, 32, _, by omega, rfl, rfl, rfl, O1, B1⟩
  case round =>
    obtain ⟨k, n, c, A, hk, hn, rfl, rfl, hO, hB⟩ := hrel
    have HN := Lib.hid hn
    have hn32 : n ≤ 32 := by omega
    clear hn
    by_cases hlt : k < 16
    · have hlt' : (k : Int) < 16 := by omega
      have hx := fun W => id_at K hlt W
      obtain ⟨x0, x1⟩ := HK.out k
      have HS : Hid (hexN K (k + 1) = hexN K k ++ pairL (K k)) := Lib.hid (hexN_succ K k)
      generalize K k = x at *
      obtain ⟨d, hd⟩ : ∃ d : Nat, x / 16 = d := ⟨(x / 16).toNat, by omega⟩
      obtain ⟨e, he⟩ : ∃ e : Nat, bits .and .u8 x 15 = e := ⟨(x % 16).toNat, by rw [and15b x0 x1]; omega⟩
      have hde : e = (x % 16).toNat := by rw [and15b x0 x1] at he; omega
      have h1 := fun W => d16 (show d < 16 by omega) W
      have h2 := fun W => d16 (show e < 16 by omega) W
      have HP : Hid (pairL x = [hexD d, hexD e]) := Lib.hid (by unfold pairL; rw [hd, hde]; rfl)
      have HA : Hid (AllB [hexD d, hexD e]) := Lib.hid fun c hc => by
        have k1 := hexD_byte (show d < 16 by omega)
        have k2 := hexD_byte (show e < 16 by omega)
        simp at hc
        rcases hc with rfl | rfl <;> omega
      have hg := (hB.out.size)
      have HBy := Lib.hid fun (W : World) => (Row.new W [hexD d, hexD e]).bytes HA.out
      clear hde x0 x1
      go_upto_region 5 with fail
      go_region_law (refine step_append_bytes (o := ⟨some 19, _, _, _, _, _⟩) rfl (.tmp 11) (.tmp 18) rfl w.heap.size A n c _ rfl (hO.out.drew.alloc _) (some ⟨wr.heap.size, 0, none⟩) 2 2 [hexD d, hexD e] rfl (HBy.out _) rfl (by omega) ?_; intro A7 c7 w7 ho7 hb7; have O7 := Lib.hid ho7; have B7 := Lib.hid ((hB.out.drew.alloc hg _).trans hb7); clear ho7 hb7)
      all_goals
        go_wp2
        go_roundw
        case rel => exact ⟨k + 1, n + 2, c7, A7, by omega, by have := HN.out; omega, by go_num, rfl, Lib.hid (by rw [HS.out, HP.out]; exact O7.out), B7⟩
        case measure => simp [intOf]; omega
    · have hk16 : k = 16 := by omega
      have hge : ¬ (k : Int) < 16 := by omega
      have hcv := hO.out.bytes.string c n hO.out.2.1
      have HE : Hid (hexL K = hexN K k) := Lib.hid (by rw [hk16]; rfl)
      clear hk16
      generalize hexN K k = r at *
      go_wp2
      go_ret
      exact ⟨by rw [HE.out]; rfl, hB.out⟩
end Go.Proofs.YtpfkhcgeblihcaaDoor.Kud
