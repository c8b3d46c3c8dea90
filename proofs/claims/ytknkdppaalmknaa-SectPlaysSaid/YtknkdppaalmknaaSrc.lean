/-
  A file of sectors, the document's own: Dirty; two rows of places held against each other.
-/
import Derived.Test.YtknkdppaalmknaaSra
import Derived.Test.YtknkdppaalmknaaSfd
namespace Go.Proofs.Ytknkdppaalmknaa.Srq
open Go.ChangeShapes Go.WideShapes Go.ChangeAt Go.RowKit
open Bytes8 Blk8 Own8 OwnM OwnA OwnE Kf Ta Fa Sfa Sfb Sfd Sra Rows2 Do8
set_option linter.unusedVariables false
set_option linter.unusedSimpArgs false

set_option maxRecDepth 100000 in
set_option maxHeartbeats 2000000 in
theorem rdirty_any (w : World) (G : Nat → Prop) (g : Nat) (now safe : List Int) (h : FileR w G g now safe) (hA1 : AllB now) (hA2 : AllB safe) :
    Calls Try.prog 25 #[.pointer (some ⟨g, 0, none⟩)] w (Places (dirty now safe) w) := by
  obtain ⟨A, n, c, B, m, d, ⟨v, hB⟩, b1, hL, hnc, hcm, b2, hL2, hmd, hdm, _, _, _, _, hle, hmax⟩ := h
  have HB := Lib.hid hB
  have hn : n ≤ 32768 := by omega
  have hmn : m ≤ n := by omega
  have HD := Lib.hid (show dirty now safe = dirtyTo now safe (secs n) by unfold dirty; rw [hL]; congr 2; omega)
  have hsn : secs n ≤ 64 := by unfold secs; omega
  have HS1 := Lib.hid fun (k : Nat) (W : World) (hW : Below w.heap.size w W) (hk : k ≤ 64) => part_any A n c k now W (b1.below hW (Nat.le_refl _)) hL (by omega) (by omega) hnc hcm
  have HS2 := Lib.hid fun (k : Nat) (W : World) (hW : Below w.heap.size w W) (hk : k ≤ 64) => part_any B m d k safe W (b2.below hW (Nat.le_refl _)) hL2 (by omega) (by omega) hmd hdm
  have HT := Lib.hid fun k => (show ((T (sec now k)).toList == (T (sec safe k)).toList) = !dirt now safe k by
    rw [T_beq (sec_all hA1 k) (sec_all hA2 k)]; unfold dirt; simp)
  have HSn := Lib.hid fun k => secs_lt (n := n) (k := k)
  unfold Places
  rw [HD.out]
  clear hB b1 b2 hL hL2 hle hmax hA1 hA2
  generalize secs n = N at *
  go_enter Try.func25, Try.ntmps25
  go_wp2
  go_loopw [3, 4] (fun s i wr => ∃ (k n : Nat) (A : Option Addr) (c : Nat), k ≤ N ∧ i = .int .i64 (k : Int) ∧ s = .slice A n c ∧ n ≤ k ∧ Hid (OwnI wr w.heap.size A n c (dirtyTo now safe k)) ∧ Hid (Below w.heap.size w wr)) (fun _ i _ => N - (intOf i).toNat)
  case atStart => exact ⟨0, 0, none, 0, by omega, rfl, rfl, by omega, Lib.hid (show OwnI w w.heap.size none 0 0 [] from ⟨rfl, OwnE.nil w _ (Nat.le_refl _)⟩), Lib.hid (Below.refl _ _)⟩
  case round =>
    obtain ⟨k, nn, A1, c1, hk, rfl, rfl, hnk, hO, hBl⟩ := hrel
    have HBr := Lib.hid (HB.out.below hBl.out HB.out.lt)
    have d0 := HBr.out.cell (i := 0) rfl
    have d1 := HBr.out.cell (i := 1) rfl
    have hkm : (k : Int) * 512 = ((512 * k : Nat) : Int) := by omega
    rcases Nat.lt_or_ge k N with hlt | hge
    · have hkn := (HSn.out k).1 hlt
      go_wp2_with fail
      go_quiet (fail)
      have HB1 := Lib.hid (HBr.out.drewN nq)
      have hB1 := Lib.hid (below_drewN hBl.out nq)
      have hO1 := Lib.hid (show OwnI (wr.drewN nq) w.heap.size A1 nn c1 (dirtyTo now safe k) from ⟨hO.out.1, hO.out.2.kept (below_drewN (Below.refl wr.heap.size wr) nq) (Nat.le_refl _)⟩)
      clear d0 d1 HBr hBl hO
      generalize wr.drewN nq = W1 at *
      clear nq
      have d0 := HB1.out.cell (i := 0) rfl
      have d1 := HB1.out.cell (i := 1) rfl
      have G1 := Lib.hid fun q => HS1.out k (W1.drewN q) (below_drewN hB1.out q) (by omega)
      have G2 := Lib.hid fun q => HS2.out k (W1.drewN q) (below_drewN hB1.out q) (by omega)
      have hT := HT.out k
      generalize T (sec now k) = S1 at *
      generalize T (sec safe k) = S2 at *
      go_wp2_with fail
      go_quiet (first
        | (go_at_call 32; with_reducible exact quiet_kept (G1.out _))
        | (go_at_call 32; with_reducible exact quiet_kept (G2.out _)))
      cases hd : dirt now safe k with
      | true =>
        rw [hd] at hT
        have HS := Lib.hid (dirtyTo_yes hd)
        clear hd
        go_wp2_with (at_builtin; refine wpList_append_elt intElt rfl (.tmp 34) (.tmp 36) rfl w.heap.size A1 nn c1 (intsV (dirtyTo now safe k)) rfl (hO1.out.2.kept ((below_drewN (Below.refl W1.heap.size W1) nq).alloc (Nat.le_refl _) (.cells #[.int .i64 (k : Int)] 3)) (Nat.le_refl _)) ⟨W1.heap.size, 0, none⟩ 1 1 [.int .i64 (k : Int)] rfl rfl (Blk.news (Blk.new (W1.drewN nq) [.int .i64 (k : Int)] 3)) (by intro u hu; simp at hu; subst hu; rfl) (by omega) (by omega) ?_; intro A2 c2 w2 ho2 hbel2; have HO2 := Lib.hid ho2; have HN2 := Lib.hid (((below_drewN hB1.out nq).alloc hB1.out.size (.cells #[.int .i64 (k : Int)] 3)).trans hbel2); clear ho2)
        go_round
        case rel =>
          refine ⟨k + 1, nn + 1, A2, c2, by omega, by go_num, rfl, by omega, Lib.hid ⟨?_, ?_⟩, HN2⟩
          · rw [HS.out, List.length_append, hO1.out.1]; rfl
          · have := HO2.out
            rw [HS.out]; unfold intsV at this ⊢
            rw [List.map_append, List.map_cons, List.map_nil]
            exact this
        case measure => simp [intOf]; omega
      | false =>
        rw [hd] at hT
        have HS := Lib.hid (dirtyTo_no hd)
        clear hd
        go_wp2
        go_round
        case rel => exact ⟨k + 1, nn, A1, c1, by omega, by go_num, rfl, by omega, Lib.hid (by rw [HS.out]; exact ⟨hO1.out.1, hO1.out.2.kept (below_drewN (Below.refl W1.heap.size W1) nq) (Nat.le_refl _)⟩), Lib.hid (below_drewN hB1.out nq)⟩
        case measure => simp [intOf]; omega
    · obtain rfl : k = N := by omega
      have hkn : ¬ (512 * k < n) := fun h => absurd ((HSn.out k).2 h) (by omega)
      go_wp2
      go_quiet (fail)
      go_wp2
      go_ret
      exact ⟨A1, c1, by rw [hO.out.1]; rfl, by rw [hO.out.1]; exact ⟨hO.out.1, hO.out.2.kept (below_drewN (Below.refl wr.heap.size wr) nq) (Nat.le_refl _)⟩, below_drewN hBl.out nq⟩

/-- Two rows of the same places. -/
theorem same_ints (a b : Option Addr) (f : Nat → Int) (n c d : Nat) (w : World) (ha : InInts .i64 w a n f) (hb : InInts .i64 w b n f) (hn : n ≤ 1000000) :
    Calls Try.prog 23 #[.slice a n c, .slice b n d] w fun e w' => e = .returned (.bool true) ∧ ∃ q, w' = w.drewN q := by
  have HA := Lib.hid ha
  have HB := Lib.hid hb
  clear ha hb
  go_enter Try.func23, Try.ntmps23
  go_wp2
  go_loopw [5] (fun i W => ∃ k q : Nat, k ≤ n ∧ i = .int .i64 (k : Int) ∧ W = w.drewN q) (fun i _ => n - (intOf i).toNat)
  case atStart => exact ⟨0, 0, Nat.zero_le _, rfl, rfl⟩
  case round =>
    obtain ⟨k, q, hk, rfl, rfl⟩ := hrel
    rcases Nat.lt_or_ge k n with hlt | hge
    · have hin : (k : Int) < (n : Int) := by omega
      obtain ⟨b1, o1, rfl, _, hc1, _⟩ := HA.out k hlt
      obtain ⟨b2, o2, rfl, _, hc2, _⟩ := HB.out k hlt
      have d1 : (w.drewN q).cell? ⟨b1, o1 + k, none⟩ = some (.int .i64 (f k)) := hc1
      have d2 : (w.drewN q).cell? ⟨b2, o2 + k, none⟩ = some (.int .i64 (f k)) := hc2
      generalize f k = x at *
      go_wp2_with fail
      go_quiet (fail)
      go_wp2
      go_round
      case rel => exact ⟨k + 1, q + nq, by omega, by go_num, rfl⟩
      case measure => simp [intOf]; omega
    · obtain rfl : k = n := by omega
      go_wp2
      go_ret
      exact ⟨rfl, q, rfl⟩
end Go.Proofs.Ytknkdppaalmknaa.Srq
