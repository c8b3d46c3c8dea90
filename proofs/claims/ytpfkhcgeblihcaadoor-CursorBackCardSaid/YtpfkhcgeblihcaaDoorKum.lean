/-
  A name read of a text; a whole cursor: the program's Parse.
-/
import Derived.Test.YtpfkhcgeblihcaaDoorKul
import Derived.Test.YtpfkhcgeblihcaaDoorKug
namespace Go.Proofs.YtpfkhcgeblihcaaDoor.Kum
open Go.ChangeShapes Go.WideShapes Go.ChangeAt Go.RowKit
open Bytes8 Blk8 Own8 Fa Kua Kub Kuc Kud Kue Kui Kuj Kuk Kul
open Seq8 (KeptB Blk.keptB)
set_option linter.unusedVariables false
set_option linter.unusedSimpArgs false
set_option maxRecDepth 100000

theorem row_far {w : World} {g k : Nat} {vs : List Value} {T : TypeId} (h : Blk w k vs T) (hk : k ≠ g) (cs : Array Value) : Blk (w.setRow g cs) k vs T := by
  unfold Blk at *
  rw [← h]
  unfold World.setRow
  simp [Array.getElem?_modify, Ne.symm hk]
theorem kept_row {B g k : Nat} {a w : World} (h : KeptB B g a w) (hk : B ≤ k) (cs : Array Value) : KeptB B g a (w.setRow k cs) := h.trans (KeptB.of_below (below_setRow (Below.refl B w) hk cs))
set_option maxHeartbeats 4000000 in
theorem rid_any (lab rest : List Int) (ok : Bool) (g : Nat) (w : World) (hA : AllB rest) (hlab : AllB lab) (hl : rest.length ≤ 1000000) (hR : Rd w g rest ok) :
    Calls Tryd.prog 25 #[.pointer (some ⟨g, 0, none⟩), .string (T lab)] w fun e w' => e = .returned (idV (idOf (pc lab rest))) ∧ Rd w' g (nx lab rest) ((ok && lab.isPrefixOf rest) && idOk (pc lab rest)) ∧ KeptB w.heap.size g w w' := by
  have hlt := hR.lt
  have b0 := (Below.refl w.heap.size w).alloc (Nat.le_refl _) (.cells #[.int .u8 0, .int .u8 0, .int .u8 0, .int .u8 0, .int .u8 0, .int .u8 0, .int .u8 0, .int .u8 0, .int .u8 0, .int .u8 0, .int .u8 0, .int .u8 0, .int .u8 0, .int .u8 0, .int .u8 0, .int .u8 0] 23)
  have B0 := Lib.hid b0
  have Z0 := Lib.hid (Blk.new w (idCells zK) 23)
  have R0 := Lib.hid (hR.below b0 hlt)
  have hz0 : (w.alloc (.cells #[.int .u8 0, .int .u8 0, .int .u8 0, .int .u8 0, .int .u8 0, .int .u8 0, .int .u8 0, .int .u8 0, .int .u8 0, .int .u8 0, .int .u8 0, .int .u8 0, .int .u8 0, .int .u8 0, .int .u8 0, .int .u8 0] 23)).heap.size = w.heap.size + 1 := by simp only [World.alloc, Array.size_push]
  clear hR b0
  go_enter Tryd.func25, Tryd.ntmps25
  go_upto_region 1 with fail
  change Hid (Blk (w.alloc (.cells #[.int .u8 0, .int .u8 0, .int .u8 0, .int .u8 0, .int .u8 0, .int .u8 0, .int .u8 0, .int .u8 0, .int .u8 0, .int .u8 0, .int .u8 0, .int .u8 0, .int .u8 0, .int .u8 0, .int .u8 0, .int .u8 0] 23)) _ _ _) at Z0
  generalize w.alloc (.cells #[.int .u8 0, .int .u8 0, .int .u8 0, .int .u8 0, .int .u8 0, .int .u8 0, .int .u8 0, .int .u8 0, .int .u8 0, .int .u8 0, .int .u8 0, .int .u8 0, .int .u8 0, .int .u8 0, .int .u8 0, .int .u8 0] 23) = w0 at *
  have HP := Lib.hid (part_any lab rest ok g w0 hA hlab R0.out)
  have HN := Lib.hid fun W => id_any (pc lab rest) (pc_all hA) (Nat.le_trans pc_len hl) W
  obtain ⟨g0, hg0⟩ : ∃ g0, w.heap.size = g0 := ⟨_, rfl⟩
  have HG := Lib.hid hg0
  rw [hg0] at hz0 B0 Z0 hlt ⊢
  rw [hz0] at HP
  have HZ := Lib.hid hz0
  generalize hz : (ok && lab.isPrefixOf rest) = z at *
  generalize hK : idOf (pc lab rest) = K at *
  generalize hb : idOk (pc lab rest) = b at *
  have EZ := Lib.hid hz
  have EK := Lib.hid hK
  have EB := Lib.hid hb
  clear hz hK hb
  generalize T (pc lab rest) = S at *
  generalize T lab = R at *
  clear hA hlab hl hg0 hz0 R0
  go_upto_region 2 with (first
    | (go_at_call 41; (with_reducible refine HP.out.mono ?_); rintro e w1 ⟨rfl, hr, hk⟩; have R1 := Lib.hid hr; have K1 := Lib.hid hk; clear hr hk)
    | (go_at_call 9; (with_reducible refine (HN.out _).mono ?_); rintro e w2 ⟨rfl, hb⟩; have B2 := Lib.hid hb; clear hb))
  have Z1 := Lib.hid (Seq8.Blk.keptB Z0.out K1.out (Nat.lt_succ_self _) (by omega))
  have Z2 := Lib.hid (Z1.out.below B2.out Z1.out.lt)
  have R2 := Lib.hid (R1.out.below B2.out R1.out.lt)
  have K2 := Lib.hid (K1.out.trans (KeptB.of_below (B2.out.mono (Nat.le_trans (by rw [HZ.out]; exact Nat.le_refl _) K1.out.size))))
  have b3 := (Below.refl w2.heap.size w2).alloc (Nat.le_refl _) (.cells #[.int .u8 (K 0), .int .u8 (K 1), .int .u8 (K 2), .int .u8 (K 3), .int .u8 (K 4), .int .u8 (K 5), .int .u8 (K 6), .int .u8 (K 7), .int .u8 (K 8), .int .u8 (K 9), .int .u8 (K 10), .int .u8 (K 11), .int .u8 (K 12), .int .u8 (K 13), .int .u8 (K 14), .int .u8 (K 15)] 23)
  have I3 := Lib.hid (Blk.new w2 (idCells K) 23)
  change Hid (Blk (w2.alloc (.cells #[.int .u8 (K 0), .int .u8 (K 1), .int .u8 (K 2), .int .u8 (K 3), .int .u8 (K 4), .int .u8 (K 5), .int .u8 (K 6), .int .u8 (K 7), .int .u8 (K 8), .int .u8 (K 9), .int .u8 (K 10), .int .u8 (K 11), .int .u8 (K 12), .int .u8 (K 13), .int .u8 (K 14), .int .u8 (K 15)] 23)) _ _ _) at I3
  have Z3 := Lib.hid (Z2.out.below b3 Z2.out.lt)
  have R3 := Lib.hid (R2.out.below b3 R2.out.lt)
  have K3 := Lib.hid (K2.out.trans (KeptB.of_below (b3.mono (Nat.le_trans (by rw [HZ.out]; exact Nat.le_refl _) K2.out.size))))
  have hlt2 := R2.out.lt
  have hlz2 := Z2.out.lt
  clear b3 Z1 Z2 R1 R2 K1 K2 B2 HP HN Z0
  generalize w2.alloc (.cells #[.int .u8 (K 0), .int .u8 (K 1), .int .u8 (K 2), .int .u8 (K 3), .int .u8 (K 4), .int .u8 (K 5), .int .u8 (K 6), .int .u8 (K 7), .int .u8 (K 8), .int .u8 (K 9), .int .u8 (K 10), .int .u8 (K 11), .int .u8 (K 12), .int .u8 (K 13), .int .u8 (K 14), .int .u8 (K 15)] 23) = w3 at *
  generalize w2.heap.size = g2 at *
  have c1 := R3.out.cell (i := 1) rfl
  have f1 := R3.out.frozen 1
  have P1 := Lib.hid (show Rd (w3.setCell ⟨g, 1, none⟩ (.bool (z && b))) g (nx lab rest) (z && b) from R3.out.set_ 1 (.bool (z && b)))
  have P2 := Lib.hid (show KeptB (g0 + 1) g w0 (w3.setCell ⟨g, 1, none⟩ (.bool (z && b))) from K3.out.setCell (p := (⟨g, 1, none⟩ : Addr)) (.inr rfl) _)
  have P3 := Lib.hid (show Blk (w3.setCell ⟨g, 1, none⟩ (.bool (z && b))) g0 (idCells zK) 23 from Z3.out.far (p := ⟨g, 1, none⟩) (show g0 ≠ g by omega) _)
  have P4 := Lib.hid (show Blk (w3.setCell ⟨g, 1, none⟩ (.bool (z && b))) g2 (idCells K) 23 from I3.out.far (p := ⟨g, 1, none⟩) (show g2 ≠ g by omega) _)
  clear R3 Z3 I3 K3
  cases z
  all_goals
    go_wp2_with (first
      | ((with_reducible apply at_slot 24); refine wpList_load_mid rfl 23 (.tmp 5) rfl g2 0 rfl (idCells K) _ (id_range P4.out) Tryd.underlying23 rfl id_info ?_)
      | ((with_reducible apply at_store (.tmp 4) (.tmp 24)); refine wpList_store_row rfl 23 (.tmp 4) (.tmp 24) rfl g0 (idCells K).toArray rfl rfl 23 (idCells zK).toArray P3.out id_info rfl (all_oneCell_toArray (ids_one _)) ?_)
      | fail)
    refine bodyPost_ret (v := .agg (idCells K).toArray) (by exact results_cell_row Tryd.results25 _ _ g0 23 _ (0, 0) _ rfl (row_set P3.out (idCells K)) Tryd.underlying23 rfl id_info) rfl ?_
    exact ⟨by rw [EK.out], by rw [EZ.out, EB.out]; exact row_far P1.out (show g ≠ g0 by omega) _, HG.out ▸ (KeptB.of_below B0.out).trans (kept_row (P2.out.mono (Nat.le_succ _)) (Nat.le_refl _) _)⟩
end Go.Proofs.YtpfkhcgeblihcaaDoor.Kum
