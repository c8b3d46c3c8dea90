/-
  Texts beneath the proof, one behind the other.
-/
import Derived.StillTailTactics
import Derived.Lib.SlBytesConst
import Derived.Laws.Externs
import Derived.Test.YtecoenaojofgbaaQ7
import Derived.Test.YtecoenaojofgbaaQ3

/-
  Where in a head its IDs and its numbers are.
-/
namespace Go.Proofs.Ytecoenaojofgbaa.Gc
open Go.ChangeShapes Go.WideShapes Go.ChangeAt Go.RowKit
open Bytes8 Blk8 Own8 OwnM LeNum Ob Oc Od Ga Gb
set_option linter.unusedVariables false
set_option linter.unusedSimpArgs false
set_option maxRecDepth 100000

abbrev idsV (g : Nat) : Value := .agg #[.pointer (some ⟨g, 3, none⟩), .pointer (some ⟨g, 19, none⟩), .pointer (some ⟨g, 35, none⟩), .pointer (some ⟨g, 51, none⟩)]
abbrev numsV (g : Nat) : Value := .agg #[.pointer (some ⟨g, 67, none⟩), .pointer (some ⟨g, 68, none⟩), .pointer (some ⟨g, 69, none⟩), .pointer (some ⟨g, 70, none⟩), .pointer (some ⟨g, 71, none⟩), .pointer (some ⟨g, 72, none⟩), .pointer (some ⟨g, 73, none⟩), .pointer (some ⟨g, 74, none⟩), .pointer (some ⟨g, 75, none⟩), .pointer (some ⟨g, 76, none⟩), .pointer (some ⟨g, 77, none⟩), .pointer (some ⟨g, 78, none⟩), .pointer (some ⟨g, 79, none⟩), .pointer (some ⟨g, 80, none⟩), .pointer (some ⟨g, 81, none⟩), .pointer (some ⟨g, 82, none⟩), .pointer (some ⟨g, 83, none⟩), .pointer (some ⟨g, 84, none⟩), .pointer (some ⟨g, 85, none⟩), .pointer (some ⟨g, 86, none⟩), .pointer (some ⟨g, 87, none⟩)]
theorem nums_one (g : Nat) : (#[.pointer (some ⟨g, 67, none⟩), .pointer (some ⟨g, 68, none⟩), .pointer (some ⟨g, 69, none⟩), .pointer (some ⟨g, 70, none⟩), .pointer (some ⟨g, 71, none⟩), .pointer (some ⟨g, 72, none⟩), .pointer (some ⟨g, 73, none⟩), .pointer (some ⟨g, 74, none⟩), .pointer (some ⟨g, 75, none⟩), .pointer (some ⟨g, 76, none⟩), .pointer (some ⟨g, 77, none⟩), .pointer (some ⟨g, 78, none⟩), .pointer (some ⟨g, 79, none⟩), .pointer (some ⟨g, 80, none⟩), .pointer (some ⟨g, 81, none⟩), .pointer (some ⟨g, 82, none⟩), .pointer (some ⟨g, 83, none⟩), .pointer (some ⟨g, 84, none⟩), .pointer (some ⟨g, 85, none⟩), .pointer (some ⟨g, 86, none⟩), .pointer (some ⟨g, 87, none⟩)] : Array Value).all (·.oneCell') = true := by simp [Value.oneCell']
theorem p4Info : (Try.prog.info? 59).map (·.size) = some 4 := by kernel_rfl
theorem p21Info : (Try.prog.info? 63).map (·.size) = some 21 := by kernel_rfl
set_option maxHeartbeats 1000000 in
theorem ids_any (g : Nat) (w : World) :
    Calls Try.prog 23 #[.pointer (some ⟨g, 0, none⟩)] w fun e w' => e = .returned (idsV g) ∧ Below w.heap.size w w' := by
  go_enter Try.func23, Try.ntmps23
  go_wp2
  go_region
  all_goals
    go_wp2
    refine bodyPost_ret (v := idsV g) (by exact results_cell_row Try.results23 _ _ w.heap.size 59 _ (0, 0) _ rfl (heap_alloc_new w _) Try.underlying59 rfl p4Info) rfl ?_
    exact ⟨rfl, ((Below.refl w.heap.size w).alloc (Nat.le_refl _) _).drew⟩
set_option maxHeartbeats 1000000 in
theorem hnums_any (g : Nat) (w : World) :
    Calls Try.prog 24 #[.pointer (some ⟨g, 0, none⟩)] w fun e w' => e = .returned (numsV g) ∧ Below w.heap.size w w' := by
  go_enter Try.func24, Try.ntmps24
  go_wp2
  have Z0 := Lib.hid (heap_alloc_new w (.cells #[.pointer none, .pointer none, .pointer none, .pointer none, .pointer none, .pointer none, .pointer none, .pointer none, .pointer none, .pointer none, .pointer none, .pointer none, .pointer none, .pointer none, .pointer none, .pointer none, .pointer none, .pointer none, .pointer none, .pointer none, .pointer none] 63))
  have B0 := Lib.hid ((Below.refl w.heap.size w).alloc (Nat.le_refl _) (.cells #[.pointer none, .pointer none, .pointer none, .pointer none, .pointer none, .pointer none, .pointer none, .pointer none, .pointer none, .pointer none, .pointer none, .pointer none, .pointer none, .pointer none, .pointer none, .pointer none, .pointer none, .pointer none, .pointer none, .pointer none, .pointer none] 63))
  generalize w.alloc (.cells #[.pointer none, .pointer none, .pointer none, .pointer none, .pointer none, .pointer none, .pointer none, .pointer none, .pointer none, .pointer none, .pointer none, .pointer none, .pointer none, .pointer none, .pointer none, .pointer none, .pointer none, .pointer none, .pointer none, .pointer none, .pointer none] 63) = w1 at *
  refine wp_region_still_tail 63 (by kernel_rfl) (by kernel_rfl) ?_
  simp only [List.append_eq, List.cons_append, List.nil_append, List.take_succ_cons, List.take_zero, List.drop_succ_cons, List.drop_zero]
  repeat still_step
  try refine wpStill_nil ?_
  change wpList _ _ _ _ _ w1.drew
  go_wp2_with (first
    | ((with_reducible apply at_slot 66); refine wpList_build_as rfl 63 _ rfl #[.pointer (some ⟨g, 67, none⟩), .pointer (some ⟨g, 68, none⟩), .pointer (some ⟨g, 69, none⟩), .pointer (some ⟨g, 70, none⟩), .pointer (some ⟨g, 71, none⟩), .pointer (some ⟨g, 72, none⟩), .pointer (some ⟨g, 73, none⟩), .pointer (some ⟨g, 74, none⟩), .pointer (some ⟨g, 75, none⟩), .pointer (some ⟨g, 76, none⟩), .pointer (some ⟨g, 77, none⟩), .pointer (some ⟨g, 78, none⟩), .pointer (some ⟨g, 79, none⟩), .pointer (some ⟨g, 80, none⟩), .pointer (some ⟨g, 81, none⟩), .pointer (some ⟨g, 82, none⟩), .pointer (some ⟨g, 83, none⟩), .pointer (some ⟨g, 84, none⟩), .pointer (some ⟨g, 85, none⟩), .pointer (some ⟨g, 86, none⟩), .pointer (some ⟨g, 87, none⟩)] (by kernel_rfl) ?_)
    | ((with_reducible apply at_store (.tmp 2) (.tmp 66)); refine wpList_store_row rfl 63 (.tmp 2) (.tmp 66) rfl w.heap.size #[.pointer (some ⟨g, 67, none⟩), .pointer (some ⟨g, 68, none⟩), .pointer (some ⟨g, 69, none⟩), .pointer (some ⟨g, 70, none⟩), .pointer (some ⟨g, 71, none⟩), .pointer (some ⟨g, 72, none⟩), .pointer (some ⟨g, 73, none⟩), .pointer (some ⟨g, 74, none⟩), .pointer (some ⟨g, 75, none⟩), .pointer (some ⟨g, 76, none⟩), .pointer (some ⟨g, 77, none⟩), .pointer (some ⟨g, 78, none⟩), .pointer (some ⟨g, 79, none⟩), .pointer (some ⟨g, 80, none⟩), .pointer (some ⟨g, 81, none⟩), .pointer (some ⟨g, 82, none⟩), .pointer (some ⟨g, 83, none⟩), .pointer (some ⟨g, 84, none⟩), .pointer (some ⟨g, 85, none⟩), .pointer (some ⟨g, 86, none⟩), .pointer (some ⟨g, 87, none⟩)] rfl rfl 63 #[.pointer none, .pointer none, .pointer none, .pointer none, .pointer none, .pointer none, .pointer none, .pointer none, .pointer none, .pointer none, .pointer none, .pointer none, .pointer none, .pointer none, .pointer none, .pointer none, .pointer none, .pointer none, .pointer none, .pointer none, .pointer none] Z0.out p21Info rfl (nums_one g) ?_))
  refine bodyPost_ret (v := numsV g) (by exact results_cell_row Try.results24 _ _ w.heap.size 63 _ (0, 0) _ rfl (setRow_heap _ w.heap.size _ _ _ (0, 0) Z0.out) Try.underlying63 rfl p21Info) rfl ?_
  exact ⟨rfl, below_setRow B0.out.drew (Nat.le_refl _) _⟩
end Go.Proofs.Ytecoenaojofgbaa.Gc

/-
  What the program's Put lays of a head.
-/
namespace Go.Proofs.Ytecoenaojofgbaa.Gd
open Go.ChangeShapes Go.WideShapes Go.ChangeAt Go.RowKit
open Bytes8 Blk8 Own8 OwnM LeA LeNum LeP Ob Oc Od Ga Gb Gc Ff
set_option linter.unusedVariables false
set_option linter.unusedSimpArgs false
set_option maxRecDepth 100000

theorem index_one {P : Program} (t e : TypeId) (n : Nat) (cs : Array Value) (i : Nat) (v : Value) (w : World) (hu : P.underlying t = some (.array n e)) (d : TypeDesc) (he : P.underlying e = some d) (hd : (match d with | .struct _ | .array _ _ => true | _ => false) = false) (hs : (P.info? e).map (·.size) = some 1) (hi : i < n) (hv : cs[i]? = some v) :
    (Instr.index t (.agg cs) (.int .i64 (i : Int))).run P w = .ok v w := by
  obtain ⟨f, hf, hz⟩ := Option.map_eq_some_iff.1 hs
  have h1 : (0 : Int) ≤ (i : Int) ∧ (i : Int) < (n : Int) := by omega
  have hag : (isAgg e).run P w = .ok false w := by
    unfold isAgg
    rw [Sem.run_bind, run_underlying he w]
    cases d <;> simp_all
  simp [Instr.index, run_underlying hu, asIntOf, h1, sizeOf, typeInfo, hf, hz, hi, part, hag, hv]
theorem ids_index (g k : Nat) (hk : k < 4) (w : World) : (Instr.index 59 (idsV g) (.int .i64 (k : Int))).run Try.prog w = .ok (.pointer (some ⟨g, 3 + 16 * k, none⟩)) w := by
  refine index_one _ 58 4 _ k _ w Try.underlying59 _ Try.underlying58 rfl (by kernel_rfl) hk ?_
  rcases k with _ | _ | _ | _ | k
  all_goals first | rfl | omega
theorem nums_index (g k : Nat) (hk : k < 21) (w : World) : (Instr.index 63 (numsV g) (.int .i64 (k : Int))).run Try.prog w = .ok (.pointer (some ⟨g, 67 + k, none⟩)) w := by
  refine index_one _ 62 21 _ k _ w Try.underlying63 _ Try.underlying62 rfl (by kernel_rfl) hk ?_
  rcases k with _ | _ | _ | _ | _ | _ | _ | _ | _ | _ | _ | _ | _ | _ | _ | _ | _ | _ | _ | _ | _ | k
  all_goals first | rfl | omega
theorem add_n (k : Nat) (hk : isW k = true) (a : Option Addr) (l : List Int) (n cap : Nat) (v : Int) (w : World) (hL : l.length = n) (hl : n ≤ 1000000) (hb : Bytes w a l) :
    Calls Try.prog 22 #[.slice a n cap, .int .i64 k, .int .u64 v] w fun e w' => ∃ g c, e = .returned (.slice (some ⟨g, 0, none⟩) (n + k) c) ∧ w.heap.size ≤ g ∧ c = n + k ∧ Row w' g (l ++ lowB v k) ∧ Below w.heap.size w w' := by
  subst hL
  exact (add_yes a l cap k v w hl hk hb).mono fun e w' ⟨h1, h2, h3⟩ => ⟨w.heap.size, _, h1, Nat.le_refl _, rfl, h2, h3⟩
theorem add_4 (a : Option Addr) (l : List Int) (n cap : Nat) (v : Int) (w : World) (hL : l.length = n) (hl : n ≤ 1000000) (hb : Bytes w a l) :
    Calls Try.prog 22 #[.slice a n cap, .int .i64 4, .int .u64 v] w fun e w' => ∃ g c, e = .returned (.slice (some ⟨g, 0, none⟩) (n + 4) c) ∧ w.heap.size ≤ g ∧ c = n + 4 ∧ Row w' g (l ++ lowB v 4) ∧ Below w.heap.size w w' := add_n 4 rfl a l n cap v w hL hl hb
theorem add_8 (a : Option Addr) (l : List Int) (n cap : Nat) (v : Int) (w : World) (hL : l.length = n) (hl : n ≤ 1000000) (hb : Bytes w a l) :
    Calls Try.prog 22 #[.slice a n cap, .int .i64 8, .int .u64 v] w fun e w' => ∃ g c, e = .returned (.slice (some ⟨g, 0, none⟩) (n + 8) c) ∧ w.heap.size ≤ g ∧ c = n + 8 ∧ Row w' g (l ++ lowB v 8) ∧ Below w.heap.size w w' := add_n 8 rfl a l n cap v w hL hl hb
attribute [local irreducible] HD.cells wpList Code.wp
set_option maxHeartbeats 2000000 in
theorem hput_any (h : HD) (ok : h.Ok 21) (w : World) :
    Calls Try.prog 13 #[.agg (h.cells 21).toArray] w (Owned (h.bytes 21) 272 w) := by
  have b0 := Lib.hid ((Below.refl w.heap.size w).alloc (Nat.le_refl _) (.cells (h.cells 21).toArray 31))
  have R0 := Lib.hid (show Blk (w.alloc (.cells (h.cells 21).toArray 31)) w.heap.size (h.cells 21) 31 from Blk.new w _ _)
  have S0 := Lib.hid (show (w.alloc (.cells (h.cells 21).toArray 31)).heap.size = w.heap.size + 1 by simp)
  go_enter Try.func13, Try.ntmps13
  go_upto_region 1 with fail
  generalize w.alloc (.cells (h.cells 21).toArray 31) = w0 at *
  have kc := fun (w : World) (C : Array Value) (n c : Nat) => Lib.run_convert_bytes_const (P := Try.prog) w 23 5 C n c Try.underlying23 Try.underlying5
  have M1 := Lib.hid (show Bytes (w0.alloc (.cells #[.int .u8 76, .int .u8 80, .int .u8 75, .int .u8 83, .int .u8 72, .int .u8 72, .int .u8 82, .int .u8 72] 5 (8, 9))) (some ⟨w0.heap.size, 0, none⟩) magicL from const_bytes magicL magic_all w0 (8, 9))
  have a1 := Lib.hid ((Below.refl w0.heap.size w0).alloc (Nat.le_refl _) (.cells #[.int .u8 76, .int .u8 80, .int .u8 75, .int .u8 83, .int .u8 72, .int .u8 72, .int .u8 82, .int .u8 72] 5 (8, 9)))
  have R1 := Lib.hid (R0.out.below a1.out R0.out.lt)
  have HL := Lib.hid R0.out.lt
  have H4 := Lib.hid fun (A : Option Addr) (l : List Int) (n c : Nat) (v : Int) (W : World) (hb : Bytes W A l) (hl : l.length = n) (hn : n ≤ 1000) => add_4 A l n c v W hl (by omega) hb
  have c0 : (w0.alloc (.cells #[.int .u8 76, .int .u8 80, .int .u8 75, .int .u8 83, .int .u8 72, .int .u8 72, .int .u8 82, .int .u8 72] 5 (8, 9))).cell? ⟨w.heap.size, 0, none⟩ = some (.int .u32 h.cp) := R1.out.cell (h.get 21 0 (by decide))
  have hcp := ok.cp
  have L1 := Lib.hid (show magicL.length = 8 from rfl)
  have L2 := Lib.hid (show (magicL ++ lowB h.cp 4).length = 12 by simp [lowB_len, magicL])
  have L3 := Lib.hid (show (magicL ++ lowB h.cp 4 ++ lowB h.ic 4).length = 16 by simp [lowB_len, magicL])
  go_upto_region 2 with (go_at_call 22; ((with_reducible refine (H4.out _ _ _ _ _ _ M1.out L1.out (by decide)).mono ?_); rintro e w2 ⟨g2, c2, rfl, hg2, hc2, hr2, hb2⟩; have r2 := Lib.hid hr2; have B2 := Lib.hid (a1.out.trans (hb2.mono a1.out.size)); have G2 := Lib.hid hg2; have C2 := Lib.hid hc2; clear hg2 hc2 hr2 hb2))
  have A2 := Lib.hid (show AllB (magicL ++ lowB h.cp 4) from magic_all.app (lowB_all _ _))
  have hic := ok.ic
  have R2 := Lib.hid (R0.out.below B2.out HL.out)
  have c1 : w2.cell? ⟨w.heap.size, 1, none⟩ = some (.int .u32 h.ic) := R2.out.cell (h.get 21 1 (by decide))
  clear c0 kc
  go_upto_region 3 with (go_at_call 22; ((with_reducible refine (H4.out _ _ _ _ _ _ (r2.out.bytes A2.out) L2.out (by decide)).mono ?_); rintro e w3 ⟨g3, c3, rfl, hg3, hc3, hr3, hb3⟩; have r3 := Lib.hid hr3; have B3 := Lib.hid (B2.out.trans (hb3.mono B2.out.size)); have G3 := Lib.hid hg3; clear hg3 hc3 hr3 hb3))
  have A3 := Lib.hid (show AllB (magicL ++ lowB h.cp 4 ++ lowB h.ic 4) from A2.out.app (lowB_all _ _))
  have R3 := Lib.hid (R0.out.below B3.out HL.out)
  have H8 := Lib.hid fun (A : Option Addr) (l : List Int) (n c : Nat) (v : Int) (W : World) (hb : Bytes W A l) (hl : l.length = n) (hn : n ≤ 1000) => add_8 A l n c v W hl (by omega) hb
  have c2' : w3.cell? ⟨w.heap.size, 2, none⟩ = some (.int .i64 h.st) := R3.out.cell (h.get 21 2 (by decide))
  have hst : IntKind.u8.wrap h.st = h.st % 256 := by simp [IntKind.wrap, IntKind.signed, IntKind.bits]
  have hs2 : IntKind.u64.wrap (h.st % 256) = h.st % 256 := by rw [IntKind.wrap_u64]; omega
  clear c1
  go_upto_region 4 with (go_at_call 22; ((with_reducible refine (H8.out _ _ _ _ _ _ (r3.out.bytes A3.out) L3.out (by decide)).mono ?_); rintro e w4 ⟨g4, c4, rfl, hg4, rfl, hr4, hb4⟩; have r4 := Lib.hid hr4; have B4 := Lib.hid (B3.out.trans (hb4.mono B3.out.size)); have G4 := Lib.hid (Nat.le_trans B3.out.size hg4); clear hg4 hr4 hb4))
  have HF := Lib.hid (show magicL ++ lowB h.cp 4 ++ lowB h.ic 4 ++ lowB (h.st % 256) 8 = h.front from rfl)
  rw [HF.out] at r4
  have O4 := Lib.hid (own_row r4.out h.front_all G4.out h.front_len (by decide))
  clear c2' hst hs2 hcp hic r2 r3 A2 A3 L1 L2 L3 HF R2 R3 B2 B3 M1 a1 R1 r4 G2 G3 G4 C2
  go_upto_region 5 with (go_at_call 23; ((with_reducible refine (ids_any _ _).mono ?_); rintro e w5 ⟨rfl, hb5⟩; have B5 := Lib.hid (B4.out.trans (hb5.mono B4.out.size)); have O5 := Lib.hid (O4.out.kept hb5 (Nat.le_refl _)); clear hb5))
  have HI := Lib.hid fun (k : Nat) (hk : k < 4) => fun (W : World) => ids_index w.heap.size k hk W
  have HS := Lib.hid h.ids_succ
  clear O4
  go_loopw [3, 26] (fun z i wr => ∃ (k : Nat) (A : Option Addr) (c : Nat), k ≤ 4 ∧ z = .slice A (24 + 16 * k) c ∧ i = .int .i64 (k : Int) ∧ Hid (Own wr w0.heap.size A (24 + 16 * k) c (h.front ++ h.ids k)) ∧ Hid (Below w0.heap.size w0 wr)) (fun _ i _ => 4 - (intOf i).toNat)
  case atStart => exact ⟨0, some ⟨g4, 0, none⟩, 24, Nat.zero_le _, rfl, rfl, by rw [show h.ids 0 = [] from rfl, List.append_nil]; exact O5, B5⟩
  case round =>
    obtain ⟨k, A, c, hk, rfl, rfl, ho, hb⟩ := hrel
    by_cases hlt : k < 4
    · have hix := HI.out k hlt
      have Rk := Lib.hid (R0.out.below hb.out HL.out)
      have Hid16 := Lib.hid (HD.id_at Rk.out ok k hlt)
      have HSk := Lib.hid (HS.out k)
      go_wp2_with (at_builtin; refine wpList_append_bytes rfl (.tmp 29) (.tmp 32) rfl w0.heap.size A (24 + 16 * k) c _ rfl ho.out (some ⟨w.heap.size, 3 + 16 * k, none⟩) 16 16 (h.id k) rfl Hid16.out (h.id_len k) (by omega) ?_; intro A2 c2 w6 ho6 hb6; have O6 := Lib.hid ho6; have B6 := Lib.hid (hb.out.trans hb6); clear ho6 hb6)
      go_roundw
      case rel => exact ⟨k + 1, A2, c2, by omega, by rw [show 24 + 16 * (k + 1) = 24 + 16 * k + 16 by omega], by go_num, by rw [HSk.out, ← List.append_assoc, show 24 + 16 * (k + 1) = 24 + 16 * k + 16 by omega]; exact O6, B6⟩
      case measure => simp [intOf]; omega
    · obtain rfl : k = 4 := by omega
      clear HI HS O5 B5 B4
      have O7 := Lib.hid (show Own wr w0.heap.size A 88 c (h.front ++ h.ids 4) from ho.out)
      clear ho
      rename World => w7
      go_upto_region 10 with (go_at_call 24; ((with_reducible refine (hnums_any _ _).mono ?_); rintro e w8 ⟨rfl, hb8⟩; have B8 := Lib.hid (hb.out.trans (hb8.mono hb.out.size)); have O8 := Lib.hid (O7.out.kept hb8 (Nat.le_refl _)); clear hb8))
      have HN := Lib.hid fun (k : Nat) (hk : k < 21) => fun (W : World) => nums_index w.heap.size k hk W
      have HSn := Lib.hid fun k => show Ob.nums (h.nums (k + 1)) = Ob.nums (h.nums k) ++ lowB (h.N k) 8 by rw [h.nums_succ, nums_snoc]
      have HLn := Lib.hid fun k => show (h.front ++ h.ids 4 ++ Ob.nums (h.nums k)).length = 88 + 8 * k by simp only [List.length_append, HD.front_len, HD.ids_len, Ob.nums_len, HD.nums_len]
      have HA0 := Lib.hid (show AllB (h.front ++ h.ids 4) from O8.out.1)
      have S8 := Lib.hid (show 0 ≤ w0.heap.size from Nat.zero_le _)
      clear O7 hb
      go_loopw [3, 36] (fun z i wr => ∃ (k : Nat) (A : Option Addr) (c : Nat), k ≤ 21 ∧ z = .slice A (88 + 8 * k) c ∧ i = .int .i64 (k : Int) ∧ Hid (Own wr w0.heap.size A (88 + 8 * k) c (h.front ++ h.ids 4 ++ Ob.nums (h.nums k))) ∧ Hid (Below w0.heap.size w0 wr)) (fun _ i _ => 21 - (intOf i).toNat)
      case atStart => exact ⟨0, A, c, Nat.zero_le _, rfl, rfl, by rw [show Ob.nums (h.nums 0) = [] from rfl, List.append_nil]; exact O8, B8⟩
      case round =>
        obtain ⟨k, A', c', hk, rfl, rfl, ho, hb⟩ := hrel
        by_cases hlt : k < 21
        · have hix := HN.out k hlt
          have ck := HD.nums_at (R0.out.below hb.out HL.out) k hlt
          have Hln := Lib.hid (HLn.out k)
          have Hsn := Lib.hid (HSn.out k)
          have hk88 : 88 + 8 * k ≤ 1000 := by omega
          have hsz := hb.out.size
          go_wp2_with (go_at_call 22; ((with_reducible refine (H8.out _ _ _ _ _ _ ho.out.bytes Hln.out hk88).mono ?_); rintro e w9 ⟨g9, c9, rfl, hg9, rfl, hr9, hb9⟩; have r9 := Lib.hid hr9; have B9 := Lib.hid (hb.out.trans (hb9.mono hb.out.size)); have G9 := Lib.hid (Nat.le_trans hb.out.size hg9); clear hg9 hr9 hb9))
          go_roundw
          case rel => exact ⟨k + 1, some ⟨g9, 0, none⟩, 88 + 8 * k + 8, by omega, by rw [show 88 + 8 * (k + 1) = 88 + 8 * k + 8 by omega], by go_num, by rw [Hsn.out, ← List.append_assoc, show 88 + 8 * (k + 1) = 88 + 8 * k + 8 by omega]; exact Lib.hid (own_row r9.out (ho.out.1.app (lowB_all _ _)) G9.out (by rw [List.length_append, Hln.out, lowB_len]) (by unfold maxLen; omega)), B9⟩
          case measure => simp [intOf]; omega
        · obtain rfl : k = 21 := by omega
          have E0 := Lib.hid (show AllB (h.front ++ h.ids 4 ++ Ob.nums (h.nums 21)) from ho.out.1)
          have E1 := Lib.hid (show AllB (h.front ++ h.ids 4 ++ Ob.nums (h.nums 21) ++ lowB h.ta 4) from E0.out.app (lowB_all _ _))
          have E2 := Lib.hid (show AllB (h.front ++ h.ids 4 ++ Ob.nums (h.nums 21) ++ lowB h.ta 4 ++ lowB h.ti 4) from E1.out.app (lowB_all _ _))
          have D0 := Lib.hid (show (h.front ++ h.ids 4 ++ Ob.nums (h.nums 21)).length = 256 from HLn.out 21)
          have D1 := Lib.hid (show (h.front ++ h.ids 4 ++ Ob.nums (h.nums 21) ++ lowB h.ta 4).length = 260 by rw [List.length_append, D0.out, lowB_len])
          have D2 := Lib.hid (show (h.front ++ h.ids 4 ++ Ob.nums (h.nums 21) ++ lowB h.ta 4 ++ lowB h.ti 4).length = 264 by rw [List.length_append, D1.out, lowB_len])
          have O9 := Lib.hid (show Own wr w0.heap.size A' 256 c' (h.front ++ h.ids 4 ++ Ob.nums (h.nums 21)) from ho.out)
          have Ra := Lib.hid (R0.out.below hb.out HL.out)
          have ca : wr.cell? ⟨w.heap.size, 88, none⟩ = some (.int .u32 h.ta) := Ra.out.cell (h.get_ta 21)
          have hta := ok.ta
          clear HN HSn HLn HA0 O8 B8 ho
          rename World => wA
          have hszA := Lib.hid hb.out.size
          go_upto_region 15 with (go_at_call 22; ((with_reducible refine (H4.out _ _ _ _ _ _ O9.out.bytes D0.out (by decide)).mono ?_); rintro e wB ⟨gB, cB, rfl, hgB, hcB, hrB, hbB⟩; have rB := Lib.hid hrB; have BB := Lib.hid (hb.out.trans (hbB.mono hb.out.size)); clear hgB hcB hrB hbB))
          have Rb := Lib.hid (R0.out.below BB.out HL.out)
          have cb' : wB.cell? ⟨w.heap.size, 89, none⟩ = some (.int .u32 h.ti) := Rb.out.cell (h.get_ti 21)
          have hti := ok.ti
          clear ca
          go_upto_region 16 with (go_at_call 22; ((with_reducible refine (H4.out _ _ _ _ _ _ (rB.out.bytes E1.out) D1.out (by decide)).mono ?_); rintro e wC ⟨gC, cC, rfl, hgC, hcC, hrC, hbC⟩; have rC := Lib.hid hrC; have BC := Lib.hid (BB.out.trans (hbC.mono BB.out.size)); clear hgC hcC hrC hbC))
          have Rc := Lib.hid (R0.out.below BC.out HL.out)
          have cc' : wC.cell? ⟨w.heap.size, 90, none⟩ = some (.int .u64 h.te) := Rc.out.cell (h.get_te 21)
          clear cb'
          go_wp2_with (go_at_call 22; ((with_reducible refine (H8.out _ _ _ _ _ _ (rC.out.bytes E2.out) D2.out (by decide)).mono ?_); rintro e wD ⟨gD, cD, rfl, hgD, rfl, hrD, hbD⟩; have rD := Lib.hid hrD; have BD := Lib.hid (BC.out.trans (hbD.mono BC.out.size)); have GD := Lib.hid (Nat.le_trans BC.out.size hgD); clear hgD hrD hbD))
          go_ret
          exact ⟨some ⟨gD, 0, none⟩, 272, rfl, own_row rD.out (E2.out.app (lowB_all _ _)) (Nat.le_trans (by rw [S0.out]; exact Nat.le_succ _) GD.out) (HD.bytes_len h 21) (by decide), b0.out.trans (BD.out.mono (by rw [S0.out]; exact Nat.le_succ _))⟩
end Go.Proofs.Ytecoenaojofgbaa.Gd

/-
  Where a journal ends: the package's End, the document's own.
-/
namespace Go.Proofs.Ytecoenaojofgbaa.Gf
open Go.ChangeShapes Go.WideShapes Go.ChangeAt Go.RowKit
open Bytes8 Blk8 Own8 OwnM LeA LeNum LeP Ob Oc Od Ga Gb Gc Gd
set_option linter.unusedVariables false
set_option linter.unusedSimpArgs false
set_option maxRecDepth 100000

/-- The end; whether there is one. -/
def endV (h : HD) : Int := if h.N 0 + h.N 1 ≤ 18446744073709551615 then h.N 0 + h.N 1 else 0
def endB (h : HD) : Bool := decide (h.N 0 + h.N 1 ≤ 18446744073709551615)
theorem add64_any (x y : Int) (hx : 0 ≤ x) (hy : 0 ≤ y) (w : World) :
    (callFunc 21 #[.int .u64 x, .int .u64 y, .int .u64 0]).run Try.prog w = .ok (.value (.tuple #[.int .u64 ((x + y) % 18446744073709551616), .int .u64 ((x + y) / 18446744073709551616)])) w := by
  have h := run_add64 (P := Try.prog) x y 0 hx hy (by decide) (by decide) w
  rw [Int.add_zero] at h
  rw [run_callFunc_extern Try.func21 (by kernel_rfl) (by kernel_rfl) (by kernel_rfl) (e := add64Entry) (by kernel_rfl), h]
  rfl
attribute [local irreducible] HD.cells wpList Code.wp
set_option maxHeartbeats 1000000 in
theorem end_any (h : HD) (ok : h.Ok 21) (w : World) :
    Calls Try.prog 10 #[.agg (h.cells 21).toArray] w fun e w' => e = .returned (.tuple #[.int .u64 (endV h), .bool (endB h)]) ∧ Below w.heap.size w w' := by
  have b0 := Lib.hid ((Below.refl w.heap.size w).alloc (Nat.le_refl _) (.cells (h.cells 21).toArray 31))
  have R0 := Lib.hid (show Blk (w.alloc (.cells (h.cells 21).toArray 31)) w.heap.size (h.cells 21) 31 from Blk.new w _ _)
  obtain ⟨p0, p1⟩ := ok.N 0
  obtain ⟨r0, r1⟩ := ok.N 1
  have c0 := HD.nums_at R0.out 0 (by decide)
  have c1 := HD.nums_at R0.out 1 (by decide)
  by_cases hle : h.N 0 + h.N 1 ≤ 18446744073709551615
  · rw [show endV h = h.N 0 + h.N 1 from if_pos hle, show endB h = true from decide_eq_true hle]
    have ha := add64_any (h.N 0) (h.N 1) p0 r0
    rw [show (h.N 0 + h.N 1) % 18446744073709551616 = h.N 0 + h.N 1 by omega, show (h.N 0 + h.N 1) / 18446744073709551616 = 0 by omega] at ha
    go_enter Try.func10, Try.ntmps10
    go_wp2
    go_ret2
    exact ⟨rfl, b0.out⟩
  · rw [show endV h = 0 from if_neg hle, show endB h = false from decide_eq_false hle]
    have ha := add64_any (h.N 0) (h.N 1) p0 r0
    rw [show (h.N 0 + h.N 1) / 18446744073709551616 = 1 by omega] at ha
    go_enter Try.func10, Try.ntmps10
    go_wp2
    go_ret2
    exact ⟨rfl, b0.out⟩
end Go.Proofs.Ytecoenaojofgbaa.Gf

/-
  Bytes that are too few for a head; the chapter's example.
-/
namespace Go.Proofs.Ytecoenaojofgbaa.Gi
open Go.ChangeShapes Go.WideShapes Go.ChangeAt Go.RowKit
open Bytes8 Blk8 Own8 OwnM LeA LeNum LeP Ob Oc Od Ga Gb Gc Gd Gf
set_option linter.unusedVariables false
set_option linter.unusedSimpArgs false
set_option maxRecDepth 100000

def hd0 : HD := ⟨0, 0, 0, fun _ => 0, fun _ => 0, 0, 0, 0⟩
theorem hd0_ok (m : Nat) : hd0.Ok m := ⟨by decide, by decide, by decide, fun _ => ⟨Int.le_refl _, by show (0 : Int) < 256; decide⟩, fun _ => ⟨Int.le_refl _, by show (0 : Int) ≤ 18446744073709551615; decide⟩, by decide, by decide, by decide⟩
theorem zero_head : Try.zeroCells31 = (hd0.cells 21).toArray := by kernel_rfl
theorem wpList_build_zero {P : Program} {ops : Array Oper} {rest : List Oper} {o : Oper} {a : Act} {w : World} {Q : Exit → Act → World → Prop} (hw : Region.wanted o (yielded ops a.tmps) = true) (t : TypeId) (ho : o.op = .build t #[]) (cells : Array Value)
    (hb : P.built t [] = some cells) (h : wpList P ops Q rest (a.put o.dst (.agg cells)) w) : wpList P ops Q (o :: rest) a w :=
  BigFrame.wpList_want hw fun K hK => wp_build t #[] ho (by simp only [List.map_toArray, List.map_nil]; rw [hb]; rfl) (by simp only [List.map_toArray, List.map_nil]; rw [hb]; exact hK _ _ h)
theorem zero_built : Try.prog.built 31 [] = some (hd0.cells 21).toArray := by kernel_rfl
theorem res_rowG {P : Program} {fn : Func} {p u : Tmp} {ty : TypeId} (h : fn.results = #[.cell p ty, .tmp u]) (tmps : Array Value) (w : World) (g : Nat) (t : TypeId) (cs : Array Value) (fr : Nat × Nat) (d : TypeDesc) (c : Value)
    (hp : tmps.getD p undef = .pointer (some ⟨g, 0, none⟩)) (hc : tmps.getD u undef = c) (hg : w.heap[g]? = some (.cells cs t fr)) (hu : P.underlying ty = some d) (hd : (match d with | .struct _ | .array _ _ => true | _ => false) = true) (hi : (P.info? ty).map (·.size) = some cs.size) :
    (results fn tmps).run P w = .ok (.tuple #[.agg cs, c]) w := by
  rw [results_cell_tmp h, hp, hc]
  simp [asAddr, run_loadVar_row w g t ty cs fr d hg hu hd hi, Result.andThen]
attribute [local irreducible] HD.cells wpList Code.wp
set_option maxHeartbeats 1000000 in
theorem read_short (A : Option Addr) (n c : Nat) (w : World) (hn : n < 272) :
    Calls Try.prog 8 #[.slice A n c] w fun e w' => e = .returned (.tuple #[.agg (hd0.cells 21).toArray, .int .i64 22]) ∧ Below w.heap.size w w' := by
  have d1 : (n : Int) < 272 := by omega
  go_enter Try.func8, Try.ntmps8
  go_upto_region 1 with fail
  have b1 := Lib.hid ((Below.refl w.heap.size w).alloc (Nat.le_refl _) (.cells Try.zeroCells31 31))
  have Z1 := Lib.hid (heap_alloc_new w (.cells Try.zeroCells31 31))
  generalize w.alloc (.cells Try.zeroCells31 31) = w1 at *
  go_wp2_with (first
    | ((with_reducible apply at_slot 9); refine wpList_build_zero rfl 31 rfl _ zero_built ?_)
    | ((with_reducible apply at_store (.tmp 2) (.tmp 9)); refine wpList_store_row rfl 31 (.tmp 2) (.tmp 9) rfl w.heap.size (hd0.cells 21).toArray rfl rfl 31 Try.zeroCells31 Z1.out (cells_info _) zeros_size (HD.one _ 21) ?_))
  refine bodyPost_ret (v := .tuple #[.agg (hd0.cells 21).toArray, .int .i64 22]) (by exact res_rowG Try.results8 _ _ w.heap.size 31 _ (0, 0) _ _ rfl rfl (setRow_heap _ _ _ _ _ (0, 0) Z1.out) Try.underlying31 rfl (cells_info _)) rfl ?_
  exact ⟨rfl, below_setRow b1.out (Nat.le_refl _) _⟩
set_option maxHeartbeats 1000000 in
theorem first_any (w : World) : Calls Try.prog 6 #[] w fun e w' => e = .returned (.bool true) ∧ Below w.heap.size w w' := by
  have HR := Lib.hid fun (W : World) => read_short none 0 0 W (by decide)
  have HP := Lib.hid fun (W : World) => hput_any hd0 (hd0_ok 21) W
  unfold Owned at HP
  go_enter Try.func6, Try.ntmps6
  go_wp2_with (first
    | (go_at_call 8; ((with_reducible refine (HR.out _).mono ?_); rintro e w1 ⟨rfl, hb1⟩; have B1 := Lib.hid hb1; clear hb1))
    | ((with_reducible apply at_store (.tmp 1) (.tmp 5)); refine wpList_store_row rfl 31 (.tmp 1) (.tmp 5) rfl w1.heap.size (hd0.cells 21).toArray rfl rfl 31 Try.zeroCells31 (heap_alloc_new w1 _) (cells_info _) zeros_size (HD.one _ 21) ?_; have B2 := Lib.hid (show Below w.heap.size w ((w1.alloc (.cells Try.zeroCells31 31)).setRow w1.heap.size (hd0.cells 21).toArray) from below_setRow (B1.out.alloc B1.out.size _) B1.out.size _))
    | ((with_reducible apply at_slot 10); refine wpList_build_zero rfl 31 rfl _ zero_built ?_)
    | (go_at_call 13; ((with_reducible refine (HP.out _).mono ?_); rintro e w3 ⟨A3, c3, rfl, ho3, hb3⟩; have B3 := Lib.hid (B2.out.trans (hb3.mono B2.out.size)); clear ho3 hb3)))
  go_ret
  exact ⟨rfl, B3.out⟩
end Go.Proofs.Ytecoenaojofgbaa.Gi

/-
  What the program's Read takes out of bytes, whatever they have.
-/
namespace Go.Proofs.Ytecoenaojofgbaa.Gj
open Go.ChangeShapes Go.WideShapes Go.ChangeAt Go.RowKit
open Bytes8 Blk8 Own8 OwnM OwnE LeA LeNum LeB LeP Ob Oc Od Ga Gb Gc Gd Gf Gi
set_option linter.unusedVariables false
set_option linter.unusedSimpArgs false
set_option maxRecDepth 100000

/-- The number of four bytes from a place on. -/
def u4 (l : List Int) (a : Nat) : Int := leNum ((l.drop a).take 4)
theorem u4_bd {l : List Int} (h : AllB l) (a : Nat) : 0 ≤ u4 l a ∧ u4 l a ≤ 4294967295 := by
  have h1 := leNum_bound ((l.drop a).take 4) ((h.drop a).take 4)
  have h2 : ((l.drop a).take 4).length ≤ 4 := by simp; omega
  have h3 : (256 : Int) ^ ((l.drop a).take 4).length ≤ 4294967296 := by
    generalize ((l.drop a).take 4).length = k at *
    rcases k with _ | _ | _ | _ | _ | k
    all_goals first | decide | omega
  unfold u4
  omega
/-- What stands in a head's bytes. -/
def hdOf (l : List Int) : HD := ⟨u4 l 8, u4 l 12, l.getD 16 0, fun i => l.getD (24 + i) 0, fun i => u8 l (88 + 8 * i), u4 l 256, u4 l 260, u8 l 264⟩
theorem hdOf_ok {l : List Int} (h : AllB l) (m : Nat) : (hdOf l).Ok m :=
  ⟨u4_bd h 8, u4_bd h 12, by have := h.at_ 16; show _ ≤ l.getD 16 0 ∧ l.getD 16 0 ≤ _; omega, fun i => h.at_ _, fun i => u8_bd h _, u4_bd h 256, u4_bd h 260, u8_bd h 264⟩
/-- .. so many IDs and numbers of it. -/
def hdI (l : List Int) (k j : Nat) : HD := { hdOf l with I := fun i => if i < 16 * k then l.getD (24 + i) 0 else 0, N := fun i => if i < j then u8 l (88 + 8 * i) else 0 }
theorem hdI_zero (l : List Int) : hdI l 0 0 = ⟨u4 l 8, u4 l 12, l.getD 16 0, fun _ => 0, fun _ => 0, u4 l 256, u4 l 260, u8 l 264⟩ := by
  unfold hdI hdOf
  simp
theorem at_cong {a b : HD} {m : Nat} (h : ∀ i, i < 70 + m → a.at_ m i = b.at_ m i) : a.cells m = b.cells m := by
  unfold HD.cells
  apply List.map_congr_left
  intro i hi
  exact h i (List.mem_range.1 hi)
theorem hdI_whole (l : List Int) : (hdI l 4 21).cells 21 = (hdOf l).cells 21 := by
  apply at_cong
  intro i hi
  unfold HD.at_
  by_cases h1 : i < 3
  · rw [if_pos h1, if_pos h1]; rfl
  rw [if_neg h1, if_neg h1]
  by_cases h2 : i < 67
  · rw [if_pos h2, if_pos h2]
    show Value.int .u8 (if i - 3 < 16 * 4 then _ else 0) = _
    rw [if_pos (by omega)]; rfl
  rw [if_neg h2, if_neg h2]
  by_cases h3 : i < 67 + 21
  · rw [if_pos h3, if_pos h3]
    show Value.int .u64 (if i - 67 < 21 then _ else 0) = _
    rw [if_pos (by omega)]; rfl
  rw [if_neg h3, if_neg h3]; rfl
theorem hdI_set (l : List Int) (j : Nat) (hj : j < 21) : ((hdI l 4 j).cells 21).set (67 + j) (.int .u64 (u8 l (88 + 8 * j))) = (hdI l 4 (j + 1)).cells 21 := by
  apply List.ext_getElem?
  intro i
  rw [List.getElem?_set]
  by_cases hi : i < 91
  · by_cases he : 67 + j = i
    · subst he
      rw [if_pos rfl, if_pos (by rw [HD.len]; omega), HD.get_N _ 21 j hj]
      show _ = some (Value.int .u64 (if j < j + 1 then _ else 0))
      rw [if_pos (by omega)]
    · rw [if_neg he, HD.get _ 21 i hi, HD.get _ 21 i hi]
      congr 1
      unfold HD.at_
      by_cases h1 : i < 3
      · rw [if_pos h1, if_pos h1]; rfl
      rw [if_neg h1, if_neg h1]
      by_cases h2 : i < 67
      · rw [if_pos h2, if_pos h2]; rfl
      rw [if_neg h2, if_neg h2]
      by_cases h3 : i < 67 + 21
      · rw [if_pos h3, if_pos h3]
        show Value.int .u64 (if i - 67 < j then _ else 0) = Value.int .u64 (if i - 67 < j + 1 then _ else 0)
        by_cases h4 : i - 67 < j
        · rw [if_pos h4, if_pos (by omega)]
        · rw [if_neg h4, if_neg (by omega)]
      rw [if_neg h3, if_neg h3]; rfl
  · rw [if_neg (by omega), List.getElem?_eq_none (by rw [HD.len]; omega), List.getElem?_eq_none (by rw [HD.len]; omega)]
theorem hdI_splice (l : List Int) (k j : Nat) (hk : k < 4) (hl : 272 ≤ l.length) : splice ((hdI l k j).cells 21) (3 + 16 * k) (((l.drop (24 + 16 * k)).take 16).map (Value.int .u8)) = (hdI l (k + 1) j).cells 21 := by
  have hc : (((l.drop (24 + 16 * k)).take 16).map (Value.int .u8)).length = 16 := by simp; omega
  apply List.ext_getElem?
  intro i
  unfold splice
  rw [hc]
  by_cases hi : i < 91
  · rw [HD.get _ 21 i hi]
    by_cases h1 : i < 3 + 16 * k
    · rw [List.getElem?_append_left (by rw [List.length_take, HD.len]; omega), List.getElem?_take_of_lt h1, HD.get _ 21 i hi]
      congr 1
      unfold HD.at_
      by_cases h2 : i < 3
      · rw [if_pos h2, if_pos h2]; rfl
      · rw [if_neg h2, if_neg h2, if_pos (by omega), if_pos (by omega)]
        show Value.int .u8 (if i - 3 < 16 * k then _ else 0) = Value.int .u8 (if i - 3 < 16 * (k + 1) then _ else 0)
        rw [if_pos (by omega), if_pos (by omega)]
    · by_cases h2 : i < 19 + 16 * k
      · rw [List.getElem?_append_right (by rw [List.length_take, HD.len]; omega), List.length_take, HD.len, Nat.min_eq_left (by omega), List.getElem?_append_left (by rw [hc]; omega), List.getElem?_map, List.getElem?_take_of_lt (by omega), List.getElem?_drop, List.getElem?_eq_getElem (by omega)]
        unfold HD.at_
        rw [if_neg (by omega), if_pos (by omega)]
        show some (Value.int .u8 _) = some (Value.int .u8 (if i - 3 < 16 * (k + 1) then l.getD (24 + (i - 3)) 0 else 0))
        rw [if_pos (by omega), List.getD_eq_getElem?_getD, List.getElem?_eq_getElem (by omega)]
        simp only [Option.getD_some]
        congr 3
        omega
      · rw [List.getElem?_append_right (by rw [List.length_take, HD.len]; omega), List.length_take, HD.len, Nat.min_eq_left (by omega), List.getElem?_append_right (by rw [hc]; omega), hc, List.getElem?_drop, show 3 + 16 * k + 16 + (i - (3 + 16 * k) - 16) = i by omega, HD.get _ 21 i hi]
        congr 1
        unfold HD.at_
        have h0 : ¬ i < 3 := by omega
        rw [if_neg h0, if_neg h0]
        by_cases h3 : i < 67
        · rw [if_pos h3, if_pos h3]
          show Value.int .u8 (if i - 3 < 16 * k then _ else 0) = Value.int .u8 (if i - 3 < 16 * (k + 1) then _ else 0)
          rw [if_neg (by omega), if_neg (by omega)]
        · rw [if_neg h3, if_neg h3]; rfl
  · rw [List.getElem?_eq_none (by simp only [List.length_append, List.length_take, List.length_drop, HD.len, hc]; omega), List.getElem?_eq_none (by rw [HD.len]; omega)]
theorem hd_built (cp ic st ta ti te : Int) : Try.prog.built 31 [(0, .int .u32 cp), (1, .int .u32 ic), (2, .int .i64 st), (28, .int .u32 ta), (29, .int .u32 ti), (30, .int .u64 te)] = some ((⟨cp, ic, st, fun _ => 0, fun _ => 0, ta, ti, te⟩ : HD).cells 21).toArray := by kernel_rfl
theorem number_any (A : Option Addr) (l : List Int) (n c p k : Nat) (w : World) (hb : Bytes w A l) (hL : l.length = n) (hn : n ≤ 1000000) (hk : isW k = true) (hp : p + k ≤ n) :
    Calls Try.prog 35 #[.slice A n c, .int .i64 (p : Int), .int .i64 (k : Int)] w fun e w' => e = .returned (.int .u64 (leNum ((l.drop p).take k))) ∧ w = w' := by
  subst hL
  obtain ⟨h1, h2⟩ := isW_bd hk
  have HG := Lib.hid (get_yes A l c p k w (by omega) (by unfold fits; rw [hk]; simp; omega) hb (by omega) (by omega) hp)
  generalize leNum ((l.drop p).take k) = x at *
  clear hb
  go_enter Try.func35, Try.ntmps35
  go_wp2_with (go_at_call 56; ((with_reducible refine HG.out.mono ?_); rintro e w' ⟨rfl, rfl⟩))
  go_ret
  exact ⟨rfl, rfl⟩
end Go.Proofs.Ytecoenaojofgbaa.Gj
