/-
  Texts beneath the proof, one behind the other.
-/
import Derived.Lib.SlBytesConst
import Derived.Laws.Externs
import Derived.StillTailTactics
import Derived.IntWalk
import Derived.Test.YtkdbgilnehjpmaaQc6
import Derived.Test.YtkdbgilnehjpmaaQc2
/-
  What the program's Put lays of a head.
-/
namespace Go.Proofs.Ytkdbgilnehjpmaa.Gd
open Go.ChangeShapes Go.WideShapes Go.ChangeAt Go.RowKit
open Bytes8 Blk8 Own8 OwnM LeA LeNum LeP Ob Oc Od Ga Gb Gc Ff
set_option linter.unusedVariables false
set_option linter.unusedSimpArgs false
set_option maxRecDepth 100000
theorem index_one {P : Program} (t e : TypeId) (n : Nat) (cs : Array Value) (i : Nat) (v : Value) (w : World) (hu : P.underlying t = some (.array n e)) (d : TypeDesc) (he : P.underlying e = some d) (hd : (match d with | .struct _ | .array _ _ => true | _ => false) = false) (hs : (P.info? e).map (·.size) = some 1) (hi : i < n) (hv : cs[i]? = some v) :
    (Instr.index t (.agg cs) (.int .i64 (i : Int))).run P w = .ok v w := by
  obtain ⟨f, hf, hz⟩ := Option.map_eq_some_iff.1 hs
  have h1 : (0 : Int) ≤ (i : Int) ∧ (i : Int) < (n : Int) := by omega
  have hag : (isAgg e).run P w = .ok false w := by
    unfold isAgg
    rw [Sem.run_bind, run_underlying he w]
    cases d <;> simp_all
  simp [Instr.index, run_underlying hu, asIntOf, h1, sizeOf, typeInfo, hf, hz, hi, part, hag, hv]
theorem ids_index (g k : Nat) (hk : k < 4) (w : World) : (Instr.index 79 (idsV g) (.int .i64 (k : Int))).run Try.prog w = .ok (.pointer (some ⟨g, 3 + 16 * k, none⟩)) w := by
  refine index_one _ 78 4 _ k _ w Try.underlying79 _ Try.underlying78 rfl (by kernel_rfl) hk ?_
  rcases k with _ | _ | _ | _ | k
  all_goals first | rfl | omega
theorem nums_index (g k : Nat) (hk : k < 21) (w : World) : (Instr.index 83 (numsV g) (.int .i64 (k : Int))).run Try.prog w = .ok (.pointer (some ⟨g, 67 + k, none⟩)) w := by
  refine index_one _ 82 21 _ k _ w Try.underlying83 _ Try.underlying82 rfl (by kernel_rfl) hk ?_
  rcases k with _ | _ | _ | _ | _ | _ | _ | _ | _ | _ | _ | _ | _ | _ | _ | _ | _ | _ | _ | _ | _ | k
  all_goals first | rfl | omega
theorem add_n (k : Nat) (hk : isW k = true) (a : Option Addr) (l : List Int) (n cap : Nat) (v : Int) (w : World) (hL : l.length = n) (hl : n ≤ 1000000) (hb : Bytes w a l) :
    Calls Try.prog 26 #[.slice a n cap, .int .i64 k, .int .u64 v] w fun e w' => ∃ g c, e = .returned (.slice (some ⟨g, 0, none⟩) (n + k) c) ∧ w.heap.size ≤ g ∧ c = n + k ∧ Row w' g (l ++ lowB v k) ∧ Below w.heap.size w w' := by
  subst hL
  exact (add_yes a l cap k v w hl hk hb).mono fun e w' ⟨h1, h2, h3⟩ => ⟨w.heap.size, _, h1, Nat.le_refl _, rfl, h2, h3⟩
theorem add_4 (a : Option Addr) (l : List Int) (n cap : Nat) (v : Int) (w : World) (hL : l.length = n) (hl : n ≤ 1000000) (hb : Bytes w a l) :
    Calls Try.prog 26 #[.slice a n cap, .int .i64 4, .int .u64 v] w fun e w' => ∃ g c, e = .returned (.slice (some ⟨g, 0, none⟩) (n + 4) c) ∧ w.heap.size ≤ g ∧ c = n + 4 ∧ Row w' g (l ++ lowB v 4) ∧ Below w.heap.size w w' := add_n 4 rfl a l n cap v w hL hl hb
theorem add_8 (a : Option Addr) (l : List Int) (n cap : Nat) (v : Int) (w : World) (hL : l.length = n) (hl : n ≤ 1000000) (hb : Bytes w a l) :
    Calls Try.prog 26 #[.slice a n cap, .int .i64 8, .int .u64 v] w fun e w' => ∃ g c, e = .returned (.slice (some ⟨g, 0, none⟩) (n + 8) c) ∧ w.heap.size ≤ g ∧ c = n + 8 ∧ Row w' g (l ++ lowB v 8) ∧ Below w.heap.size w w' := add_n 8 rfl a l n cap v w hL hl hb
attribute [local irreducible] HD.cells wpList Code.wp
set_option maxHeartbeats 2000000 in
theorem hput_any (h : HD) (ok : h.Ok 21) (w : World) :
    Calls Try.prog 10 #[.agg (h.cells 21).toArray] w (Owned (h.bytes 21) 272 w) := by
  have b0 := Lib.hid ((Below.refl w.heap.size w).alloc (Nat.le_refl _) (.cells (h.cells 21).toArray 38))
  have R0 := Lib.hid (show Blk (w.alloc (.cells (h.cells 21).toArray 38)) w.heap.size (h.cells 21) 38 from Blk.new w _ _)
  have S0 := Lib.hid (show (w.alloc (.cells (h.cells 21).toArray 38)).heap.size = w.heap.size + 1 by simp)
  go_enter Try.func10, Try.ntmps10
  go_upto_region 1 with fail
  generalize w.alloc (.cells (h.cells 21).toArray 38) = w0 at *
  have kc := fun (w : World) (C : Array Value) (n c : Nat) => Lib.run_convert_bytes_const (P := Try.prog) w 31 5 C n c Try.underlying31 Try.underlying5
  have M1 := Lib.hid (show Bytes (w0.alloc (.cells #[.int .u8 76, .int .u8 80, .int .u8 75, .int .u8 83, .int .u8 72, .int .u8 72, .int .u8 82, .int .u8 72] 5 (8, 9))) (some ⟨w0.heap.size, 0, none⟩) magicL from const_bytes magicL magic_all w0 (8, 9))
  have a1 := Lib.hid ((Below.refl w0.heap.size w0).alloc (Nat.le_refl _) (.cells #[.int .u8 76, .int .u8 80, .int .u8 75, .int .u8 83, .int .u8 72, .int .u8 72, .int .u8 82, .int .u8 72] 5 (8, 9)))
  have R1 := Lib.hid (R0.out.below a1.out R0.out.lt)
  have HL := Lib.hid R0.out.lt
  have H4 := Lib.hid fun (A : Option Addr) (l : List Int) (n c : Nat) (v : Int) (W : World) (hb : Bytes W A l) (hl : l.length = n) (hn : n ≤ 1000) => add_4 A l n c v W hl (by omega) hb
  have c0 : (w0.alloc (.cells #[.int .u8 76, .int .u8 80, .int .u8 75, .int .u8 83, .int .u8 72, .int .u8 72, .int .u8 82, .int .u8 72] 5 (8, 9))).cell? ⟨w.heap.size, 0, none⟩ = some (.int .u32 h.cp) := R1.out.cell (h.get 21 0 (by decide))
  have hcp := ok.cp
  have L1 := Lib.hid (show magicL.length = 8 from rfl)
  have L2 := Lib.hid (show (magicL ++ lowB h.cp 4).length = 12 by simp [lowB_len, magicL])
  have L3 := Lib.hid (show (magicL ++ lowB h.cp 4 ++ lowB h.ic 4).length = 16 by simp [lowB_len, magicL])
  go_upto_region 2 with (go_at_call 26; ((with_reducible refine (H4.out _ _ _ _ _ _ M1.out L1.out (by decide)).mono ?_); rintro e w2 ⟨g2, c2, rfl, hg2, hc2, hr2, hb2⟩; have r2 := Lib.hid hr2; have B2 := Lib.hid (a1.out.trans (hb2.mono a1.out.size)); have G2 := Lib.hid hg2; have C2 := Lib.hid hc2; clear hg2 hc2 hr2 hb2))
  have A2 := Lib.hid (show AllB (magicL ++ lowB h.cp 4) from magic_all.app (lowB_all _ _))
  have hic := ok.ic
  have R2 := Lib.hid (R0.out.below B2.out HL.out)
  have c1 : w2.cell? ⟨w.heap.size, 1, none⟩ = some (.int .u32 h.ic) := R2.out.cell (h.get 21 1 (by decide))
  clear c0 kc
  go_upto_region 3 with (go_at_call 26; ((with_reducible refine (H4.out _ _ _ _ _ _ (r2.out.bytes A2.out) L2.out (by decide)).mono ?_); rintro e w3 ⟨g3, c3, rfl, hg3, hc3, hr3, hb3⟩; have r3 := Lib.hid hr3; have B3 := Lib.hid (B2.out.trans (hb3.mono B2.out.size)); have G3 := Lib.hid hg3; clear hg3 hc3 hr3 hb3))
  have A3 := Lib.hid (show AllB (magicL ++ lowB h.cp 4 ++ lowB h.ic 4) from A2.out.app (lowB_all _ _))
  have R3 := Lib.hid (R0.out.below B3.out HL.out)
  have H8 := Lib.hid fun (A : Option Addr) (l : List Int) (n c : Nat) (v : Int) (W : World) (hb : Bytes W A l) (hl : l.length = n) (hn : n ≤ 1000) => add_8 A l n c v W hl (by omega) hb
  have c2' : w3.cell? ⟨w.heap.size, 2, none⟩ = some (.int .i64 h.st) := R3.out.cell (h.get 21 2 (by decide))
  have hst : IntKind.u8.wrap h.st = h.st % 256 := by simp [IntKind.wrap, IntKind.signed, IntKind.bits]
  have hs2 : IntKind.u64.wrap (h.st % 256) = h.st % 256 := by rw [IntKind.wrap_u64]; omega
  clear c1
  go_upto_region 4 with (go_at_call 26; ((with_reducible refine (H8.out _ _ _ _ _ _ (r3.out.bytes A3.out) L3.out (by decide)).mono ?_); rintro e w4 ⟨g4, c4, rfl, hg4, rfl, hr4, hb4⟩; have r4 := Lib.hid hr4; have B4 := Lib.hid (B3.out.trans (hb4.mono B3.out.size)); have G4 := Lib.hid (Nat.le_trans B3.out.size hg4); clear hg4 hr4 hb4))
  have HF := Lib.hid (show magicL ++ lowB h.cp 4 ++ lowB h.ic 4 ++ lowB (h.st % 256) 8 = h.front from rfl)
  rw [HF.out] at r4
  have O4 := Lib.hid (own_row r4.out h.front_all G4.out h.front_len (by decide))
  clear c2' hst hs2 hcp hic r2 r3 A2 A3 L1 L2 L3 HF R2 R3 B2 B3 M1 a1 R1 r4 G2 G3 G4 C2
  go_upto_region 5 with (go_at_call 27; ((with_reducible refine (ids_any _ _).mono ?_); rintro e w5 ⟨rfl, hb5⟩; have B5 := Lib.hid (B4.out.trans (hb5.mono B4.out.size)); have O5 := Lib.hid (O4.out.kept hb5 (Nat.le_refl _)); clear hb5))
  have HI := Lib.hid fun (k : Nat) (hk : k < 4) => fun (W : World) => ids_index w.heap.size k hk W
  have HS := Lib.hid h.ids_succ
  clear O4
  go_loopw [3, 26] (fun z i wr => ∃ (k : Nat) (A : Option Addr) (c : Nat), k ≤ 4 ∧ z = .slice A (24 + 16 * k) c ∧ i = .int .i64 (k : Int) ∧ Hid (Own wr w0.heap.size A (24 + 16 * k) c (h.front ++ h.ids k)) ∧ Hid (Below w0.heap.size w0 wr)) (fun _ i _ => 4 - (intOf i).toNat)
  case atStart => exact ⟨0, some ⟨g4, 0, none⟩, 24, Nat.zero_le _, rfl, rfl, by rw [show h.ids 0 = [] from rfl, List.append_nil]; exact O5, B5⟩
  case round =>
    obtain ⟨k, A, c, hk, rfl, rfl, ho, hb⟩ := hrel
    by_cases hlt : k < 4
    · have hix := HI.out k hlt
      have Rk := Lib.hid (R0.out.below hb.out HL.out)
      have Hid16 := Lib.hid (HD.id_at Rk.out ok k hlt)
      have HSk := Lib.hid (HS.out k)
      go_wp2_with (at_builtin; refine wpList_append_bytes rfl (.tmp 29) (.tmp 32) rfl w0.heap.size A (24 + 16 * k) c _ rfl ho.out (some ⟨w.heap.size, 3 + 16 * k, none⟩) 16 16 (h.id k) rfl Hid16.out (h.id_len k) (by omega) ?_; intro A2 c2 w6 ho6 hb6; have O6 := Lib.hid ho6; have B6 := Lib.hid (hb.out.trans hb6); clear ho6 hb6)
      go_roundw
      case rel => exact ⟨k + 1, A2, c2, by omega, by rw [show 24 + 16 * (k + 1) = 24 + 16 * k + 16 by omega], by go_num, by rw [HSk.out, ← List.append_assoc, show 24 + 16 * (k + 1) = 24 + 16 * k + 16 by omega]; exact O6, B6⟩
      case measure => simp [intOf]; omega
    · obtain rfl : k = 4 := by omega
      clear HI HS O5 B5 B4
      have O7 := Lib.hid (show Own wr w0.heap.size A 88 c (h.front ++ h.ids 4) from ho.out)
      clear ho
      rename World => w7
      go_upto_region 10 with (go_at_call 28; ((with_reducible refine (hnums_any _ _).mono ?_); rintro e w8 ⟨rfl, hb8⟩; have B8 := Lib.hid (hb.out.trans (hb8.mono hb.out.size)); have O8 := Lib.hid (O7.out.kept hb8 (Nat.le_refl _)); clear hb8))
      have HN := Lib.hid fun (k : Nat) (hk : k < 21) => fun (W : World) => nums_index w.heap.size k hk W
      have HSn := Lib.hid fun k => show Ob.nums (h.nums (k + 1)) = Ob.nums (h.nums k) ++ lowB (h.N k) 8 by rw [h.nums_succ, nums_snoc]
      have HLn := Lib.hid fun k => show (h.front ++ h.ids 4 ++ Ob.nums (h.nums k)).length = 88 + 8 * k by simp only [List.length_append, HD.front_len, HD.ids_len, Ob.nums_len, HD.nums_len]
      have HA0 := Lib.hid (show AllB (h.front ++ h.ids 4) from O8.out.1)
      have S8 := Lib.hid (show 0 ≤ w0.heap.size from Nat.zero_le _)
      clear O7 hb
      go_loopw [3, 36] (fun z i wr => ∃ (k : Nat) (A : Option Addr) (c : Nat), k ≤ 21 ∧ z = .slice A (88 + 8 * k) c ∧ i = .int .i64 (k : Int) ∧ Hid (Own wr w0.heap.size A (88 + 8 * k) c (h.front ++ h.ids 4 ++ Ob.nums (h.nums k))) ∧ Hid (Below w0.heap.size w0 wr)) (fun _ i _ => 21 - (intOf i).toNat)
      case atStart => exact ⟨0, A, c, Nat.zero_le _, rfl, rfl, by rw [show Ob.nums (h.nums 0) = [] from rfl, List.append_nil]; exact O8, B8⟩
      case round =>
        obtain ⟨k, A', c', hk, rfl, rfl, ho, hb⟩ := hrel
        by_cases hlt : k < 21
        · have hix := HN.out k hlt
          have ck := HD.nums_at (R0.out.below hb.out HL.out) k hlt
          have Hln := Lib.hid (HLn.out k)
          have Hsn := Lib.hid (HSn.out k)
          have hk88 : 88 + 8 * k ≤ 1000 := by omega
          have hsz := hb.out.size
          go_wp2_with (go_at_call 26; ((with_reducible refine (H8.out _ _ _ _ _ _ ho.out.bytes Hln.out hk88).mono ?_); rintro e w9 ⟨g9, c9, rfl, hg9, rfl, hr9, hb9⟩; have r9 := Lib.hid hr9; have B9 := Lib.hid (hb.out.trans (hb9.mono hb.out.size)); have G9 := Lib.hid (Nat.le_trans hb.out.size hg9); clear hg9 hr9 hb9))
          go_roundw
          case rel => exact ⟨k + 1, some ⟨g9, 0, none⟩, 88 + 8 * k + 8, by omega, by rw [show 88 + 8 * (k + 1) = 88 + 8 * k + 8 by omega], by go_num, by rw [Hsn.out, ← List.append_assoc, show 88 + 8 * (k + 1) = 88 + 8 * k + 8 by omega]; exact Lib.hid (own_row r9.out (ho.out.1.app (lowB_all _ _)) G9.out (by rw [List.length_append, Hln.out, lowB_len]) (by unfold maxLen; omega)), B9⟩
          case measure => simp [intOf]; omega
        · obtain rfl : k = 21 := by omega
          have E0 := Lib.hid (show AllB (h.front ++ h.ids 4 ++ Ob.nums (h.nums 21)) from ho.out.1)
          have E1 := Lib.hid (show AllB (h.front ++ h.ids 4 ++ Ob.nums (h.nums 21) ++ lowB h.ta 4) from E0.out.app (lowB_all _ _))
          have E2 := Lib.hid (show AllB (h.front ++ h.ids 4 ++ Ob.nums (h.nums 21) ++ lowB h.ta 4 ++ lowB h.ti 4) from E1.out.app (lowB_all _ _))
          have D0 := Lib.hid (show (h.front ++ h.ids 4 ++ Ob.nums (h.nums 21)).length = 256 from HLn.out 21)
          have D1 := Lib.hid (show (h.front ++ h.ids 4 ++ Ob.nums (h.nums 21) ++ lowB h.ta 4).length = 260 by rw [List.length_append, D0.out, lowB_len])
          have D2 := Lib.hid (show (h.front ++ h.ids 4 ++ Ob.nums (h.nums 21) ++ lowB h.ta 4 ++ lowB h.ti 4).length = 264 by rw [List.length_append, D1.out, lowB_len])
          have O9 := Lib.hid (show Own wr w0.heap.size A' 256 c' (h.front ++ h.ids 4 ++ Ob.nums (h.nums 21)) from ho.out)
          have Ra := Lib.hid (R0.out.below hb.out HL.out)
          have ca : wr.cell? ⟨w.heap.size, 88, none⟩ = some (.int .u32 h.ta) := Ra.out.cell (h.get_ta 21)
          have hta := ok.ta
          clear HN HSn HLn HA0 O8 B8 ho
          rename World => wA
          have hszA := Lib.hid hb.out.size
          go_upto_region 15 with (go_at_call 26; ((with_reducible refine (H4.out _ _ _ _ _ _ O9.out.bytes D0.out (by decide)).mono ?_); rintro e wB ⟨gB, cB, rfl, hgB, hcB, hrB, hbB⟩; have rB := Lib.hid hrB; have BB := Lib.hid (hb.out.trans (hbB.mono hb.out.size)); clear hgB hcB hrB hbB))
          have Rb := Lib.hid (R0.out.below BB.out HL.out)
          have cb' : wB.cell? ⟨w.heap.size, 89, none⟩ = some (.int .u32 h.ti) := Rb.out.cell (h.get_ti 21)
          have hti := ok.ti
          clear ca
          go_upto_region 16 with (go_at_call 26; ((with_reducible refine (H4.out _ _ _ _ _ _ (rB.out.bytes E1.out) D1.out (by decide)).mono ?_); rintro e wC ⟨gC, cC, rfl, hgC, hcC, hrC, hbC⟩; have rC := Lib.hid hrC; have BC := Lib.hid (BB.out.trans (hbC.mono BB.out.size)); clear hgC hcC hrC hbC))
          have Rc := Lib.hid (R0.out.below BC.out HL.out)
          have cc' : wC.cell? ⟨w.heap.size, 90, none⟩ = some (.int .u64 h.te) := Rc.out.cell (h.get_te 21)
          clear cb'
          go_wp2_with (go_at_call 26; ((with_reducible refine (H8.out _ _ _ _ _ _ (rC.out.bytes E2.out) D2.out (by decide)).mono ?_); rintro e wD ⟨gD, cD, rfl, hgD, rfl, hrD, hbD⟩; have rD := Lib.hid hrD; have BD := Lib.hid (BC.out.trans (hbD.mono BC.out.size)); have GD := Lib.hid (Nat.le_trans BC.out.size hgD); clear hgD hrD hbD))
          go_ret
          exact ⟨some ⟨gD, 0, none⟩, 272, rfl, own_row rD.out (E2.out.app (lowB_all _ _)) (Nat.le_trans (by rw [S0.out]; exact Nat.le_succ _) GD.out) (HD.bytes_len h 21) (by decide), b0.out.trans (BD.out.mono (by rw [S0.out]; exact Nat.le_succ _))⟩
end Go.Proofs.Ytkdbgilnehjpmaa.Gd
/-
  Where a journal ends: the package's End, the document's own.
-/
namespace Go.Proofs.Ytkdbgilnehjpmaa.Gf
open Go.ChangeShapes Go.WideShapes Go.ChangeAt Go.RowKit
open Bytes8 Blk8 Own8 OwnM LeA LeNum LeP Ob Oc Od Ga Gb Gc Gd
set_option linter.unusedVariables false
set_option linter.unusedSimpArgs false
set_option maxRecDepth 100000
/-- The end; whether there is one. -/
def endV (h : HD) : Int := if h.N 0 + h.N 1 ≤ 18446744073709551615 then h.N 0 + h.N 1 else 0
def endB (h : HD) : Bool := decide (h.N 0 + h.N 1 ≤ 18446744073709551615)
theorem add64_any (x y : Int) (hx : 0 ≤ x) (hy : 0 ≤ y) (w : World) :
    (callFunc 48 #[.int .u64 x, .int .u64 y, .int .u64 0]).run Try.prog w = .ok (.value (.tuple #[.int .u64 ((x + y) % 18446744073709551616), .int .u64 ((x + y) / 18446744073709551616)])) w := by
  have h := run_add64 (P := Try.prog) x y 0 hx hy (by decide) (by decide) w
  rw [Int.add_zero] at h
  rw [run_callFunc_extern Try.func48 (by kernel_rfl) (by kernel_rfl) (by kernel_rfl) (e := add64Entry) (by kernel_rfl), h]
  rfl
attribute [local irreducible] HD.cells wpList Code.wp
set_option maxHeartbeats 1000000 in
theorem end_any (h : HD) (ok : h.Ok 21) (w : World) :
    Calls Try.prog 24 #[.agg (h.cells 21).toArray] w fun e w' => e = .returned (.tuple #[.int .u64 (endV h), .bool (endB h)]) ∧ Below w.heap.size w w' := by
  have b0 := Lib.hid ((Below.refl w.heap.size w).alloc (Nat.le_refl _) (.cells (h.cells 21).toArray 38))
  have R0 := Lib.hid (show Blk (w.alloc (.cells (h.cells 21).toArray 38)) w.heap.size (h.cells 21) 38 from Blk.new w _ _)
  obtain ⟨p0, p1⟩ := ok.N 0
  obtain ⟨r0, r1⟩ := ok.N 1
  have c0 := HD.nums_at R0.out 0 (by decide)
  have c1 := HD.nums_at R0.out 1 (by decide)
  by_cases hle : h.N 0 + h.N 1 ≤ 18446744073709551615
  · rw [show endV h = h.N 0 + h.N 1 from if_pos hle, show endB h = true from decide_eq_true hle]
    have ha := add64_any (h.N 0) (h.N 1) p0 r0
    rw [show (h.N 0 + h.N 1) % 18446744073709551616 = h.N 0 + h.N 1 by omega, show (h.N 0 + h.N 1) / 18446744073709551616 = 0 by omega] at ha
    go_enter Try.func24, Try.ntmps24
    go_wp2
    go_ret2
    exact ⟨rfl, b0.out⟩
  · rw [show endV h = 0 from if_neg hle, show endB h = false from decide_eq_false hle]
    have ha := add64_any (h.N 0) (h.N 1) p0 r0
    rw [show (h.N 0 + h.N 1) / 18446744073709551616 = 1 by omega] at ha
    go_enter Try.func24, Try.ntmps24
    go_wp2
    go_ret2
    exact ⟨rfl, b0.out⟩
end Go.Proofs.Ytkdbgilnehjpmaa.Gf
/-
  Bytes that are too few for a head; the chapter's example.
-/
namespace Go.Proofs.Ytkdbgilnehjpmaa.Gi
open Go.ChangeShapes Go.WideShapes Go.ChangeAt Go.RowKit
open Bytes8 Blk8 Own8 OwnM LeA LeNum LeP Ob Oc Od Ga Gb Gc Gd Gf
set_option linter.unusedVariables false
set_option linter.unusedSimpArgs false
set_option maxRecDepth 100000
def hd0 : HD := ⟨0, 0, 0, fun _ => 0, fun _ => 0, 0, 0, 0⟩
theorem wpList_build_zero {P : Program} {ops : Array Oper} {rest : List Oper} {o : Oper} {a : Act} {w : World} {Q : Exit → Act → World → Prop} (hw : Region.wanted o (yielded ops a.tmps) = true) (t : TypeId) (ho : o.op = .build t #[]) (cells : Array Value)
    (hb : P.built t [] = some cells) (h : wpList P ops Q rest (a.put o.dst (.agg cells)) w) : wpList P ops Q (o :: rest) a w :=
  BigFrame.wpList_want hw fun K hK => wp_build t #[] ho (by simp only [List.map_toArray, List.map_nil]; rw [hb]; rfl) (by simp only [List.map_toArray, List.map_nil]; rw [hb]; exact hK _ _ h)
theorem zero_built : Try.prog.built 38 [] = some (hd0.cells 21).toArray := by kernel_rfl
theorem res_rowG {P : Program} {fn : Func} {p u : Tmp} {ty : TypeId} (h : fn.results = #[.cell p ty, .tmp u]) (tmps : Array Value) (w : World) (g : Nat) (t : TypeId) (cs : Array Value) (fr : Nat × Nat) (d : TypeDesc) (c : Value)
    (hp : tmps.getD p undef = .pointer (some ⟨g, 0, none⟩)) (hc : tmps.getD u undef = c) (hg : w.heap[g]? = some (.cells cs t fr)) (hu : P.underlying ty = some d) (hd : (match d with | .struct _ | .array _ _ => true | _ => false) = true) (hi : (P.info? ty).map (·.size) = some cs.size) :
    (results fn tmps).run P w = .ok (.tuple #[.agg cs, c]) w := by
  rw [results_cell_tmp h, hp, hc]
  simp [asAddr, run_loadVar_row w g t ty cs fr d hg hu hd hi, Result.andThen]
attribute [local irreducible] HD.cells wpList Code.wp
set_option maxHeartbeats 1000000 in
theorem read_short (A : Option Addr) (n c : Nat) (w : World) (hn : n < 272) :
    Calls Try.prog 7 #[.slice A n c] w fun e w' => e = .returned (.tuple #[.agg (hd0.cells 21).toArray, .int .i64 22]) ∧ Below w.heap.size w w' := by
  have d1 : (n : Int) < 272 := by omega
  go_enter Try.func7, Try.ntmps7
  go_upto_region 1 with fail
  have b1 := Lib.hid ((Below.refl w.heap.size w).alloc (Nat.le_refl _) (.cells Try.zeroCells38 38))
  have Z1 := Lib.hid (heap_alloc_new w (.cells Try.zeroCells38 38))
  generalize w.alloc (.cells Try.zeroCells38 38) = w1 at *
  go_wp2_with (first
    | ((with_reducible apply at_slot 9); refine wpList_build_zero rfl 38 rfl _ zero_built ?_)
    | ((with_reducible apply at_store (.tmp 2) (.tmp 9)); refine wpList_store_row rfl 38 (.tmp 2) (.tmp 9) rfl w.heap.size (hd0.cells 21).toArray rfl rfl 38 Try.zeroCells38 Z1.out (cells_info _) zeros_size (HD.one _ 21) ?_))
  refine bodyPost_ret (v := .tuple #[.agg (hd0.cells 21).toArray, .int .i64 22]) (by exact res_rowG Try.results7 _ _ w.heap.size 38 _ (0, 0) _ _ rfl rfl (setRow_heap _ _ _ _ _ (0, 0) Z1.out) Try.underlying38 rfl (cells_info _)) rfl ?_
  exact ⟨rfl, below_setRow b1.out (Nat.le_refl _) _⟩
end Go.Proofs.Ytkdbgilnehjpmaa.Gi
/-
  What the program's Read takes out of bytes, whatever they have.
-/
namespace Go.Proofs.Ytkdbgilnehjpmaa.Gj
open Go.ChangeShapes Go.WideShapes Go.ChangeAt Go.RowKit
open Bytes8 Blk8 Own8 OwnM OwnE LeA LeNum LeB LeP Ob Oc Od Ga Gb Gc Gd Gf Gi
set_option linter.unusedVariables false
set_option linter.unusedSimpArgs false
set_option maxRecDepth 100000
/-- The number of four bytes from a place on. -/
def u4 (l : List Int) (a : Nat) : Int := leNum ((l.drop a).take 4)
theorem u4_bd {l : List Int} (h : AllB l) (a : Nat) : 0 ≤ u4 l a ∧ u4 l a ≤ 4294967295 := by
  have h1 := leNum_bound ((l.drop a).take 4) ((h.drop a).take 4)
  have h2 : ((l.drop a).take 4).length ≤ 4 := by simp; omega
  have h3 : (256 : Int) ^ ((l.drop a).take 4).length ≤ 4294967296 := by
    generalize ((l.drop a).take 4).length = k at *
    rcases k with _ | _ | _ | _ | _ | k
    all_goals first | decide | omega
  unfold u4
  omega
/-- What stands in a head's bytes. -/
def hdOf (l : List Int) : HD := ⟨u4 l 8, u4 l 12, l.getD 16 0, fun i => l.getD (24 + i) 0, fun i => u8 l (88 + 8 * i), u4 l 256, u4 l 260, u8 l 264⟩
theorem hdOf_ok {l : List Int} (h : AllB l) (m : Nat) : (hdOf l).Ok m :=
  ⟨u4_bd h 8, u4_bd h 12, by have := h.at_ 16; show _ ≤ l.getD 16 0 ∧ l.getD 16 0 ≤ _; omega, fun i => h.at_ _, fun i => u8_bd h _, u4_bd h 256, u4_bd h 260, u8_bd h 264⟩
/-- .. so many IDs and numbers of it. -/
def hdI (l : List Int) (k j : Nat) : HD := { hdOf l with I := fun i => if i < 16 * k then l.getD (24 + i) 0 else 0, N := fun i => if i < j then u8 l (88 + 8 * i) else 0 }
theorem hdI_zero (l : List Int) : hdI l 0 0 = ⟨u4 l 8, u4 l 12, l.getD 16 0, fun _ => 0, fun _ => 0, u4 l 256, u4 l 260, u8 l 264⟩ := by
  unfold hdI hdOf
  simp
theorem at_cong {a b : HD} {m : Nat} (h : ∀ i, i < 70 + m → a.at_ m i = b.at_ m i) : a.cells m = b.cells m := by
  unfold HD.cells
  apply List.map_congr_left
  intro i hi
  exact h i (List.mem_range.1 hi)
theorem hdI_whole (l : List Int) : (hdI l 4 21).cells 21 = (hdOf l).cells 21 := by
  apply at_cong
  intro i hi
  unfold HD.at_
  by_cases h1 : i < 3
  · rw [if_pos h1, if_pos h1]; rfl
  rw [if_neg h1, if_neg h1]
  by_cases h2 : i < 67
  · rw [if_pos h2, if_pos h2]
    show Value.int .u8 (if i - 3 < 16 * 4 then _ else 0) = _
    rw [if_pos (by omega)]; rfl
  rw [if_neg h2, if_neg h2]
  by_cases h3 : i < 67 + 21
  · rw [if_pos h3, if_pos h3]
    show Value.int .u64 (if i - 67 < 21 then _ else 0) = _
    rw [if_pos (by omega)]; rfl
  rw [if_neg h3, if_neg h3]; rfl
theorem hdI_set (l : List Int) (j : Nat) (hj : j < 21) : ((hdI l 4 j).cells 21).set (67 + j) (.int .u64 (u8 l (88 + 8 * j))) = (hdI l 4 (j + 1)).cells 21 := by
  apply List.ext_getElem?
  intro i
  rw [List.getElem?_set]
  by_cases hi : i < 91
  · by_cases he : 67 + j = i
    · subst he
      rw [if_pos rfl, if_pos (by rw [HD.len]; omega), HD.get_N _ 21 j hj]
      show _ = some (Value.int .u64 (if j < j + 1 then _ else 0))
      rw [if_pos (by omega)]
    · rw [if_neg he, HD.get _ 21 i hi, HD.get _ 21 i hi]
      congr 1
      unfold HD.at_
      by_cases h1 : i < 3
      · rw [if_pos h1, if_pos h1]; rfl
      rw [if_neg h1, if_neg h1]
      by_cases h2 : i < 67
      · rw [if_pos h2, if_pos h2]; rfl
      rw [if_neg h2, if_neg h2]
      by_cases h3 : i < 67 + 21
      · rw [if_pos h3, if_pos h3]
        show Value.int .u64 (if i - 67 < j then _ else 0) = Value.int .u64 (if i - 67 < j + 1 then _ else 0)
        by_cases h4 : i - 67 < j
        · rw [if_pos h4, if_pos (by omega)]
        · rw [if_neg h4, if_neg (by omega)]
      rw [if_neg h3, if_neg h3]; rfl
  · rw [if_neg (by omega), List.getElem?_eq_none (by rw [HD.len]; omega), List.getElem?_eq_none (by rw [HD.len]; omega)]
theorem hdI_splice (l : List Int) (k j : Nat) (hk : k < 4) (hl : 272 ≤ l.length) : splice ((hdI l k j).cells 21) (3 + 16 * k) (((l.drop (24 + 16 * k)).take 16).map (Value.int .u8)) = (hdI l (k + 1) j).cells 21 := by
  have hc : (((l.drop (24 + 16 * k)).take 16).map (Value.int .u8)).length = 16 := by simp; omega
  apply List.ext_getElem?
  intro i
  unfold splice
  rw [hc]
  by_cases hi : i < 91
  · rw [HD.get _ 21 i hi]
    by_cases h1 : i < 3 + 16 * k
    · rw [List.getElem?_append_left (by rw [List.length_take, HD.len]; omega), List.getElem?_take_of_lt h1, HD.get _ 21 i hi]
      congr 1
      unfold HD.at_
      by_cases h2 : i < 3
      · rw [if_pos h2, if_pos h2]; rfl
      · rw [if_neg h2, if_neg h2, if_pos (by omega), if_pos (by omega)]
        show Value.int .u8 (if i - 3 < 16 * k then _ else 0) = Value.int .u8 (if i - 3 < 16 * (k + 1) then _ else 0)
        rw [if_pos (by omega), if_pos (by omega)]
    · by_cases h2 : i < 19 + 16 * k
      · rw [List.getElem?_append_right (by rw [List.length_take, HD.len]; omega), List.length_take, HD.len, Nat.min_eq_left (by omega), List.getElem?_append_left (by rw [hc]; omega), List.getElem?_map, List.getElem?_take_of_lt (by omega), List.getElem?_drop, List.getElem?_eq_getElem (by omega)]
        unfold HD.at_
        rw [if_neg (by omega), if_pos (by omega)]
        show some (Value.int .u8 _) = some (Value.int .u8 (if i - 3 < 16 * (k + 1) then l.getD (24 + (i - 3)) 0 else 0))
        rw [if_pos (by omega), List.getD_eq_getElem?_getD, List.getElem?_eq_getElem (by omega)]
        simp only [Option.getD_some]
        congr 3
        omega
      · rw [List.getElem?_append_right (by rw [List.length_take, HD.len]; omega), List.length_take, HD.len, Nat.min_eq_left (by omega), List.getElem?_append_right (by rw [hc]; omega), hc, List.getElem?_drop, show 3 + 16 * k + 16 + (i - (3 + 16 * k) - 16) = i by omega, HD.get _ 21 i hi]
        congr 1
        unfold HD.at_
        have h0 : ¬ i < 3 := by omega
        rw [if_neg h0, if_neg h0]
        by_cases h3 : i < 67
        · rw [if_pos h3, if_pos h3]
          show Value.int .u8 (if i - 3 < 16 * k then _ else 0) = Value.int .u8 (if i - 3 < 16 * (k + 1) then _ else 0)
          rw [if_neg (by omega), if_neg (by omega)]
        · rw [if_neg h3, if_neg h3]; rfl
  · rw [List.getElem?_eq_none (by simp only [List.length_append, List.length_take, List.length_drop, HD.len, hc]; omega), List.getElem?_eq_none (by rw [HD.len]; omega)]
theorem hd_built (cp ic st ta ti te : Int) : Try.prog.built 38 [(0, .int .u32 cp), (1, .int .u32 ic), (2, .int .i64 st), (28, .int .u32 ta), (29, .int .u32 ti), (30, .int .u64 te)] = some ((⟨cp, ic, st, fun _ => 0, fun _ => 0, ta, ti, te⟩ : HD).cells 21).toArray := by kernel_rfl
theorem number_any (A : Option Addr) (l : List Int) (n c p k : Nat) (w : World) (hb : Bytes w A l) (hL : l.length = n) (hn : n ≤ 1000000) (hk : isW k = true) (hp : p + k ≤ n) :
    Calls Try.prog 45 #[.slice A n c, .int .i64 (p : Int), .int .i64 (k : Int)] w fun e w' => e = .returned (.int .u64 (leNum ((l.drop p).take k))) ∧ w = w' := by
  subst hL
  obtain ⟨h1, h2⟩ := isW_bd hk
  have HG := Lib.hid (get_yes A l c p k w (by omega) (by unfold fits; rw [hk]; simp; omega) hb (by omega) (by omega) hp)
  generalize leNum ((l.drop p).take k) = x at *
  clear hb
  go_enter Try.func45, Try.ntmps45
  go_wp2_with (go_at_call 66; ((with_reducible refine HG.out.mono ?_); rintro e w' ⟨rfl, rfl⟩))
  go_ret
  exact ⟨rfl, rfl⟩
end Go.Proofs.Ytkdbgilnehjpmaa.Gj
/-
  .. walked.
-/
namespace Go.Proofs.Ytkdbgilnehjpmaa.Gk
open Go.ChangeShapes Go.WideShapes Go.ChangeAt Go.RowKit
open Bytes8 Blk8 Own8 OwnM OwnE LeA LeNum LeB LeP Ob Oc Od Ga Gb Gc Gd Gf Gi Gj
set_option linter.unusedVariables false
set_option linter.unusedSimpArgs false
set_option maxRecDepth 100000
/-- A store of a whole head, a head built, under names of their own: they are met by equations. -/
def stH (p v : Value) : Sem Unit := Instr.storeAt 38 p v
theorem st_fold (p v : Value) : Instr.storeAt 38 p v = stH p v := rfl
def bldH (parts : Array (Nat × Value)) : Sem Value := Instr.build 38 parts
theorem bld_fold (parts : Array (Nat × Value)) : Instr.build 38 parts = bldH parts := rfl
theorem store_head (w : World) (g : Nat) (old cs : Array Value) (h : w.heap[g]? = some (.cells old 38 (0, 0))) (ho : old.size = cs.size) (hi : (Try.prog.info? 38).map (·.size) = some cs.size) (h1 : cs.all (·.oneCell') = true) :
    (stH (.pointer (some ⟨g, 0, none⟩)) (.agg cs)).run Try.prog w = .ok () (w.setRow g cs) := by
  unfold stH
  simp only [Instr.storeAt, Instr.sureAddr, Sem.run_bind, Sem.run_pure, Result.andThen_ok]
  exact run_storeVar_row w g 38 38 old cs h hi ho h1
theorem build_head (w : World) (cp ic st ta ti te : Int) : (bldH #[(0, .int .u32 cp), (1, .int .u32 ic), (2, .int .i64 st), (28, .int .u32 ta), (29, .int .u32 ti), (30, .int .u64 te)]).run Try.prog w = .ok (.agg ((⟨cp, ic, st, fun _ => 0, fun _ => 0, ta, ti, te⟩ : HD).cells 21).toArray) w := by
  unfold bldH
  exact run_build w _ _ _ (hd_built cp ic st ta ti te)
attribute [local irreducible] HD.cells wpList Code.wp
attribute [local go_sem ↓] st_fold bld_fold
set_option maxHeartbeats 4000000 in
theorem taken_any (A : Option Addr) (l : List Int) (n c : Nat) (w : World) (hb : Bytes w A l) (hL : l.length = n) (h272 : 272 ≤ n) (hn : n ≤ 1000000) (hc : n ≤ c) :
    Calls Try.prog 22 #[.slice A n c] w fun e w' => e = .returned (.agg ((hdOf l).cells 21).toArray) ∧ Below w.heap.size w w' := by
  have N8 := Lib.hid fun (W : World) (hW : Bytes W A l) => show Calls Try.prog 45 #[.slice A n c, .int .i64 8, .int .i64 4] W fun e w' => e = .returned (.int .u64 (u4 l 8)) ∧ W = w' from number_any A l n c 8 4 W hW hL (by omega) rfl (by omega)
  have N12 := Lib.hid fun (W : World) (hW : Bytes W A l) => show Calls Try.prog 45 #[.slice A n c, .int .i64 12, .int .i64 4] W fun e w' => e = .returned (.int .u64 (u4 l 12)) ∧ W = w' from number_any A l n c 12 4 W hW hL (by omega) rfl (by omega)
  have N256 := Lib.hid fun (W : World) (hW : Bytes W A l) => show Calls Try.prog 45 #[.slice A n c, .int .i64 256, .int .i64 4] W fun e w' => e = .returned (.int .u64 (u4 l 256)) ∧ W = w' from number_any A l n c 256 4 W hW hL (by omega) rfl (by omega)
  have N260 := Lib.hid fun (W : World) (hW : Bytes W A l) => show Calls Try.prog 45 #[.slice A n c, .int .i64 260, .int .i64 4] W fun e w' => e = .returned (.int .u64 (u4 l 260)) ∧ W = w' from number_any A l n c 260 4 W hW hL (by omega) rfl (by omega)
  have N264 := Lib.hid fun (W : World) (hW : Bytes W A l) => show Calls Try.prog 45 #[.slice A n c, .int .i64 264, .int .i64 8] W fun e w' => e = .returned (.int .u64 (u8 l 264)) ∧ W = w' from number_any A l n c 264 8 W hW hL (by omega) rfl (by omega)
  have U8 := u4_bd hb.1 8
  have U12 := u4_bd hb.1 12
  have U256 := u4_bd hb.1 256
  have U260 := u4_bd hb.1 260
  have U16 := hb.1.at_ 16
  have K8 : IntKind.u32.wrap (u4 l 8) = u4 l 8 := by rw [IntKind.wrap_u32]; omega
  have K12 : IntKind.u32.wrap (u4 l 12) = u4 l 12 := by rw [IntKind.wrap_u32]; omega
  have K256 : IntKind.u32.wrap (u4 l 256) = u4 l 256 := by rw [IntKind.wrap_u32]; omega
  have K260 : IntKind.u32.wrap (u4 l 260) = u4 l 260 := by rw [IntKind.wrap_u32]; omega
  have K16 : IntKind.i64.wrap (l.getD 16 0) = l.getD 16 0 := by rw [IntKind.wrap_i64]; omega
  obtain ⟨bb, off, rfl, hblt, hcell⟩ := hb.spot (by omega)
  have HB := Lib.hid hb
  have HLt := Lib.hid hblt
  have HCell := Lib.hid (hcell 16 (by omega))
  clear hcell hblt
  go_enter Try.func22, Try.ntmps22
  go_upto_region 1 with fail
  have b1 := Lib.hid ((Below.refl w.heap.size w).alloc (Nat.le_refl _) (.cells Try.zeroCells38 38))
  have Z1 := Lib.hid (heap_alloc_new w (.cells Try.zeroCells38 38))
  have s1 := Lib.hid (show (w.alloc (.cells Try.zeroCells38 38)).heap.size = w.heap.size + 1 by simp)
  generalize w.alloc (.cells Try.zeroCells38 38) = w1 at *
  have HBa := Lib.hid (show Bytes w1.drew (some ⟨bb, off, none⟩) l from (HB.out.below b1.out (Nat.le_refl _)).drew)
  have BB := Lib.hid ((Below.refl w1.heap.size w1).alloc (Nat.le_refl _) (.cells Try.zeroCells38 38)).drew
  have HBb := Lib.hid (show Bytes ((w1.alloc (.cells Try.zeroCells38 38)).drew) (some ⟨bb, off, none⟩) l from (HB.out.below b1.out (Nat.le_refl _)).below BB.out (Nat.le_refl _))
  have qa : w1.drew.cell? ⟨bb, off + 16, none⟩ = some (.int .u8 (l.getD 16 0)) := (b1.out.cell (p := ⟨bb, off + 16, none⟩) HLt.out).trans HCell.out
  have hlt1 := Nat.lt_of_lt_of_le HLt.out b1.out.size
  have qb : ((w1.alloc (.cells Try.zeroCells38 38)).drew).cell? ⟨bb, off + 16, none⟩ = some (.int .u8 (l.getD 16 0)) := (BB.out.cell (p := ⟨bb, off + 16, none⟩) hlt1).trans qa
  have hbld := fun W : World => build_head W (u4 l 8) (u4 l 12) (l.getD 16 0) (u4 l 256) (u4 l 260) (u8 l 264)
  have hnew : ((w1.alloc (.cells Try.zeroCells38 38)).drew).heap[w1.heap.size]? = some (.cells Try.zeroCells38 38 (0, 0)) := heap_alloc_new w1 _
  have hsto := store_head ((w1.alloc (.cells Try.zeroCells38 38)).drew) w1.heap.size _ ((⟨u4 l 8, u4 l 12, l.getD 16 0, fun _ => 0, fun _ => 0, u4 l 256, u4 l 260, u8 l 264⟩ : HD).cells 21).toArray hnew zeros_size (cells_info _) (HD.one _ 21)
  have BC := Lib.hid (show Below w1.heap.size w1 (((w1.alloc (.cells Try.zeroCells38 38)).drew).setRow w1.heap.size ((⟨u4 l 8, u4 l 12, l.getD 16 0, fun _ => 0, fun _ => 0, u4 l 256, u4 l 260, u8 l 264⟩ : HD).cells 21).toArray) from below_setRow BB.out (Nat.le_refl _) _)
  have qc : (((w1.alloc (.cells Try.zeroCells38 38)).drew).setRow w1.heap.size ((⟨u4 l 8, u4 l 12, l.getD 16 0, fun _ => 0, fun _ => 0, u4 l 256, u4 l 260, u8 l 264⟩ : HD).cells 21).toArray).cell? ⟨bb, off + 16, none⟩ = some (.int .u8 (l.getD 16 0)) := (BC.out.cell (p := ⟨bb, off + 16, none⟩) hlt1).trans qa
  have RC := Lib.hid (show Blk (((w1.alloc (.cells Try.zeroCells38 38)).drew).setRow w1.heap.size ((⟨u4 l 8, u4 l 12, l.getD 16 0, fun _ => 0, fun _ => 0, u4 l 256, u4 l 260, u8 l 264⟩ : HD).cells 21).toArray) w1.heap.size ((⟨u4 l 8, u4 l 12, l.getD 16 0, fun _ => 0, fun _ => 0, u4 l 256, u4 l 260, u8 l 264⟩ : HD).cells 21) 38 from setRow_heap _ _ _ _ _ (0, 0) hnew)
  have d16 : (16 : Int) < (n : Int) := by omega
  clear hnew U8 U12 U256 U260 U16
  have HZ := Lib.hid (hdI_zero l)
  generalize u4 l 8 = cp at *
  generalize u4 l 12 = ic at *
  generalize u4 l 256 = ta at *
  generalize u4 l 260 = ti at *
  generalize u8 l 264 = te at *
  generalize l.getD 16 0 = s16 at *
  go_cut [3] from 8 to 27 (fun z wx => z = .pointer (some ⟨w1.heap.size, 0, none⟩) ∧ Hid (Blk wx w1.heap.size ((⟨cp, ic, s16, fun _ => 0, fun _ => 0, ta, ti, te⟩ : HD).cells 21) 38) ∧ Hid (Below w1.heap.size w1 wx))
  case first =>
    go_region_held3 (fun W => W.cell? ⟨bb, off + 16, none⟩ = some (.int .u8 (s16))) (first | (with_reducible exact qa) | (with_reducible exact qb) | (with_reducible exact qc) | go_keep) ((go_simp; go_at_call 45; (first | (with_reducible refine (N8.out _ HBa.out).mono ?_) | (with_reducible refine (N8.out _ HBb.out).mono ?_) | (with_reducible refine (N12.out _ HBa.out).mono ?_) | (with_reducible refine (N12.out _ HBb.out).mono ?_) | (with_reducible refine (N256.out _ HBa.out).mono ?_) | (with_reducible refine (N256.out _ HBb.out).mono ?_) | (with_reducible refine (N260.out _ HBa.out).mono ?_) | (with_reducible refine (N260.out _ HBb.out).mono ?_) | (with_reducible refine (N264.out _ HBa.out).mono ?_) | (with_reducible refine (N264.out _ HBb.out).mono ?_)); rintro e w' ⟨rfl, rfl⟩))
    all_goals
      go_wp2_with fail
      go_meet
      case rel => exact ⟨rfl, RC, BC⟩
  case rest =>
    obtain ⟨rfl, hR, hB⟩ := hcut
    have R2 := Lib.hid (show Blk wc w1.heap.size ((hdI l 0 0).cells 21) 38 by rw [HZ.out]; exact hR.out)
    have B2 := Lib.hid hB.out
    clear hR hB RC BC qa qb qc hbld hsto HZ K8 K12 K256 K260 K16 N8 N12 N256 N260 N264 HBa HBb BB
    go_upto_region 3 with (go_at_call 27; ((with_reducible refine (ids_any _ _).mono ?_); rintro e w3 ⟨rfl, hb3⟩; have R3 := Lib.hid (R2.out.below hb3 R2.out.lt); have B3 := Lib.hid (B2.out.trans (hb3.mono B2.out.size)); clear hb3))
    have HI := Lib.hid fun (k : Nat) (hk : k < 4) => fun (W : World) => ids_index w1.heap.size k hk W
    have HS := Lib.hid fun (k : Nat) (hk : k < 4) => hdI_splice l k 0 hk (by omega)
    clear R2
    go_loopw [28] (fun i wr => ∃ k : Nat, k ≤ 4 ∧ i = .int .i64 (k : Int) ∧ Hid (Blk wr w1.heap.size ((hdI l k 0).cells 21) 38) ∧ Hid (Below w1.heap.size w1 wr)) (fun i _ => 4 - (intOf i).toNat)
    case atStart => exact ⟨0, Nat.zero_le _, rfl, R3, B3⟩
    case round =>
      obtain ⟨k, hk, rfl, hR, hB⟩ := hrel
      by_cases hlt : k < 4
      · have hix := HI.out k hlt
        have hsp := Lib.hid (HS.out k hlt)
        have e1 : IntKind.i64.wrap ((k : Int) * 16) = (k : Int) * 16 := IntWalk.i64_in _ (by omega)
        have e2 : IntKind.i64.wrap (24 + (k : Int) * 16) = 24 + (k : Int) * 16 := IntWalk.i64_in _ (by omega)
        have hcut : ∀ W : World, (Instr.slice 31 (.slice (some ⟨bb, off, none⟩) n c) (some (.int .i64 (24 + (k : Int) * 16))) none none).run Try.prog W = .ok (.slice (cutA (some ⟨bb, off, none⟩) c (24 + 16 * k)) (n - (24 + 16 * k)) (c - (24 + 16 * k))) W := fun W => by
          rw [show (24 + (k : Int) * 16) = ((24 + 16 * k : Nat) : Int) by omega]
          exact cut_l _ n c (24 + 16 * k) (by omega) W
        have HCt := Lib.hid (show cutA (some ⟨bb, off, none⟩) c (24 + 16 * k) = some ⟨bb, off + (24 + 16 * k), none⟩ by rw [cutA_some, if_neg (by omega)])
        have HBr := Lib.hid (show Bytes wr (some ⟨bb, off, none⟩) l from (HB.out.below b1.out (Nat.le_refl _)).below hB.out (Nat.le_refl _))
        have HSrc := Lib.hid (show ∀ (j : Nat) (x : Value), (((l.drop (24 + 16 * k)).take 16).map (Value.int .u8))[j]? = some x → wr.cell? ((⟨bb, off + (24 + 16 * k), none⟩ : Addr).add j) = some x from fun j x hj => by
          have hj16 : j < 16 := by have := (List.getElem?_eq_some_iff.1 hj).1; simp at this; omega
          obtain ⟨b9, off9, e9, _, hc9⟩ := HBr.out.2 (24 + 16 * k + j) (by rw [hL]; omega)
          injection e9 with e9
          injection e9 with e9 e10
          subst e9 e10
          rw [add_none, Nat.add_assoc, hc9, ← hj]
          simp [hj16, List.getD_eq_getElem?_getD, List.getElem?_eq_getElem (show 24 + 16 * k + j < l.length by omega)])
        have HLen := Lib.hid (show (((l.drop (24 + 16 * k)).take 16).map (Value.int .u8)).length = 16 by simp; omega)
        go_wp2_with fail
        refine wp_region_still_tail 8 (by kernel_rfl) (by kernel_rfl) ?_
        simp only [List.take_succ_cons, List.take_zero, List.drop_succ_cons, List.drop_zero]
        repeat still_step
        try refine wpStill_nil ?_
        change wpList _ _ _ _ _ wr.drew
        have HW := Lib.hid (show Below w1.heap.size w1 wr.drew from hB.out.drew)
        refine wpList_copy_splice rfl (.tmp 34) (.tmp 39) 31 31 rfl 5 Try.underlying31 size8 (some ⟨w1.heap.size, 3 + 16 * k, none⟩) (cutA (some ⟨bb, off, none⟩) c (24 + 16 * k)) 16 16 (n - (24 + 16 * k)) (c - (24 + 16 * k)) rfl rfl w1.heap.size (3 + 16 * k) ((hdI l k 0).cells 21) 38 hR.out (((l.drop (24 + 16 * k)).take 16).map (Value.int .u8)) (by rw [HLen.out]; show 16 = min _ _; omega) (fun _ => ⟨rfl, _, HCt.out, HSrc.out⟩) (by rw [HLen.out, HD.len]; omega) (fun v hv => by obtain ⟨x, _, rfl⟩ := List.mem_map.1 hv; rfl) w1.heap.size w1 HW.out (Nat.le_refl _) ?_
        intro w5 h5 hb5
        have R5 := Lib.hid (show Blk w5 w1.heap.size ((hdI l (k + 1) 0).cells 21) 38 by rw [← hsp.out]; exact h5.out)
        have B5 := Lib.hid hb5
        clear h5 hb5 e1 e2 hcut
        go_wp2_with fail
        go_roundw
        case rel => exact ⟨k + 1, by omega, by go_num, R5, B5⟩
        case measure => simp [intOf]; omega
      · obtain rfl : k = 4 := by omega
        clear HI HS R3 B3
        rename World => w6
        go_upto_region 8 with (go_at_call 28; ((with_reducible refine (hnums_any _ _).mono ?_); rintro e w7 ⟨rfl, hb7⟩; have R7 := Lib.hid (hR.out.below hb7 hR.out.lt); have B7 := Lib.hid (hB.out.trans (hb7.mono hB.out.size)); clear hb7))
        have HN := Lib.hid fun (j : Nat) (hj : j < 21) => fun (W : World) => nums_index w1.heap.size j hj W
        have HS := Lib.hid fun (j : Nat) (hj : j < 21) => hdI_set l j hj
        have HNum := Lib.hid fun (j : Nat) (hj : j < 21) (W : World) (hW : Bytes W (some ⟨bb, off, none⟩) l) => show Calls Try.prog 45 #[.slice (some ⟨bb, off, none⟩) n c, .int .i64 (88 + (j : Int) * 8), .int .i64 8] W fun e w' => e = .returned (.int .u64 (Ob.u8 l (88 + 8 * j))) ∧ W = w' by
          rw [show (88 + (j : Int) * 8) = ((88 + 8 * j : Nat) : Int) by omega]
          exact number_any _ l n c (88 + 8 * j) 8 W hW hL hn rfl (by omega)
        clear hR hB
        go_loopw [43] (fun i wr => ∃ j : Nat, j ≤ 21 ∧ i = .int .i64 (j : Int) ∧ Hid (Blk wr w1.heap.size ((hdI l 4 j).cells 21) 38) ∧ Hid (Below w1.heap.size w1 wr)) (fun i _ => 21 - (intOf i).toNat)
        case atStart => exact ⟨0, Nat.zero_le _, rfl, R7, B7⟩
        case round =>
          obtain ⟨j, hj, rfl, hR, hB⟩ := hrel
          by_cases hlt : j < 21
          · have hix := HN.out j hlt
            have hst := Lib.hid (HS.out j hlt)
            have HBr := Lib.hid (show Bytes wr (some ⟨bb, off, none⟩) l from (HB.out.below b1.out (Nat.le_refl _)).below hB.out (Nat.le_refl _))
            have HNj := Lib.hid (HNum.out j hlt wr HBr.out)
            have ck := HD.nums_at (h := hdI l 4 j) hR.out j hlt
            have fk := hR.out.frozen (67 + j)
            generalize Ob.u8 l (88 + 8 * j) = x at *
            go_wp2_with (go_at_call 45; ((with_reducible refine HNj.out.mono ?_); rintro e w' ⟨rfl, rfl⟩))
            go_roundw
            case rel => exact ⟨j + 1, by omega, by go_num, Lib.hid (by rw [← hst.out]; exact hR.out.set_ (67 + j) _), Lib.hid (hB.out.setCell (Nat.le_refl _) _)⟩
            case measure => simp [intOf]; omega
          · obtain rfl : j = 21 := by omega
            have R8 := Lib.hid (show Blk wr w1.heap.size ((hdOf l).cells 21) 38 by rw [← hdI_whole]; exact hR.out)
            have Z8 := Lib.hid ((hB.out.block w.heap.size (by rw [s1.out]; exact Nat.lt_succ_self _)).trans Z1.out)
            have B8 := Lib.hid (b1.out.trans (hB.out.mono (by rw [s1.out]; exact Nat.le_succ _)))
            clear HN HS HNum R7 B7 hR hB
            rename World => w9
            go_wp2_with (first
              | ((with_reducible apply at_slot 55); refine wpList_load_row rfl 38 (.tmp 3) rfl w1.heap.size rfl 38 ((hdOf l).cells 21).toArray (0, 0) _ R8.out Try.underlying38 rfl (cells_info _) ?_)
              | ((with_reducible apply at_store (.tmp 2) (.tmp 55)); refine wpList_store_row rfl 38 (.tmp 2) (.tmp 55) rfl w.heap.size ((hdOf l).cells 21).toArray rfl rfl 38 Try.zeroCells38 Z8.out (cells_info _) zeros_size (HD.one _ 21) ?_))
            refine bodyPost_ret (v := .agg ((hdOf l).cells 21).toArray) (by exact results_cell_row Try.results22 _ _ w.heap.size 38 _ (0, 0) _ rfl (setRow_heap _ w.heap.size _ _ _ (0, 0) Z8.out) Try.underlying38 rfl (cells_info _)) rfl ?_
            exact ⟨rfl, below_setRow B8.out (Nat.le_refl _) _⟩
end Go.Proofs.Ytkdbgilnehjpmaa.Gk
/-
  What is amiss with a head.
-/
namespace Go.Proofs.Ytkdbgilnehjpmaa.Gl
open Go.ChangeShapes Go.WideShapes Go.ChangeAt Go.RowKit
open Bytes8 Blk8 Own8 OwnM OwnE LeA LeNum LeB LeP Ob Oc Od Ga Gb Gc Gd Gf Gi Gj
set_option linter.unusedVariables false
set_option linter.unusedSimpArgs false
set_option maxRecDepth 100000
/-- The code of a table's place and size. -/
def tcode (a z from1 en : Int) : Int := if a % 8 ≠ 0 then 3 else if z = 0 ∨ z % 16 ≠ 0 then 5 else if a < from1 + 16 ∨ en < a ∨ en - a < z then 2 else 0
theorem isState_any (s : Int) (w : World) : Calls Try.prog 46 #[.int .i64 s] w fun e w' => e = .returned (.bool (s == 0 || s == 1 || s == 2)) ∧ w = w' := by
  by_cases h0 : s = 0
  · subst h0
    go_enter Try.func46, Try.ntmps46
    go_wp2
    go_ret
    exact ⟨rfl, rfl⟩
  by_cases h1 : s = 1
  · subst h1
    go_enter Try.func46, Try.ntmps46
    go_wp2
    go_ret
    exact ⟨rfl, rfl⟩
  · have d0 : (s == 0) = false := by simp [h0]
    have d1 : (s == 1) = false := by simp [h1]
    go_enter Try.func46, Try.ntmps46
    go_wp2
    go_ret
    exact ⟨ret_bool (by rw [d0, d1]; simp), rfl⟩
attribute [local irreducible] HD.cells wpList Code.wp
set_option maxHeartbeats 2000000 in
theorem tf_any (h : HD) (ok : h.Ok 21) (en a z : Int) (he : 0 ≤ en ∧ en ≤ 18446744073709551615) (ha : 0 ≤ a ∧ a ≤ 18446744073709551615) (hz : 0 ≤ z ∧ z ≤ 18446744073709551615) (hN : h.N 0 ≤ 1000000000) (w : World) :
    Calls Try.prog 47 #[.agg (h.cells 21).toArray, .int .u64 en, .int .u64 a, .int .u64 z] w fun e w' => e = .returned (.int .i64 (tcode a z (h.N 0) en)) ∧ Below w.heap.size w w' := by
  have b0 := Lib.hid ((Below.refl w.heap.size w).alloc (Nat.le_refl _) (.cells (h.cells 21).toArray 38))
  have R0 := (show Blk (w.alloc (.cells (h.cells 21).toArray 38)) w.heap.size (h.cells 21) 38 from Blk.new w _ _)
  have c0 := HD.nums_at R0 0 (by decide)
  have hn0 := (ok.N 0).1
  clear R0
  by_cases h1 : a % 8 = 0
  · by_cases h2 : z = 0
    · rw [show tcode a z (h.N 0) en = 5 by unfold tcode; rw [if_neg (by simpa using h1), if_pos (Or.inl h2)]]
      subst h2
      go_enter Try.func47, Try.ntmps47
      go_wp2
      go_ret
      exact ⟨rfl, b0.out⟩
    have d2 : (z == 0) = false := by simp [h2]
    by_cases h3 : z % 16 = 0
    · by_cases h4 : a < h.N 0 + 16
      · rw [show tcode a z (h.N 0) en = 2 by unfold tcode; rw [if_neg (by simpa using h1), if_neg (by omega), if_pos (Or.inl h4)]]
        go_enter Try.func47, Try.ntmps47
        go_wp2
        go_ret
        exact ⟨rfl, b0.out⟩
      have d4 : decide (a < h.N 0 + 16) = false := by simp; omega
      by_cases h5 : en < a
      · have d5 : decide (en < a) = true := by simp; omega
        rw [show tcode a z (h.N 0) en = 2 by unfold tcode; rw [if_neg (by simpa using h1), if_neg (by omega), if_pos (Or.inr (Or.inl h5))]]
        go_enter Try.func47, Try.ntmps47
        go_wp2
        go_ret
        exact ⟨rfl, b0.out⟩
      have d5 : decide (en < a) = false := by simp; omega
      by_cases h6 : en - a < z
      · have d6 : decide (en - a < z) = true := by simp; omega
        rw [show tcode a z (h.N 0) en = 2 by unfold tcode; rw [if_neg (by simpa using h1), if_neg (by omega), if_pos (Or.inr (Or.inr h6))]]
        go_enter Try.func47, Try.ntmps47
        go_wp2
        go_ret
        exact ⟨rfl, b0.out⟩
      · have d6 : decide (en - a < z) = false := by simp; omega
        rw [show tcode a z (h.N 0) en = 0 by unfold tcode; rw [if_neg (by simpa using h1), if_neg (by omega), if_neg (by omega)]]
        go_enter Try.func47, Try.ntmps47
        go_wp2
        go_ret
        exact ⟨rfl, b0.out⟩
    · have d3 : ¬ z % 16 = 0 := h3
      rw [show tcode a z (h.N 0) en = 5 by unfold tcode; rw [if_neg (by simpa using h1), if_pos (Or.inr h3)]]
      go_enter Try.func47, Try.ntmps47
      go_wp2
      go_ret
      exact ⟨rfl, b0.out⟩
  · rw [show tcode a z (h.N 0) en = 3 by unfold tcode; rw [if_pos h1]]
    go_enter Try.func47, Try.ntmps47
    go_wp2
    go_ret
    exact ⟨rfl, b0.out⟩
end Go.Proofs.Ytkdbgilnehjpmaa.Gl
