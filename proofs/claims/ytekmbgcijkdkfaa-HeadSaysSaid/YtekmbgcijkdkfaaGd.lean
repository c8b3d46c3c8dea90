/-
  What the program's Put lays of a head.
-/
import Derived.Test.YtekmbgcijkdkfaaGc
import Derived.Test.YtekmbgcijkdkfaaSB
import Derived.Lib.SlBytesConst
namespace Go.Proofs.Ytekmbgcijkdkfaa.Gd
open Go.ChangeShapes Go.WideShapes Go.ChangeAt Go.RowKit
open Bytes8 Blk8 Own8 OwnM LeA LeNum LeP Ob Oc Od Ga Gb Gc Ff
set_option linter.unusedVariables false
set_option linter.unusedSimpArgs false
set_option maxRecDepth 100000

theorem index_one {P : Program} (t e : TypeId) (n : Nat) (cs : Array Value) (i : Nat) (v : Value) (w : World) (hu : P.underlying t = some (.array n e)) (d : TypeDesc) (he : P.underlying e = some d) (hd : (match d with | .struct _ | .array _ _ => true | _ => false) = false) (hs : (P.info? e).map (·.size) = some 1) (hi : i < n) (hv : cs[i]? = some v) :
    (Instr.index t (.agg cs) (.int .i64 (i : Int))).run P w = .ok v w := by
  obtain ⟨f, hf, hz⟩ := Option.map_eq_some_iff.1 hs
  have h1 : (0 : Int) ≤ (i : Int) ∧ (i : Int) < (n : Int) := by omega
  have hag : (isAgg e).run P w = .ok false w := by
    unfold isAgg
    rw [Sem.run_bind, run_underlying he w]
    cases d <;> simp_all
  simp [Instr.index, run_underlying hu, asIntOf, h1, sizeOf, typeInfo, hf, hz, hi, part, hag, hv]
theorem ids_index (g k : Nat) (hk : k < 4) (w : World) : (Instr.index 81 (idsV g) (.int .i64 (k : Int))).run Try.prog w = .ok (.pointer (some ⟨g, 3 + 16 * k, none⟩)) w := by
  refine index_one _ 80 4 _ k _ w Try.underlying81 _ Try.underlying80 rfl (by kernel_rfl) hk ?_
  rcases k with _ | _ | _ | _ | k
  all_goals first | rfl | omega
theorem nums_index (g k : Nat) (hk : k < 21) (w : World) : (Instr.index 85 (numsV g) (.int .i64 (k : Int))).run Try.prog w = .ok (.pointer (some ⟨g, 67 + k, none⟩)) w := by
  refine index_one _ 84 21 _ k _ w Try.underlying85 _ Try.underlying84 rfl (by kernel_rfl) hk ?_
  rcases k with _ | _ | _ | _ | _ | _ | _ | _ | _ | _ | _ | _ | _ | _ | _ | _ | _ | _ | _ | _ | _ | k
  all_goals first | rfl | omega
theorem add_n (k : Nat) (hk : isW k = true) (a : Option Addr) (l : List Int) (n cap : Nat) (v : Int) (w : World) (hL : l.length = n) (hl : n ≤ 1000000) (hb : Bytes w a l) :
    Calls Try.prog 36 #[.slice a n cap, .int .i64 k, .int .u64 v] w fun e w' => ∃ g c, e = .returned (.slice (some ⟨g, 0, none⟩) (n + k) c) ∧ w.heap.size ≤ g ∧ c = n + k ∧ Row w' g (l ++ lowB v k) ∧ Below w.heap.size w w' := by
  subst hL
  exact (add_yes a l cap k v w hl hk hb).mono fun e w' ⟨h1, h2, h3⟩ => ⟨w.heap.size, _, h1, Nat.le_refl _, rfl, h2, h3⟩
theorem add_4 (a : Option Addr) (l : List Int) (n cap : Nat) (v : Int) (w : World) (hL : l.length = n) (hl : n ≤ 1000000) (hb : Bytes w a l) :
    Calls Try.prog 36 #[.slice a n cap, .int .i64 4, .int .u64 v] w fun e w' => ∃ g c, e = .returned (.slice (some ⟨g, 0, none⟩) (n + 4) c) ∧ w.heap.size ≤ g ∧ c = n + 4 ∧ Row w' g (l ++ lowB v 4) ∧ Below w.heap.size w w' := add_n 4 rfl a l n cap v w hL hl hb
theorem add_8 (a : Option Addr) (l : List Int) (n cap : Nat) (v : Int) (w : World) (hL : l.length = n) (hl : n ≤ 1000000) (hb : Bytes w a l) :
    Calls Try.prog 36 #[.slice a n cap, .int .i64 8, .int .u64 v] w fun e w' => ∃ g c, e = .returned (.slice (some ⟨g, 0, none⟩) (n + 8) c) ∧ w.heap.size ≤ g ∧ c = n + 8 ∧ Row w' g (l ++ lowB v 8) ∧ Below w.heap.size w w' := add_n 8 rfl a l n cap v w hL hl hb
attribute [local irreducible] HD.cells wpList Code.wp
set_option maxHeartbeats 2000000 in
theorem hput_any (h : HD) (ok : h.Ok 21) (w : World) :
    Calls Try.prog 19 #[.agg (h.cells 21).toArray] w (Owned (h.bytes 21) 272 w) := by
  have b0 := Lib.hid ((Below.refl w.heap.size w).alloc (Nat.le_refl _) (.cells (h.cells 21).toArray 40))
  have R0 := Lib.hid (show Blk (w.alloc (.cells (h.cells 21).toArray 40)) w.heap.size (h.cells 21) 40 from Blk.new w _ _)
  have S0 := Lib.hid (show (w.alloc (.cells (h.cells 21).toArray 40)).heap.size = w.heap.size + 1 by simp)
  go_enter Try.func19, Try.ntmps19
  go_upto_region 1 with fail
  generalize w.alloc (.cells (h.cells 21).toArray 40) = w0 at *
  have kc := fun (w : World) (C : Array Value) (n c : Nat) => Lib.run_convert_bytes_const (P := Try.prog) w 35 5 C n c Try.underlying35 Try.underlying5
  have M1 := Lib.hid (show Bytes (w0.alloc (.cells #[.int .u8 76, .int .u8 80, .int .u8 75, .int .u8 83, .int .u8 72, .int .u8 72, .int .u8 82, .int .u8 72] 5 (8, 9))) (some ⟨w0.heap.size, 0, none⟩) magicL from const_bytes magicL magic_all w0 (8, 9))
  have a1 := Lib.hid ((Below.refl w0.heap.size w0).alloc (Nat.le_refl _) (.cells #[.int .u8 76, .int .u8 80, .int .u8 75, .int .u8 83, .int .u8 72, .int .u8 72, .int .u8 82, .int .u8 72] 5 (8, 9)))
  have R1 := Lib.hid (R0.out.below a1.out R0.out.lt)
  have HL := Lib.hid R0.out.lt
  have H4 := Lib.hid fun (A : Option Addr) (l : List Int) (n c : Nat) (v : Int) (W : World) (hb : Bytes W A l) (hl : l.length = n) (hn : n ≤ 1000) => add_4 A l n c v W hl (by omega) hb
  have c0 : (w0.alloc (.cells #[.int .u8 76, .int .u8 80, .int .u8 75, .int .u8 83, .int .u8 72, .int .u8 72, .int .u8 82, .int .u8 72] 5 (8, 9))).cell? ⟨w.heap.size, 0, none⟩ = some (.int .u32 h.cp) := R1.out.cell (h.get 21 0 (by decide))
  have hcp := ok.cp
  have L1 := Lib.hid (show magicL.length = 8 from rfl)
  have L2 := Lib.hid (show (magicL ++ lowB h.cp 4).length = 12 by simp [lowB_len, magicL])
  have L3 := Lib.hid (show (magicL ++ lowB h.cp 4 ++ lowB h.ic 4).length = 16 by simp [lowB_len, magicL])
  go_upto_region 2 with (go_at_call 36; ((with_reducible refine (H4.out _ _ _ _ _ _ M1.out L1.out (by decide)).mono ?_); rintro e w2 ⟨g2, c2, rfl, hg2, hc2, hr2, hb2⟩; have r2 := Lib.hid hr2; have B2 := Lib.hid (a1.out.trans (hb2.mono a1.out.size)); have G2 := Lib.hid hg2; have C2 := Lib.hid hc2; clear hg2 hc2 hr2 hb2))
  have A2 := Lib.hid (show AllB (magicL ++ lowB h.cp 4) from magic_all.app (lowB_all _ _))
  have hic := ok.ic
  have R2 := Lib.hid (R0.out.below B2.out HL.out)
  have c1 : w2.cell? ⟨w.heap.size, 1, none⟩ = some (.int .u32 h.ic) := R2.out.cell (h.get 21 1 (by decide))
  clear c0 kc
  go_upto_region 3 with (go_at_call 36; ((with_reducible refine (H4.out _ _ _ _ _ _ (r2.out.bytes A2.out) L2.out (by decide)).mono ?_); rintro e w3 ⟨g3, c3, rfl, hg3, hc3, hr3, hb3⟩; have r3 := Lib.hid hr3; have B3 := Lib.hid (B2.out.trans (hb3.mono B2.out.size)); have G3 := Lib.hid hg3; clear hg3 hc3 hr3 hb3))
  have A3 := Lib.hid (show AllB (magicL ++ lowB h.cp 4 ++ lowB h.ic 4) from A2.out.app (lowB_all _ _))
  have R3 := Lib.hid (R0.out.below B3.out HL.out)
  have H8 := Lib.hid fun (A : Option Addr) (l : List Int) (n c : Nat) (v : Int) (W : World) (hb : Bytes W A l) (hl : l.length = n) (hn : n ≤ 1000) => add_8 A l n c v W hl (by omega) hb
  have c2' : w3.cell? ⟨w.heap.size, 2, none⟩ = some (.int .i64 h.st) := R3.out.cell (h.get 21 2 (by decide))
  have hst : IntKind.u8.wrap h.st = h.st % 256 := by simp [IntKind.wrap, IntKind.signed, IntKind.bits]
  have hs2 : IntKind.u64.wrap (h.st % 256) = h.st % 256 := by rw [IntKind.wrap_u64]; omega
  clear c1
  go_upto_region 4 with (go_at_call 36; ((with_reducible refine (H8.out _ _ _ _ _ _ (r3.out.bytes A3.out) L3.out (by decide)).mono ?_); rintro e w4 ⟨g4, c4, rfl, hg4, rfl, hr4, hb4⟩; have r4 := Lib.hid hr4; have B4 := Lib.hid (B3.out.trans (hb4.mono B3.out.size)); have G4 := Lib.hid (Nat.le_trans B3.out.size hg4); clear hg4 hr4 hb4))
  have HF := Lib.hid (show magicL ++ lowB h.cp 4 ++ lowB h.ic 4 ++ lowB (h.st % 256) 8 = h.front from rfl)
  rw [HF.out] at r4
  have O4 := Lib.hid (own_row r4.out h.front_all G4.out h.front_len (by decide))
  clear c2' hst hs2 hcp hic r2 r3 A2 A3 L1 L2 L3 HF R2 R3 B2 B3 M1 a1 R1 r4 G2 G3 G4 C2
  go_upto_region 5 with (go_at_call 37; ((with_reducible refine (ids_any _ _).mono ?_); rintro e w5 ⟨rfl, hb5⟩; have B5 := Lib.hid (B4.out.trans (hb5.mono B4.out.size)); have O5 := Lib.hid (O4.out.kept hb5 (Nat.le_refl _)); clear hb5))
  have HI := Lib.hid fun (k : Nat) (hk : k < 4) => fun (W : World) => ids_index w.heap.size k hk W
  have HS := Lib.hid h.ids_succ
  clear O4
  go_loopw [3, 26] (fun z i wr => ∃ (k : Nat) (A : Option Addr) (c : Nat), k ≤ 4 ∧ z = .slice A (24 + 16 * k) c ∧ i = .int .i64 (k : Int) ∧ Hid (Own wr w0.heap.size A (24 + 16 * k) c (h.front ++ h.ids k)) ∧ Hid (Below w0.heap.size w0 wr)) (fun _ i _ => 4 - (intOf i).toNat)
  case atStart => exact ⟨0, some ⟨g4, 0, none⟩, 24, Nat.zero_le _, rfl, rfl, by rw [show h.ids 0 = [] from rfl, List.append_nil]; exact O5, B5⟩
  case round =>
    obtain ⟨k, A, c, hk, rfl, rfl, ho, hb⟩ := hrel
    by_cases hlt : k < 4
    · have hix := HI.out k hlt
      have Rk := Lib.hid (R0.out.below hb.out HL.out)
      have Hid16 := Lib.hid (HD.id_at Rk.out ok k hlt)
      have HSk := Lib.hid (HS.out k)
      go_wp2_with (at_builtin; refine wpList_append_bytes rfl (.tmp 29) (.tmp 32) rfl w0.heap.size A (24 + 16 * k) c _ rfl ho.out (some ⟨w.heap.size, 3 + 16 * k, none⟩) 16 16 (h.id k) rfl Hid16.out (h.id_len k) (by omega) ?_; intro A2 c2 w6 ho6 hb6; have O6 := Lib.hid ho6; have B6 := Lib.hid (hb.out.trans hb6); clear ho6 hb6)
      go_roundw
      case rel => exact ⟨k + 1, A2, c2, by omega, by rw [show 24 + 16 * (k + 1) = 24 + 16 * k + 16 by omega], by go_num, by rw [HSk.out, ← List.append_assoc, show 24 + 16 * (k + 1) = 24 + 16 * k + 16 by omega]; exact O6, B6⟩
      case measure => simp [intOf]; omega
    · obtain rfl : k = 4 := by omega
      clear HI HS O5 B5 B4
      have O7 := Lib.hid (show Own wr w0.heap.size A 88 c (h.front ++ h.ids 4) from ho.out)
      clear ho
      rename World => w7
      go_upto_region 10 with (go_at_call 38; ((with_reducible refine (hnums_any _ _).mono ?_); rintro e w8 ⟨rfl, hb8⟩; have B8 := Lib.hid (hb.out.trans (hb8.mono hb.out.size)); have O8 := Lib.hid (O7.out.kept hb8 (Nat.le_refl _)); clear hb8))
      have HN := Lib.hid fun (k : Nat) (hk : k < 21) => fun (W : World) => nums_index w.heap.size k hk W
      have HSn := Lib.hid fun k => show Ob.nums (h.nums (k + 1)) = Ob.nums (h.nums k) ++ lowB (h.N k) 8 by rw [h.nums_succ, nums_snoc]
      have HLn := Lib.hid fun k => show (h.front ++ h.ids 4 ++ Ob.nums (h.nums k)).length = 88 + 8 * k by simp only [List.length_append, HD.front_len, HD.ids_len, Ob.nums_len, HD.nums_len]
      have HA0 := Lib.hid (show AllB (h.front ++ h.ids 4) from O8.out.1)
      have S8 := Lib.hid (show 0 ≤ w0.heap.size from Nat.zero_le _)
      clear O7 hb
      go_loopw [3, 36] (fun z i wr => ∃ (k : Nat) (A : Option Addr) (c : Nat), k ≤ 21 ∧ z = .slice A (88 + 8 * k) c ∧ i = .int .i64 (k : Int) ∧ Hid (Own wr w0.heap.size A (88 + 8 * k) c (h.front ++ h.ids 4 ++ Ob.nums (h.nums k))) ∧ Hid (Below w0.heap.size w0 wr)) (fun _ i _ => 21 - (intOf i).toNat)
      case atStart => exact ⟨0, A, c, Nat.zero_le _, rfl, rfl, by rw [show Ob.nums (h.nums 0) = [] from rfl, List.append_nil]; exact O8, B8⟩
      case round =>
        obtain ⟨k, A', c', hk, rfl, rfl, ho, hb⟩ := hrel
        by_cases hlt : k < 21
        · have hix := HN.out k hlt
          have ck := HD.nums_at (R0.out.below hb.out HL.out) k hlt
          have Hln := Lib.hid (HLn.out k)
          have Hsn := Lib.hid (HSn.out k)
          have hk88 : 88 + 8 * k ≤ 1000 := by omega
          have hsz := hb.out.size
          go_wp2_with (go_at_call 36; ((with_reducible refine (H8.out _ _ _ _ _ _ ho.out.bytes Hln.out hk88).mono ?_); rintro e w9 ⟨g9, c9, rfl, hg9, rfl, hr9, hb9⟩; have r9 := Lib.hid hr9; have B9 := Lib.hid (hb.out.trans (hb9.mono hb.out.size)); have G9 := Lib.hid (Nat.le_trans hb.out.size hg9); clear hg9 hr9 hb9))
          go_roundw
          case rel => exact ⟨k + 1, some ⟨g9, 0, none⟩, 88 + 8 * k + 8, by omega, by rw [show 88 + 8 * (k + 1) = 88 + 8 * k + 8 by omega], by go_num, by rw [Hsn.out, ← List.append_assoc, show 88 + 8 * (k + 1) = 88 + 8 * k + 8 by omega]; exact Lib.hid (own_row r9.out (ho.out.1.app (lowB_all _ _)) G9.out (by rw [List.length_append, Hln.out, lowB_len]) (by unfold maxLen; omega)), B9⟩
          case measure => simp [intOf]; omega
        · obtain rfl : k = 21 := by omega
          have E0 := Lib.hid (show AllB (h.front ++ h.ids 4 ++ Ob.nums (h.nums 21)) from ho.out.1)
          have E1 := Lib.hid (show AllB (h.front ++ h.ids 4 ++ Ob.nums (h.nums 21) ++ lowB h.ta 4) from E0.out.app (lowB_all _ _))
          have E2 := Lib.hid (show AllB (h.front ++ h.ids 4 ++ Ob.nums (h.nums 21) ++ lowB h.ta 4 ++ lowB h.ti 4) from E1.out.app (lowB_all _ _))
          have D0 := Lib.hid (show (h.front ++ h.ids 4 ++ Ob.nums (h.nums 21)).length = 256 from HLn.out 21)
          have D1 := Lib.hid (show (h.front ++ h.ids 4 ++ Ob.nums (h.nums 21) ++ lowB h.ta 4).length = 260 by rw [List.length_append, D0.out, lowB_len])
          have D2 := Lib.hid (show (h.front ++ h.ids 4 ++ Ob.nums (h.nums 21) ++ lowB h.ta 4 ++ lowB h.ti 4).length = 264 by rw [List.length_append, D1.out, lowB_len])
          have O9 := Lib.hid (show Own wr w0.heap.size A' 256 c' (h.front ++ h.ids 4 ++ Ob.nums (h.nums 21)) from ho.out)
          have Ra := Lib.hid (R0.out.below hb.out HL.out)
          have ca : wr.cell? ⟨w.heap.size, 88, none⟩ = some (.int .u32 h.ta) := Ra.out.cell (h.get_ta 21)
          have hta := ok.ta
          clear HN HSn HLn HA0 O8 B8 ho
          rename World => wA
          have hszA := Lib.hid hb.out.size
          go_upto_region 15 with (go_at_call 36; ((with_reducible refine (H4.out _ _ _ _ _ _ O9.out.bytes D0.out (by decide)).mono ?_); rintro e wB ⟨gB, cB, rfl, hgB, hcB, hrB, hbB⟩; have rB := Lib.hid hrB; have BB := Lib.hid (hb.out.trans (hbB.mono hb.out.size)); clear hgB hcB hrB hbB))
          have Rb := Lib.hid (R0.out.below BB.out HL.out)
          have cb' : wB.cell? ⟨w.heap.size, 89, none⟩ = some (.int .u32 h.ti) := Rb.out.cell (h.get_ti 21)
          have hti := ok.ti
          clear ca
          go_upto_region 16 with (go_at_call 36; ((with_reducible refine (H4.out _ _ _ _ _ _ (rB.out.bytes E1.out) D1.out (by decide)).mono ?_); rintro e wC ⟨gC, cC, rfl, hgC, hcC, hrC, hbC⟩; have rC := Lib.hid hrC; have BC := Lib.hid (BB.out.trans (hbC.mono BB.out.size)); clear hgC hcC hrC hbC))
          have Rc := Lib.hid (R0.out.below BC.out HL.out)
          have cc' : wC.cell? ⟨w.heap.size, 90, none⟩ = some (.int .u64 h.te) := Rc.out.cell (h.get_te 21)
          clear cb'
          go_wp2_with (go_at_call 36; ((with_reducible refine (H8.out _ _ _ _ _ _ (rC.out.bytes E2.out) D2.out (by decide)).mono ?_); rintro e wD ⟨gD, cD, rfl, hgD, rfl, hrD, hbD⟩; have rD := Lib.hid hrD; have BD := Lib.hid (BC.out.trans (hbD.mono BC.out.size)); have GD := Lib.hid (Nat.le_trans BC.out.size hgD); clear hgD hrD hbD))
          go_ret
          exact ⟨some ⟨gD, 0, none⟩, 272, rfl, own_row rD.out (E2.out.app (lowB_all _ _)) (Nat.le_trans (by rw [S0.out]; exact Nat.le_succ _) GD.out) (HD.bytes_len h 21) (by decide), b0.out.trans (BD.out.mono (by rw [S0.out]; exact Nat.le_succ _))⟩
end Go.Proofs.Ytekmbgcijkdkfaa.Gd
