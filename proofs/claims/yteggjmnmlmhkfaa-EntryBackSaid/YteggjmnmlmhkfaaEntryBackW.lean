/-
  The walk of EntryBack.
-/
import Derived.Test.YteggjmnmlmhkfaaYs
import Derived.Test.YteggjmnmlmhkfaaYqa
import Derived.Test.YteggjmnmlmhkfaaYz
import Derived.Test.YteggjmnmlmhkfaaYb
import Derived.Test.YteggjmnmlmhkfaaNumb
import Derived.Test.YteggjmnmlmhkfaaYt
namespace Go.Proofs.Yteggjmnmlmhkfaa.EntryBackW
open Go.ChangeShapes Go.WideShapes Go.ChangeAt Go.RowKit
open Bytes8 Blk8 Own8 OwnM OwnE OwnA Rows2 Ob Od Yc Yp Yd Yg Yh Yj Yi Yz Yq Ys Yb Numb Dc
open Yt (lit_own two_news two_one bad_two)
set_option linter.unusedVariables false
set_option linter.unusedSimpArgs false
set_option maxRecDepth 100000

theorem itemElt : Elt 56 27 2 16 (.agg #[.int .u64 0, .int .u64 0]) := ⟨Try.underlying27, by kernel_rfl, rfl, by decide⟩
def hxF (xo : Int) (i : Nat) : Int := IntKind.u64.wrap (xo + (i : Int))
theorem hxF_bd (xo : Int) (i : Nat) : U64 (hxF xo i) := by unfold hxF; rw [IntKind.wrap_u64]; exact ⟨by omega, by omega⟩
theorem pA_wd (d : Nat → Nat) (hd : ∀ i, d i < 90) (n : Nat) (hn : n ≤ 1000) : Wd (pA d) n := fun i hi => by
  have := plc_le d hd (i + 1)
  unfold pA
  omega

attribute [local go_sem ↓] st_fold
set_option maxHeartbeats 16000000 in
theorem walk_main (sq xo : Int) (K : Nat → Int) (A : Option Addr) (n cap : Nat) (zf : Nat → Int) (at1 : Int) (w : World) (hs : U64 sq) (hx : U64 xo) (hK : IdOk K) (hi : InInts .i64 w A n zf) (hn : n ≤ 30) (h0 : 0 < n) :
    Calls Try.prog 5 #[.int .u64 sq, .int .u64 xo, idV K, .slice A n cap, .int .i64 at1] w fun e w' => e = .returned (.bool true) ∧ Below w.heap.size w w' := by
  obtain ⟨d, hd, hd2⟩ : ∃ d : Nat → Nat, (∀ i, d i < 90) ∧ ∀ i, numBelow (zf i) 90 = (d i : Int) := ⟨fun i => (numBelow (zf i) 90).toNat, fun i => by have h1 := numBelow_lo (zf i) 90 (by decide); have h2 := numBelow_hi (zf i) 90 (by decide); show (numBelow (zf i) 90).toNat < 90; omega, fun i => by have h1 := numBelow_lo (zf i) 90 (by decide); show _ = ((numBelow (zf i) 90).toNat : Int); omega⟩
  have d1 : decide ((30 : Int) < (n : Int)) = false := by simp; omega
  have d2 : ((n : Int) == 0) = false := by simp; omega
  have d3 : ¬ (30 : Int) < (n : Int) := by omega
  have P0 := Lib.hid (show Blk (w.alloc (idC 26 K)) w.heap.size (k16 K) 26 from Blk.new w (k16 K) _)
  have B0 := Lib.hid ((Below.refl w.heap.size w).alloc (Nat.le_refl _) (idC 26 K))
  have HI := Lib.hid hi
  have HD := Lib.hid hd
  have HD2 := Lib.hid hd2
  clear hi hd hd2
  go_enter Try.func5, Try.ntmps5
  go_upto_region 7 with (first
    | (go_at_call 8; (with_reducible refine (first_any _).mono ?_); rintro e w1 ⟨rfl, hb1⟩; have B1 := Lib.hid (B0.out.trans (hb1.mono B0.out.size)); have P1 := Lib.hid (P0.out.below hb1 P0.out.lt); clear hb1)
    | (refine wpList_load_mid rfl 26 (.tmp 7) rfl w.heap.size 0 rfl [.int .u8 (K 0), .int .u8 (K 1), .int .u8 (K 2), .int .u8 (K 3), .int .u8 (K 4), .int .u8 (K 5), .int .u8 (K 6), .int .u8 (K 7), .int .u8 (K 8), .int .u8 (K 9), .int .u8 (K 10), .int .u8 (K 11), .int .u8 (K 12), .int .u8 (K 13), .int .u8 (K 14), .int .u8 (K 15)] _ (fun j v hj => by rw [Nat.zero_add]; exact P1.out.cell hj) Try.underlying26 rfl idInfo ?_)
    | (refine wpList_build_as rfl 29 _ rfl #[.int .u64 sq, .int .u64 xo, .int .u64 sq, .int .u8 (K 0), .int .u8 (K 1), .int .u8 (K 2), .int .u8 (K 3), .int .u8 (K 4), .int .u8 (K 5), .int .u8 (K 6), .int .u8 (K 7), .int .u8 (K 8), .int .u8 (K 9), .int .u8 (K 10), .int .u8 (K 11), .int .u8 (K 12), .int .u8 (K 13), .int .u8 (K 14), .int .u8 (K 15), .int .u64 xo, .slice none 0 0] (by kernel_rfl) ?_)
    | (refine wpList_store_row rfl 29 (.tmp 12) (.tmp 40) rfl w1.heap.size #[.int .u64 sq, .int .u64 xo, .int .u64 sq, .int .u8 (K 0), .int .u8 (K 1), .int .u8 (K 2), .int .u8 (K 3), .int .u8 (K 4), .int .u8 (K 5), .int .u8 (K 6), .int .u8 (K 7), .int .u8 (K 8), .int .u8 (K 9), .int .u8 (K 10), .int .u8 (K 11), .int .u8 (K 12), .int .u8 (K 13), .int .u8 (K 14), .int .u8 (K 15), .int .u64 xo, .slice none 0 0] rfl rfl 29 zL.toArray (Blk.new w1 zL 29) entInfo rfl (ent_one _ _ _ _ _ _ _ _) ?_))
  have X1 := Lib.hid (show Blk ((w1.alloc (zC 29)).setRow w1.heap.size #[.int .u64 sq, .int .u64 xo, .int .u64 sq, .int .u8 (K 0), .int .u8 (K 1), .int .u8 (K 2), .int .u8 (K 3), .int .u8 (K 4), .int .u8 (K 5), .int .u8 (K 6), .int .u8 (K 7), .int .u8 (K 8), .int .u8 (K 9), .int .u8 (K 10), .int .u8 (K 11), .int .u8 (K 12), .int .u8 (K 13), .int .u8 (K 14), .int .u8 (K 15), .int .u64 xo, .slice none 0 0]) w1.heap.size (entL sq xo sq K xo none 0 0) 29 from Blk.setRow (show Blk (w1.alloc (zC 29)) w1.heap.size zL 29 from Blk.new w1 zL _) (entL sq xo sq K xo none 0 0))
  have Y1 := Lib.hid (show Below w1.heap.size w1 ((w1.alloc (zC 29)).setRow w1.heap.size #[.int .u64 sq, .int .u64 xo, .int .u64 sq, .int .u8 (K 0), .int .u8 (K 1), .int .u8 (K 2), .int .u8 (K 3), .int .u8 (K 4), .int .u8 (K 5), .int .u8 (K 6), .int .u8 (K 7), .int .u8 (K 8), .int .u8 (K 9), .int .u8 (K 10), .int .u8 (K 11), .int .u8 (K 12), .int .u8 (K 13), .int .u8 (K 14), .int .u8 (K 15), .int .u64 xo, .slice none 0 0]) from setRow_keepB ((Below.refl w1.heap.size w1).alloc (Nat.le_refl _) _) (Nat.le_refl _) _)
  have P2 := Lib.hid (P1.out.below Y1.out P1.out.lt)
  have L1 := Lib.hid P1.out.lt
  have S1 := Lib.hid B1.out.size
  generalize (w1.alloc (zC 29)).setRow w1.heap.size #[.int .u64 sq, .int .u64 xo, .int .u64 sq, .int .u8 (K 0), .int .u8 (K 1), .int .u8 (K 2), .int .u8 (K 3), .int .u8 (K 4), .int .u8 (K 5), .int .u8 (K 6), .int .u8 (K 7), .int .u8 (K 8), .int .u8 (K 9), .int .u8 (K 10), .int .u8 (K 11), .int .u8 (K 12), .int .u8 (K 13), .int .u8 (K 14), .int .u8 (K 15), .int .u64 xo, .slice none 0 0] = v1 at *
  go_wp2_with fail
  go_loopw [13, 14] (fun p i wr => ∃ (k : Nat) (A' : Option Addr) (c' : Nat), k ≤ n ∧ p = .int .u64 ((plc d k : Nat) : Int) ∧ i = .int .i64 (k : Int) ∧ Hid (Blk wr w1.heap.size (entL sq xo sq K xo A' k c') 29) ∧ Hid (OwnE 56 2 wr (w1.heap.size + 1) A' k c' (two (pA d) (hxF xo) k)) ∧ Hid (Below w1.heap.size w1 wr)) (fun _ i _ => n - (intOf i).toNat)
  case atStart => exact ⟨0, none, 0, Nat.zero_le _, rfl, rfl, X1, OwnE.nil _ _ (Nat.succ_le_of_lt X1.out.lt), Y1⟩
  case round =>
    obtain ⟨k, A', c', hk, rfl, rfl, he, ho, hb⟩ := hrel
    have Bw := Lib.hid (B1.out.trans (hb.out.mono S1.out))
    by_cases hlt : k < n
    · obtain ⟨b, off, rfl, hbl, hc, _⟩ := (HI.out.below Bw.out) k hlt
      have hdk := HD.out k
      have hpl := plc_le d HD.out k
      have HNm := Lib.hid fun (W : World) => number_nat (zf k) 90 (d k) W (by decide) (by decide) (HD2.out k)
      have e20 := he.out.cell (i := 20) rfl
      have HV := Lib.hid (two_succ (pA d) (hxF xo) k)
      have HpA := Lib.hid (show pA d k = ((plc d k : Nat) : Int) + 1 + (d k : Int) by unfold pA; show ((plc d k + 1 + d k : Nat) : Int) = _; omega)
      have HhF := Lib.hid (show hxF xo k = IntKind.u64.wrap (xo + (k : Int)) from rfl)
      have HpS := Lib.hid (show ((plc d (k + 1) : Nat) : Int) = ((plc d k : Nat) : Int) + 1 + (d k : Int) by show ((plc d k + 1 + d k : Nat) : Int) = _; omega)
      have hsz : w1.heap.size + 1 ≤ wr.heap.size := Nat.succ_le_of_lt he.out.lt
      generalize zf k = Z at *
      generalize plc d k = pk at *
      generalize d k = dk at *
      go_wp2_with (first
        | (go_at_call 25; (with_reducible refine (HNm.out _).mono ?_); rintro e w' ⟨rfl, rfl⟩)
        | (at_builtin; refine wpList_append_elt itemElt rfl (.tmp 57) (.tmp 64) rfl (w1.heap.size + 1) A' k c' _ rfl (ho.out.alloc _) ⟨wr.heap.size, 0, none⟩ 1 1 [.int .u64 ((pk : Int) + 1 + (dk : Int)), .int .u64 (IntKind.u64.wrap (xo + (k : Int)))] rfl rfl (Blk.news (Blk.new wr [.int .u64 ((pk : Int) + 1 + (dk : Int)), .int .u64 (IntKind.u64.wrap (xo + (k : Int)))] 56)) (by intro u hu; simp at hu; rcases hu with rfl | rfl <;> rfl) (by omega) (by omega) ?_; intro A2 c2 w4 ho4 hb4; rw [← HpA.out, ← HhF.out, ← HV.out] at ho4; have HO4 := Lib.hid ho4; have hb5 := Below.trans (((Below.refl wr.heap.size wr).alloc (Nat.le_refl _) (.cells #[.int .u64 ((pk : Int) + 1 + (dk : Int)), .int .u64 (IntKind.u64.wrap (xo + (k : Int)))] 56)).mono hsz) hb4; have HB4 := Lib.hid (hb.out.trans (hb5.mono (Nat.le_succ _))); have E4 := Lib.hid (he.out.below hb5 (Nat.lt_succ_self _)); have x20 := E4.out.cell (i := 20) rfl; have y20 := E4.out.frozen 20; clear ho4 hb4 hb5))
      go_roundw
      case rel => exact ⟨k + 1, A2, c2, by omega, by rw [HpS.out], by go_num, Lib.hid (E4.out.set_ 20 _), Lib.hid (Yz.OwnE.farE HO4.out (by simp) _), Lib.hid (HB4.out.setCell (Nat.le_refl _) _)⟩
      case measure => simp [intOf]; omega
    · obtain rfl : k = n := by omega
      have HWp := Lib.hid (pA_wd d HD.out k (by omega))
      have HWh := Lib.hid (show Wd (hxF xo) k from fun i _ => hxF_bd xo i)
      have HT := Lib.hid (own_in2 ho.out HWp.out HWh.out)
      have PA := Lib.hid (P1.out.below hb.out P1.out.lt)
      rename World => vA
      have HPut := Lib.hid fun (W : World) (h : Below vA.heap.size vA W) => put_any sq xo sq K xo A' k c' (pA d) (hxF xo) W (HT.out.keep h) (by omega) hK hs hx hs hx
      have HLe := Lib.hid he.out.lt
      unfold Owned at HPut
      by_cases hsq : sq = 0
      · clear ho P0 P1 P2 X1 Y1 B0 HI HD HD2 d1 d2 d3 B1
        as_aux_lemma =>
        have HRd := Lib.hid fun (W : World) (base : Nat) (B : Option Addr) (c : Nat) (ho : Own W base B (eS k) c (eL sq xo sq K xo (pA d) (hxF xo) k)) => back_code sq xo sq K xo (pA d) (hxF xo) k 13 (by omega) (by rw [ent_code sq xo sq K xo (pA d) (hxF xo) k hs hx hs hx HWp.out HWh.out h0 (by omega), if_pos hsq]) (by decide) W base B c ho
        subst hsq
        go_wp2_with (first
          | (refine wpList_load_row rfl 29 (.tmp 12) rfl w1.heap.size rfl 29 #[.int .u64 0, .int .u64 xo, .int .u64 0, .int .u8 (K 0), .int .u8 (K 1), .int .u8 (K 2), .int .u8 (K 3), .int .u8 (K 4), .int .u8 (K 5), .int .u8 (K 6), .int .u8 (K 7), .int .u8 (K 8), .int .u8 (K 9), .int .u8 (K 10), .int .u8 (K 11), .int .u8 (K 12), .int .u8 (K 13), .int .u8 (K 14), .int .u8 (K 15), .int .u64 xo, .slice A' k c'] (0, 0) _ he.out Try.underlying29 rfl entInfo ?_)
          | (go_at_call 19; (with_reducible refine (HPut.out vA (Below.refl _ _)).mono ?_); rintro e w2 ⟨A2, c2, rfl, ho2, hb2⟩; have O2 := Lib.hid ho2; have B2 := Lib.hid (Bw.out.trans (hb2.mono Bw.out.size)); clear ho2 hb2)
          | (go_at_call 9; (with_reducible refine (HRd.out w2 _ A2 c2 O2.out).mono ?_); rintro e w3 ⟨A3, c3, rfl, hb3⟩; have B3 := Lib.hid (B2.out.trans (hb3.mono B2.out.size)); have hst := store_new0 w3 0 0 0 0 A3 0 c3; clear hb3))
        go_ret
        exact ⟨rfl, setRow_keepB (B3.out.alloc B3.out.size _) B3.out.size _⟩
      · clear P0 P1 P2 X1 Y1 B0 d1 d2 d3 B1 HI HD2
        have q1 : decide (0 < sq) = true := by simp; have := hs.1; omega
        have q2 : (sq == 0) = false := by simp [hsq]
        have HRd := Lib.hid fun (W : World) (base : Nat) (B : Option Addr) (c : Nat) (ho : Own W base B (eS k) c (eL sq xo sq K xo (pA d) (hxF xo) k)) => back_read sq xo sq K xo (pA d) (hxF xo) k hs hx hs hx HWp.out HWh.out h0 (by omega) hsq (pA_ris d k) W base B c ho
        go_upto_region 18 with (first
          | (refine wpList_load_row rfl 29 (.tmp 12) rfl w1.heap.size rfl 29 #[.int .u64 sq, .int .u64 xo, .int .u64 sq, .int .u8 (K 0), .int .u8 (K 1), .int .u8 (K 2), .int .u8 (K 3), .int .u8 (K 4), .int .u8 (K 5), .int .u8 (K 6), .int .u8 (K 7), .int .u8 (K 8), .int .u8 (K 9), .int .u8 (K 10), .int .u8 (K 11), .int .u8 (K 12), .int .u8 (K 13), .int .u8 (K 14), .int .u8 (K 15), .int .u64 xo, .slice A' k c'] (0, 0) _ he.out Try.underlying29 rfl entInfo ?_)
          | (go_at_call 19; (with_reducible refine (HPut.out vA (Below.refl _ _)).mono ?_); rintro e w2 ⟨A2, c2, rfl, ho2, hb2⟩; have O2 := Lib.hid ho2; have B2 := Lib.hid hb2; clear ho2 hb2)
          | (go_at_call 9; (with_reducible refine (HRd.out w2 _ A2 c2 O2.out).mono ?_); rintro e w3 ⟨A3, c3, rfl, hb3, ht3⟩; have T3 := Lib.hid ht3; have B3 := Lib.hid (B2.out.trans (hb3.mono B2.out.size)); have hst := store_newK w3 sq xo sq xo K A3 k c3; clear hb3 ht3))
        have V4 := Lib.hid (show Below vA.heap.size vA ((w3.alloc (zC 29)).setRow w3.heap.size #[.int .u64 sq, .int .u64 xo, .int .u64 sq, .int .u8 (K 0), .int .u8 (K 1), .int .u8 (K 2), .int .u8 (K 3), .int .u8 (K 4), .int .u8 (K 5), .int .u8 (K 6), .int .u8 (K 7), .int .u8 (K 8), .int .u8 (K 9), .int .u8 (K 10), .int .u8 (K 11), .int .u8 (K 12), .int .u8 (K 13), .int .u8 (K 14), .int .u8 (K 15), .int .u64 xo, .slice A3 k c3]) from setRow_keepB (B3.out.alloc B3.out.size _) B3.out.size _)
        have U4 := Lib.hid (show Below w3.heap.size w3 ((w3.alloc (zC 29)).setRow w3.heap.size #[.int .u64 sq, .int .u64 xo, .int .u64 sq, .int .u8 (K 0), .int .u8 (K 1), .int .u8 (K 2), .int .u8 (K 3), .int .u8 (K 4), .int .u8 (K 5), .int .u8 (K 6), .int .u8 (K 7), .int .u8 (K 8), .int .u8 (K 9), .int .u8 (K 10), .int .u8 (K 11), .int .u8 (K 12), .int .u8 (K 13), .int .u8 (K 14), .int .u8 (K 15), .int .u64 xo, .slice A3 k c3]) from setRow_keepB ((Below.refl w3.heap.size w3).alloc (Nat.le_refl _) _) (Nat.le_refl _) _)
        have X4 := Lib.hid (show Blk ((w3.alloc (zC 29)).setRow w3.heap.size #[.int .u64 sq, .int .u64 xo, .int .u64 sq, .int .u8 (K 0), .int .u8 (K 1), .int .u8 (K 2), .int .u8 (K 3), .int .u8 (K 4), .int .u8 (K 5), .int .u8 (K 6), .int .u8 (K 7), .int .u8 (K 8), .int .u8 (K 9), .int .u8 (K 10), .int .u8 (K 11), .int .u8 (K 12), .int .u8 (K 13), .int .u8 (K 14), .int .u8 (K 15), .int .u64 xo, .slice A3 k c3]) w3.heap.size (entL sq xo sq K xo A3 k c3) 29 from Blk.setRow (show Blk (w3.alloc (zC 29)) w3.heap.size zL 29 from Blk.new w3 zL _) (entL sq xo sq K xo A3 k c3))
        generalize (w3.alloc (zC 29)).setRow w3.heap.size #[.int .u64 sq, .int .u64 xo, .int .u64 sq, .int .u8 (K 0), .int .u8 (K 1), .int .u8 (K 2), .int .u8 (K 3), .int .u8 (K 4), .int .u8 (K 5), .int .u8 (K 6), .int .u8 (K 7), .int .u8 (K 8), .int .u8 (K 9), .int .u8 (K 10), .int .u8 (K 11), .int .u8 (K 12), .int .u8 (K 13), .int .u8 (K 14), .int .u8 (K 15), .int .u64 xo, .slice A3 k c3] = w4 at *
        have E4 := Lib.hid (he.out.below V4.out he.out.lt)
        have P4 := Lib.hid (PA.out.below V4.out PA.out.lt)
        have HA := Lib.hid (T3.out.keep U4.out)
        have HB := Lib.hid (HT.out.keep V4.out)
        have hneq := neq_id K hK
        have p0 := X4.out.cell (i := 0) rfl; have p1 := X4.out.cell (i := 1) rfl; have p2 := X4.out.cell (i := 2) rfl; have p19 := X4.out.cell (i := 19) rfl; have p20 := X4.out.cell (i := 20) rfl
        have e20 := E4.out.cell (i := 20) rfl
        clear hst q1
        go_upto_region 20 with (first
          | (refine wpList_load_mid_want rfl 26 (.tmp 106) rfl w3.heap.size 3 rfl [.int .u8 (K 0), .int .u8 (K 1), .int .u8 (K 2), .int .u8 (K 3), .int .u8 (K 4), .int .u8 (K 5), .int .u8 (K 6), .int .u8 (K 7), .int .u8 (K 8), .int .u8 (K 9), .int .u8 (K 10), .int .u8 (K 11), .int .u8 (K 12), .int .u8 (K 13), .int .u8 (K 14), .int .u8 (K 15)] _ (ent_range X4.out) Try.underlying26 rfl idInfo ?_)
          | (refine wpList_load_mid_want rfl 26 (.tmp 7) rfl w.heap.size 0 rfl [.int .u8 (K 0), .int .u8 (K 1), .int .u8 (K 2), .int .u8 (K 3), .int .u8 (K 4), .int .u8 (K 5), .int .u8 (K 6), .int .u8 (K 7), .int .u8 (K 8), .int .u8 (K 9), .int .u8 (K 10), .int .u8 (K 11), .int .u8 (K 12), .int .u8 (K 13), .int .u8 (K 14), .int .u8 (K 15)] _ (fun j v hj => by rw [Nat.zero_add]; exact P4.out.cell hj) Try.underlying26 rfl idInfo ?_))
        clear p0 p1 p2 p19 p20 e20 hneq
        go_wp2_with fail
        go_loopw [17] (fun i wr => ∃ j : Nat, j ≤ k ∧ i = .int .i64 (j : Int) ∧ Hid (Below w4.heap.size w4 wr)) (fun i _ => k - (intOf i).toNat)
        case atStart => exact ⟨0, Nat.zero_le _, rfl, Lib.hid (Below.refl _ _)⟩
        case round =>
          obtain ⟨j, hj, rfl, hb5⟩ := hrel
          rename World => wA
          have pr := (X4.out.below hb5.out X4.out.lt).cell (i := 20) rfl
          by_cases hlt5 : j < k
          · as_aux_lemma =>
            obtain ⟨b1, o1, rfl, _, c1, c1', _⟩ := (HA.out.keep hb5.out.drew) j hlt5
            obtain ⟨b2, o2, rfl, _, d1, d1', _⟩ := (HB.out.keep hb5.out.drew) j hlt5
            have pd := (X4.out.below hb5.out X4.out.lt).drew.cell (i := 20) rfl
            have qd := (E4.out.below hb5.out E4.out.lt).drew.cell (i := 20) rfl
            have hk0 : (0 : Int) ≤ (j : Int) := by omega
            have hkn : (j : Int) < (k : Int) := by omega
            have hneq := neq_item (pA d j) (hxF xo j)
            generalize pA d j = fx at *
            generalize hxF xo j = gx at *
            go_wp2
            go_region
            all_goals
              go_wp2
              go_roundw
              case rel => exact ⟨j + 1, by omega, by go_num, Lib.hid hb5.out.drew⟩
              case measure => simp [intOf]; omega
          · obtain rfl : j = k := by omega
            have V5 := Lib.hid (V4.out.trans (hb5.out.mono V4.out.size))
            have E5 := Lib.hid (E4.out.below hb5.out E4.out.lt)
            have HB5 := Lib.hid (HB.out.keep hb5.out)
            have hst := store_newK wA sq xo sq xo K A' j c'
            clear HA U4 T3
            go_upto_region 26 with (first
              | (refine wpList_load_row rfl 29 (.tmp 12) rfl w1.heap.size rfl 29 #[.int .u64 sq, .int .u64 xo, .int .u64 sq, .int .u8 (K 0), .int .u8 (K 1), .int .u8 (K 2), .int .u8 (K 3), .int .u8 (K 4), .int .u8 (K 5), .int .u8 (K 6), .int .u8 (K 7), .int .u8 (K 8), .int .u8 (K 9), .int .u8 (K 10), .int .u8 (K 11), .int .u8 (K 12), .int .u8 (K 13), .int .u8 (K 14), .int .u8 (K 15), .int .u64 xo, .slice A' j c'] (0, 0) _ E5.out Try.underlying29 rfl entInfo ?_))
            have V6 := Lib.hid (show Below vA.heap.size vA ((wA.alloc (zC 29)).setRow wA.heap.size #[.int .u64 sq, .int .u64 xo, .int .u64 sq, .int .u8 (K 0), .int .u8 (K 1), .int .u8 (K 2), .int .u8 (K 3), .int .u8 (K 4), .int .u8 (K 5), .int .u8 (K 6), .int .u8 (K 7), .int .u8 (K 8), .int .u8 (K 9), .int .u8 (K 10), .int .u8 (K 11), .int .u8 (K 12), .int .u8 (K 13), .int .u8 (K 14), .int .u8 (K 15), .int .u64 xo, .slice A' j c']) from setRow_keepB (V5.out.alloc V5.out.size _) V5.out.size _)
            have X5 := Lib.hid (show Blk ((wA.alloc (zC 29)).setRow wA.heap.size #[.int .u64 sq, .int .u64 xo, .int .u64 sq, .int .u8 (K 0), .int .u8 (K 1), .int .u8 (K 2), .int .u8 (K 3), .int .u8 (K 4), .int .u8 (K 5), .int .u8 (K 6), .int .u8 (K 7), .int .u8 (K 8), .int .u8 (K 9), .int .u8 (K 10), .int .u8 (K 11), .int .u8 (K 12), .int .u8 (K 13), .int .u8 (K 14), .int .u8 (K 15), .int .u64 xo, .slice A' j c']) wA.heap.size (entL sq xo sq K xo A' j c') 29 from Blk.setRow (show Blk (wA.alloc (zC 29)) wA.heap.size zL 29 from Blk.new wA zL _) (entL sq xo sq K xo A' j c'))
            have S5 := Lib.hid V5.out.size
            have HVL := Lib.hid (Nat.le_refl vA.heap.size)
            generalize (wA.alloc (zC 29)).setRow wA.heap.size #[.int .u64 sq, .int .u64 xo, .int .u64 sq, .int .u8 (K 0), .int .u8 (K 1), .int .u8 (K 2), .int .u8 (K 3), .int .u8 (K 4), .int .u8 (K 5), .int .u8 (K 6), .int .u8 (K 7), .int .u8 (K 8), .int .u8 (K 9), .int .u8 (K 10), .int .u8 (K 11), .int .u8 (K 12), .int .u8 (K 13), .int .u8 (K 14), .int .u8 (K 15), .int .u64 xo, .slice A' j c'] = w5 at *
            clear hst
            have E6 := Lib.hid (he.out.below V6.out he.out.lt)
            have HT6 := Lib.hid (HT.out.keep V6.out)
            obtain ⟨dj, hdj, hdj2⟩ : ∃ dj : Nat, dj < j ∧ numBelow at1 (j : Int) = (dj : Int) := ⟨(numBelow at1 (j : Int)).toNat, by have h1 := numBelow_lo at1 (j : Int) (by omega); have h2 := numBelow_hi at1 (j : Int) (by omega); omega, by have h1 := numBelow_lo at1 (j : Int) (by omega); omega⟩
            have HNm := Lib.hid fun (W : World) => number_nat at1 (j : Int) dj W (by omega) (by omega) hdj2
            have HWb := Lib.hid (show Wd (badF (pA d) j dj) (j + 1) from fun i hi => by unfold badF; split; exact HWp.out i (by omega); exact HWp.out dj hdj)
            have HWg := Lib.hid (show Wd (fun i => if i < j then hxF xo i else 0) (j + 1) from fun i hi => by dsimp only; split; exact hxF_bd xo i; exact ⟨by decide, by decide⟩)
            go_cut [] from 145 to 162 (fun wx => ∃ (A6 : Option Addr) (c6 : Nat), Hid (Blk wx wA.heap.size (entL sq xo sq K xo A6 (j + 1) c6) 29) ∧ Hid (In2 wx A6 (j + 1) (badF (pA d) j dj) (fun i => if i < j then hxF xo i else 0)) ∧ Hid (Below vA.heap.size vA wx))
            case first =>
              obtain ⟨b0, off0, rfl, hbv, k0v, _⟩ := HT.out dj hdj
              have hb0 : b0 < w5.heap.size := Nat.lt_of_lt_of_le hbv V6.out.size
              have k0 := (V6.out.cell (p := ⟨b0, off0 + dj * 2, none⟩) hbv).trans k0v
              have HNB := Lib.hid (show b0 ≠ wA.heap.size by have := V5.out.size; omega)
              have HNW := Lib.hid (show w1.heap.size ≠ wA.heap.size by have := E5.out.lt; omega)
              clear k0v
              have hd0 : (0 : Int) ≤ (dj : Int) := by omega
              have hd1 : (dj : Int) < (j : Int) := by omega
              have HO5 := Lib.hid (ho.out.kept V6.out HVL.out)
              have HBL := Lib.hid hb0
              have HEL := Lib.hid E6.out.lt
              have HXL := Lib.hid X5.out.lt
              have e20 := E6.out.cell (i := 20) rfl
              have Bua := Lib.hid (show Below w5.heap.size w5 w5.drew from (Below.refl w5.heap.size w5).drew)
              have ua0 : (w5.drew).cell? ⟨w1.heap.size, 20, none⟩ = some (.slice (some ⟨b0, off0, none⟩) j c') := (Bua.out.cell (p := ⟨w1.heap.size, 20, none⟩) HEL.out).trans e20
              have ua1 : (w5.drew).cell? ⟨b0, off0 + dj * 2, none⟩ = some (.int .u64 (pA d dj)) := (Bua.out.cell (p := ⟨b0, off0 + dj * 2, none⟩) HBL.out).trans k0
              have Bub := Lib.hid (show Below w5.heap.size w5 (w5.alloc (.cells #[] 56)).drew from ((Below.refl w5.heap.size w5).alloc (Nat.le_refl _) (.cells #[] 56)).drew)
              have ub0 : ((w5.alloc (.cells #[] 56)).drew).cell? ⟨w1.heap.size, 20, none⟩ = some (.slice (some ⟨b0, off0, none⟩) j c') := (Bub.out.cell (p := ⟨w1.heap.size, 20, none⟩) HEL.out).trans e20
              have ub1 : ((w5.alloc (.cells #[] 56)).drew).cell? ⟨b0, off0 + dj * 2, none⟩ = some (.int .u64 (pA d dj)) := (Bub.out.cell (p := ⟨b0, off0 + dj * 2, none⟩) HBL.out).trans k0
              have Buc := Lib.hid (show Below w5.heap.size w5 ((w5.alloc (.cells #[] 56)).alloc (.cells #[.int .u64 (pA d dj), .int .u64 0] 56)).drew from (((Below.refl w5.heap.size w5).alloc (Nat.le_refl _) (.cells #[] 56)).alloc (by simp) (.cells #[.int .u64 (pA d dj), .int .u64 0] 56)).drew)
              have uc0 : (((w5.alloc (.cells #[] 56)).alloc (.cells #[.int .u64 (pA d dj), .int .u64 0] 56)).drew).cell? ⟨w1.heap.size, 20, none⟩ = some (.slice (some ⟨b0, off0, none⟩) j c') := (Buc.out.cell (p := ⟨w1.heap.size, 20, none⟩) HEL.out).trans e20
              have uc1 : (((w5.alloc (.cells #[] 56)).alloc (.cells #[.int .u64 (pA d dj), .int .u64 0] 56)).drew).cell? ⟨b0, off0 + dj * 2, none⟩ = some (.int .u64 (pA d dj)) := (Buc.out.cell (p := ⟨b0, off0 + dj * 2, none⟩) HBL.out).trans k0
              have Bud := Lib.hid (show Below w5.heap.size w5 (w5.alloc (.cells #[.int .u64 (pA d dj), .int .u64 0] 56)).drew from ((Below.refl w5.heap.size w5).alloc (Nat.le_refl _) (.cells #[.int .u64 (pA d dj), .int .u64 0] 56)).drew)
              have ud0 : ((w5.alloc (.cells #[.int .u64 (pA d dj), .int .u64 0] 56)).drew).cell? ⟨w1.heap.size, 20, none⟩ = some (.slice (some ⟨b0, off0, none⟩) j c') := (Bud.out.cell (p := ⟨w1.heap.size, 20, none⟩) HEL.out).trans e20
              have ud1 : ((w5.alloc (.cells #[.int .u64 (pA d dj), .int .u64 0] 56)).drew).cell? ⟨b0, off0 + dj * 2, none⟩ = some (.int .u64 (pA d dj)) := (Bud.out.cell (p := ⟨b0, off0 + dj * 2, none⟩) HBL.out).trans k0
              have Bue := Lib.hid (show Below w5.heap.size w5 ((w5.alloc (.cells #[.int .u64 (pA d dj), .int .u64 0] 56)).alloc (.cells #[] 56)).drew from (((Below.refl w5.heap.size w5).alloc (Nat.le_refl _) (.cells #[.int .u64 (pA d dj), .int .u64 0] 56)).alloc (by simp) (.cells #[] 56)).drew)
              have ue0 : (((w5.alloc (.cells #[.int .u64 (pA d dj), .int .u64 0] 56)).alloc (.cells #[] 56)).drew).cell? ⟨w1.heap.size, 20, none⟩ = some (.slice (some ⟨b0, off0, none⟩) j c') := (Bue.out.cell (p := ⟨w1.heap.size, 20, none⟩) HEL.out).trans e20
              have ue1 : (((w5.alloc (.cells #[.int .u64 (pA d dj), .int .u64 0] 56)).alloc (.cells #[] 56)).drew).cell? ⟨b0, off0 + dj * 2, none⟩ = some (.int .u64 (pA d dj)) := (Bue.out.cell (p := ⟨b0, off0 + dj * 2, none⟩) HBL.out).trans k0
              have HEb := Lib.hid (show Blk (w5.alloc (.cells #[] 56)).drew w5.heap.size [] 56 from Blk.new w5 _ _)
              have HEc := Lib.hid (show Blk ((w5.alloc (.cells #[] 56)).alloc (.cells #[.int .u64 (pA d dj), .int .u64 0] 56)).drew w5.heap.size [] 56 from (show Blk (w5.alloc (.cells #[] 56)) w5.heap.size [] 56 from Blk.new w5 _ _).alloc _)
              have HIc := Lib.hid (show Blk ((w5.alloc (.cells #[] 56)).alloc (.cells #[.int .u64 (pA d dj), .int .u64 0] 56)).drew (w5.heap.size + 1) [.int .u64 (pA d dj), .int .u64 0] 56 from Blk.new_at _ _ _ _ (by simp))
              have HEe := Lib.hid (show Blk ((w5.alloc (.cells #[.int .u64 (pA d dj), .int .u64 0] 56)).alloc (.cells #[] 56)).drew (w5.heap.size + 1) [] 56 from Blk.new_at _ _ _ _ (by simp))
              have HIe := Lib.hid (show Blk ((w5.alloc (.cells #[.int .u64 (pA d dj), .int .u64 0] 56)).alloc (.cells #[] 56)).drew w5.heap.size [.int .u64 (pA d dj), .int .u64 0] 56 from (show Blk (w5.alloc (.cells #[.int .u64 (pA d dj), .int .u64 0] 56)) w5.heap.size [.int .u64 (pA d dj), .int .u64 0] 56 from Blk.new w5 _ _).alloc _)
              go_region_held3 (fun W => W.cell? ⟨w1.heap.size, 20, none⟩ = some (.slice (some ⟨b0, off0, none⟩) j c') ∧ W.cell? ⟨b0, off0 + dj * 2, none⟩ = some (.int .u64 (pA d dj))) (first | (with_reducible exact ⟨ua0, ua1⟩) | (with_reducible exact ⟨ub0, ub1⟩) | (with_reducible exact ⟨uc0, uc1⟩) | (with_reducible exact ⟨ud0, ud1⟩) | (with_reducible exact ⟨ue0, ue1⟩) | (with_reducible exact ⟨qp0, qp1⟩) | (with_reducible exact ⟨qq0, qq1⟩) | (with_reducible exact ⟨qr0, qr1⟩) | (with_reducible exact ⟨qf0, qf1⟩) | (with_reducible exact ⟨qg0 _, qg1 _⟩) | go_keep) (first
                | (refine step_append_elt_at Yt.itemElt (o := ⟨some 148, _, _, _, _, _⟩) rfl (.tmp 145) (.tmp 147) rfl w5.heap.size (some ⟨w5.heap.size, 0, none⟩) 0 0 [] rfl (lit_own HEb.out (by omega)) ⟨b0, off0, none⟩ j c' (two (pA d) (hxF xo) j) rfl HO5.out.len (two_news (HO5.out.kept Bub.out (Nat.le_refl _))) (two_one _ _ _) (by omega) (by omega) (by unfold maxLen; omega) ?_; intro Ap cp wp hop hgp _; (try simp only [Nat.zero_add]); rw [List.nil_append, Nat.zero_add] at hop; have Op := Lib.hid hop; have Mp := Lib.hid (Bub.out.trans (below_grown hgp Bub.out.size (fun z hz => by simp [ownB] at hz; omega))); have Dp := Mp; have qp0 := (Dp.out.cell (p := ⟨w1.heap.size, 20, none⟩) HEL.out).trans e20; have qp1 := (Dp.out.cell (p := ⟨b0, off0 + dj * 2, none⟩) HBL.out).trans k0; clear hop hgp)
                | (refine step_append_elt_at Yt.itemElt (o := ⟨some 148, _, _, _, _, _⟩) rfl (.tmp 145) (.tmp 147) rfl w5.heap.size (some ⟨w5.heap.size, 0, none⟩) 0 0 [] rfl (lit_own HEc.out (by omega)) ⟨b0, off0, none⟩ j c' (two (pA d) (hxF xo) j) rfl HO5.out.len (two_news (HO5.out.kept Buc.out (Nat.le_refl _))) (two_one _ _ _) (by omega) (by omega) (by unfold maxLen; omega) ?_; intro Aq cq wq hoq hgq _; (try simp only [Nat.zero_add]); rw [List.nil_append, Nat.zero_add] at hoq; have Oq := Lib.hid hoq; have Mq := Lib.hid (Buc.out.trans (below_grown hgq Buc.out.size (fun z hz => by simp [ownB] at hz; omega))); have Dq := Mq; have Jq := Lib.hid (blk_grown HIc.out hgq (by omega)); have qq0 := (Dq.out.cell (p := ⟨w1.heap.size, 20, none⟩) HEL.out).trans e20; have qq1 := (Dq.out.cell (p := ⟨b0, off0 + dj * 2, none⟩) HBL.out).trans k0; clear hoq hgq)
                | (refine step_append_elt_at Yt.itemElt (o := ⟨some 148, _, _, _, _, _⟩) rfl (.tmp 145) (.tmp 147) rfl w5.heap.size (some ⟨w5.heap.size + 1, 0, none⟩) 0 0 [] rfl (lit_own HEe.out (by omega)) ⟨b0, off0, none⟩ j c' (two (pA d) (hxF xo) j) rfl HO5.out.len (two_news (HO5.out.kept Bue.out (Nat.le_refl _))) (two_one _ _ _) (by omega) (by omega) (by unfold maxLen; omega) ?_; intro Ar cr wr hor hgr _; (try simp only [Nat.zero_add]); rw [List.nil_append, Nat.zero_add] at hor; have Or := Lib.hid hor; have Mr := Lib.hid (Bue.out.trans (below_grown hgr Bue.out.size (fun z hz => by simp [ownB] at hz; omega))); have Dr := Mr; have Jr := Lib.hid (blk_grown HIe.out hgr (by omega)); have qr0 := (Dr.out.cell (p := ⟨w1.heap.size, 20, none⟩) HEL.out).trans e20; have qr1 := (Dr.out.cell (p := ⟨b0, off0 + dj * 2, none⟩) HBL.out).trans k0; clear hor hgr)
                | (refine step_append_elt_at Yt.itemElt (o := ⟨some 161, _, _, _, _, _⟩) rfl (.tmp 148) (.tmp 160) rfl w5.heap.size Ap j cp (two (pA d) (hxF xo) j) rfl (Op.out.alloc (.cells #[.int .u64 (pA d dj), .int .u64 0] 56)) ⟨wp.heap.size, 0, none⟩ 1 1 [.int .u64 (pA d dj), .int .u64 0] rfl rfl (Blk.news (Blk.new wp _ _)) (by intro u hu; simp at hu; rcases hu with rfl | rfl <;> rfl) (by omega) (by omega) (by unfold maxLen; omega) ?_; intro A7 c7 w7 ho7 hg7 _; have OF := Lib.hid ho7; have DF := Lib.hid ((Mp.out.alloc Mp.out.size (.cells #[.int .u64 (pA d dj), .int .u64 0] 56)).trans (below_grown hg7 (Mp.out.alloc Mp.out.size (.cells #[.int .u64 (pA d dj), .int .u64 0] 56)).size (fun z hz => (Dc.OwnE.ltB Op.out z hz).1))); have XF := Lib.hid (X5.out.below DF.out HXL.out); have x20 := XF.out.cell (i := 20) rfl; have y20 := XF.out.frozen 20; have qf0 := (DF.out.cell (p := ⟨w1.heap.size, 20, none⟩) HEL.out).trans e20; have qf1 := (DF.out.cell (p := ⟨b0, off0 + dj * 2, none⟩) HBL.out).trans k0; have qg0 := fun v : Value => (World.cell?_setCell_other w7 ⟨wA.heap.size, 20, none⟩ ⟨w1.heap.size, 20, none⟩ v (fun h => HNW.out (congrArg Addr.block h).symm)).trans qf0; have qg1 := fun v : Value => (World.cell?_setCell_other w7 ⟨wA.heap.size, 20, none⟩ ⟨b0, off0 + dj * 2, none⟩ v (fun h => HNB.out (congrArg Addr.block h).symm)).trans qf1; clear ho7 hg7)
                | (refine step_append_elt_at Yt.itemElt (o := ⟨some 161, _, _, _, _, _⟩) rfl (.tmp 148) (.tmp 160) rfl w5.heap.size Aq j cq (two (pA d) (hxF xo) j) rfl Oq.out ⟨w5.heap.size + 1, 0, none⟩ 1 1 [.int .u64 (pA d dj), .int .u64 0] rfl rfl (Blk.news Jq.out) (by intro u hu; simp at hu; rcases hu with rfl | rfl <;> rfl) (by omega) (by omega) (by unfold maxLen; omega) ?_; intro A7 c7 w7 ho7 hg7 _; have OF := Lib.hid ho7; have DF := Lib.hid (Mq.out.trans (below_grown hg7 Mq.out.size (fun z hz => (Dc.OwnE.ltB Oq.out z hz).1))); have XF := Lib.hid (X5.out.below DF.out HXL.out); have x20 := XF.out.cell (i := 20) rfl; have y20 := XF.out.frozen 20; have qf0 := (DF.out.cell (p := ⟨w1.heap.size, 20, none⟩) HEL.out).trans e20; have qf1 := (DF.out.cell (p := ⟨b0, off0 + dj * 2, none⟩) HBL.out).trans k0; have qg0 := fun v : Value => (World.cell?_setCell_other w7 ⟨wA.heap.size, 20, none⟩ ⟨w1.heap.size, 20, none⟩ v (fun h => HNW.out (congrArg Addr.block h).symm)).trans qf0; have qg1 := fun v : Value => (World.cell?_setCell_other w7 ⟨wA.heap.size, 20, none⟩ ⟨b0, off0 + dj * 2, none⟩ v (fun h => HNB.out (congrArg Addr.block h).symm)).trans qf1; clear ho7 hg7)
                | (refine step_append_elt_at Yt.itemElt (o := ⟨some 161, _, _, _, _, _⟩) rfl (.tmp 148) (.tmp 160) rfl w5.heap.size Ar j cr (two (pA d) (hxF xo) j) rfl Or.out ⟨w5.heap.size, 0, none⟩ 1 1 [.int .u64 (pA d dj), .int .u64 0] rfl rfl (Blk.news Jr.out) (by intro u hu; simp at hu; rcases hu with rfl | rfl <;> rfl) (by omega) (by omega) (by unfold maxLen; omega) ?_; intro A7 c7 w7 ho7 hg7 _; have OF := Lib.hid ho7; have DF := Lib.hid (Mr.out.trans (below_grown hg7 Mr.out.size (fun z hz => (Dc.OwnE.ltB Or.out z hz).1))); have XF := Lib.hid (X5.out.below DF.out HXL.out); have x20 := XF.out.cell (i := 20) rfl; have y20 := XF.out.frozen 20; have qf0 := (DF.out.cell (p := ⟨w1.heap.size, 20, none⟩) HEL.out).trans e20; have qf1 := (DF.out.cell (p := ⟨b0, off0 + dj * 2, none⟩) HBL.out).trans k0; have qg0 := fun v : Value => (World.cell?_setCell_other w7 ⟨wA.heap.size, 20, none⟩ ⟨w1.heap.size, 20, none⟩ v (fun h => HNW.out (congrArg Addr.block h).symm)).trans qf0; have qg1 := fun v : Value => (World.cell?_setCell_other w7 ⟨wA.heap.size, 20, none⟩ ⟨b0, off0 + dj * 2, none⟩ v (fun h => HNB.out (congrArg Addr.block h).symm)).trans qf1; clear ho7 hg7)
                | (go_simp; go_at_call 25; (with_reducible refine (HNm.out _).mono ?_); rintro e w' ⟨rfl, rfl⟩))
              all_goals
                go_wp2_with fail
                go_meet
                case rel =>
                  have HF := OF.out
                  rw [bad_two] at HF
                  exact ⟨A7, c7, Lib.hid (XF.out.set_ 20 _), Lib.hid (own_in2 (Yz.OwnE.farE HF HXL.out _) HWb.out HWg.out), Lib.hid ((V6.out.trans (DF.out.mono V6.out.size)).setCell S5.out _)⟩
            case rest =>
              rename World => w6
              obtain ⟨A6, c6, X6, T6, Z6⟩ := hcut
              have HP6 := Lib.hid (put_any sq xo sq K xo A6 (j + 1) c6 (badF (pA d) j dj) (fun i => if i < j then hxF xo i else 0) w6 T6.out (by omega) hK hs hx hs hx)
              have HP0 := Lib.hid fun (W : World) => put_any sq xo sq K xo none 0 0 (pA d) (hxF xo) W (in2_none W none (pA d) (hxF xo)) (by omega) hK hs hx hs hx
              unfold Owned at HP6 HP0
              have HR6 := Lib.hid fun (W : World) (base : Nat) (B : Option Addr) (c : Nat) (ho : Own W base B (eS (j + 1)) c (eL sq xo sq K xo (badF (pA d) j dj) (fun i => if i < j then hxF xo i else 0) (j + 1))) => back_code sq xo sq K xo (badF (pA d) j dj) (fun i => if i < j then hxF xo i else 0) (j + 1) 11 (by omega) (by rw [ent_code sq xo sq K xo (badF (pA d) j dj) (fun i => if i < j then hxF xo i else 0) (j + 1) hs hx hs hx HWb.out HWg.out (by omega) (by omega), if_neg hsq, bad_ris d j dj hdj]; rfl) (by decide) W base B c ho
              have HR0 := Lib.hid fun (W : World) (base : Nat) (B : Option Addr) (c : Nat) (ho : Own W base B (eS 0) c (eL sq xo sq K xo (pA d) (hxF xo) 0)) => back_code sq xo sq K xo (pA d) (hxF xo) 0 5 (by omega) (ent_none sq xo sq K xo (pA d) (hxF xo)) (by decide) W base B c ho
              clear X5 E6 HT6 HT he ho HPut HRd HNm HB HB5 E5 E4 V4 V5 V6 X4 hb5
              have L6 := Lib.hid X6.out.lt
              go_upto_region 28 with (first
                | (refine wpList_load_row rfl 29 (.tmp 18) rfl wA.heap.size rfl 29 #[.int .u64 sq, .int .u64 xo, .int .u64 sq, .int .u8 (K 0), .int .u8 (K 1), .int .u8 (K 2), .int .u8 (K 3), .int .u8 (K 4), .int .u8 (K 5), .int .u8 (K 6), .int .u8 (K 7), .int .u8 (K 8), .int .u8 (K 9), .int .u8 (K 10), .int .u8 (K 11), .int .u8 (K 12), .int .u8 (K 13), .int .u8 (K 14), .int .u8 (K 15), .int .u64 xo, .slice A6 (j + 1) c6] (0, 0) _ X6.out Try.underlying29 rfl entInfo ?_)
                | (go_at_call 19; (with_reducible refine HP6.out.mono ?_); rintro e w7 ⟨A7, c7, rfl, ho7, hb7⟩; have O7 := Lib.hid ho7; have B7 := Lib.hid hb7; clear ho7 hb7)
                | (go_at_call 9; (with_reducible refine (HR6.out w7 _ A7 c7 O7.out).mono ?_); rintro e w8 ⟨A8, c8, rfl, hb8⟩; have B8 := Lib.hid (B7.out.trans (hb8.mono B7.out.size)); have hst := store_new0 w8 0 0 0 0 A8 0 c8; clear hb8))
              have Z9 := Lib.hid (show Below w6.heap.size w6 ((w8.alloc (zC 29)).setRow w8.heap.size #[.int .u64 0, .int .u64 0, .int .u64 0, .int .u8 ((fun _ => (0 : Int)) 0), .int .u8 ((fun _ => (0 : Int)) 1), .int .u8 ((fun _ => (0 : Int)) 2), .int .u8 ((fun _ => (0 : Int)) 3), .int .u8 ((fun _ => (0 : Int)) 4), .int .u8 ((fun _ => (0 : Int)) 5), .int .u8 ((fun _ => (0 : Int)) 6), .int .u8 ((fun _ => (0 : Int)) 7), .int .u8 ((fun _ => (0 : Int)) 8), .int .u8 ((fun _ => (0 : Int)) 9), .int .u8 ((fun _ => (0 : Int)) 10), .int .u8 ((fun _ => (0 : Int)) 11), .int .u8 ((fun _ => (0 : Int)) 12), .int .u8 ((fun _ => (0 : Int)) 13), .int .u8 ((fun _ => (0 : Int)) 14), .int .u8 ((fun _ => (0 : Int)) 15), .int .u64 0, .slice A8 0 c8]) from setRow_keepB (B8.out.alloc B8.out.size _) B8.out.size _)
              clear hst
              have X9 := Lib.hid (X6.out.below Z9.out X6.out.lt)
              generalize (w8.alloc (zC 29)).setRow w8.heap.size #[.int .u64 0, .int .u64 0, .int .u64 0, .int .u8 ((fun _ => (0 : Int)) 0), .int .u8 ((fun _ => (0 : Int)) 1), .int .u8 ((fun _ => (0 : Int)) 2), .int .u8 ((fun _ => (0 : Int)) 3), .int .u8 ((fun _ => (0 : Int)) 4), .int .u8 ((fun _ => (0 : Int)) 5), .int .u8 ((fun _ => (0 : Int)) 6), .int .u8 ((fun _ => (0 : Int)) 7), .int .u8 ((fun _ => (0 : Int)) 8), .int .u8 ((fun _ => (0 : Int)) 9), .int .u8 ((fun _ => (0 : Int)) 10), .int .u8 ((fun _ => (0 : Int)) 11), .int .u8 ((fun _ => (0 : Int)) 12), .int .u8 ((fun _ => (0 : Int)) 13), .int .u8 ((fun _ => (0 : Int)) 14), .int .u8 ((fun _ => (0 : Int)) 15), .int .u64 0, .slice A8 0 c8] = w9 at *
              have x20 := X9.out.cell (i := 20) rfl
              have y20 := X9.out.frozen 20
              go_upto_region 29 with fail
              have XN := Lib.hid (show Blk (w9.setCell ⟨wA.heap.size, 20, none⟩ (.slice none 0 0)) wA.heap.size (entL sq xo sq K xo none 0 0) 29 from X9.out.set_ 20 (.slice none 0 0))
              have ZN := Lib.hid (show Below vA.heap.size vA (w9.setCell ⟨wA.heap.size, 20, none⟩ (.slice none 0 0)) from (Z6.out.trans (Z9.out.mono Z6.out.size)).setCell S5.out _)
              generalize w9.setCell ⟨wA.heap.size, 20, none⟩ (.slice none 0 0) = w10 at *
              clear x20 y20
              go_wp2_with (first
                | (refine wpList_load_row rfl 29 (.tmp 18) rfl wA.heap.size rfl 29 #[.int .u64 sq, .int .u64 xo, .int .u64 sq, .int .u8 (K 0), .int .u8 (K 1), .int .u8 (K 2), .int .u8 (K 3), .int .u8 (K 4), .int .u8 (K 5), .int .u8 (K 6), .int .u8 (K 7), .int .u8 (K 8), .int .u8 (K 9), .int .u8 (K 10), .int .u8 (K 11), .int .u8 (K 12), .int .u8 (K 13), .int .u8 (K 14), .int .u8 (K 15), .int .u64 xo, .slice none 0 0] (0, 0) _ XN.out Try.underlying29 rfl entInfo ?_)
                | (go_at_call 19; (with_reducible refine (HP0.out w10).mono ?_); rintro e w11 ⟨A11, c11, rfl, ho11, hb11⟩; have O11 := Lib.hid ho11; have B11 := Lib.hid hb11; clear ho11 hb11)
                | (go_at_call 9; (with_reducible refine (HR0.out w11 _ A11 c11 O11.out).mono ?_); rintro e w12 ⟨A12, c12, rfl, hb12⟩; have B12 := Lib.hid (B11.out.trans (hb12.mono B11.out.size)); have hst := store_new0 w12 0 0 0 0 A12 0 c12; clear hb12))
              go_ret
              exact ⟨rfl, Bw.out.trans ((ZN.out.trans ((setRow_keepB (B12.out.alloc B12.out.size _) B12.out.size _).mono ZN.out.size)).mono Bw.out.size)⟩
end Go.Proofs.Yteggjmnmlmhkfaa.EntryBackW
