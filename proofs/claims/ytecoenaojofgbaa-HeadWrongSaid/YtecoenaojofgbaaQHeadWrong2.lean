/-
  Texts beneath the proof, one behind the other.
-/
import Derived.Test.YtecoenaojofgbaaQHeadWrong1
import Derived.Test.YtecoenaojofgbaaQ9
import Derived.Test.YtecoenaojofgbaaQ5

/-
  The walk of HeadWrong.
-/
namespace Go.Proofs.Ytecoenaojofgbaa.HeadWrongW
open Go.ChangeShapes Go.WideShapes Go.ChangeAt Go.RowKit
open Bytes8 Blk8 Own8 OwnM OwnE LeA LeNum LeP Rows2 Ob Oc Od Ga Gb Gc Gd Gf Gi Gj Numb Ma Mb Mh Na Ns Nt Nu Nv Nw
open Go1 (HTold)
open Gs (eqH eq_fold head_eql)
set_option linter.unusedVariables false
set_option linter.unusedSimpArgs false
set_option maxRecDepth 100000

theorem hcells_len (h : HD) : (Try.prog.info? 31).map (·.size) = some (h.cells 21).length := by rw [headInfo]; simp [HD.len]
theorem whole {w : World} {g : Nat} {T : TypeId} {h : HD} {m : Nat} (hb : Blk w g (h.cells m) T) : w.rangeAt g 0 (h.cells m) := fun j v hj => by rw [Nat.zero_add]; exact hb.cell hj
theorem set_num (h : HD) (i p : Nat) (hi : i < 21) (hp : p = 67 + i) (v : Int) : (h.cells 21).set p (.int .u64 v) = (setN h i v).cells 21 := by
  subst hp
  refine Gp.cells_set _ _ 21 _ _ (by omega) ?_ (fun j hj hne => ?_)
  · unfold HD.at_
    rw [if_neg (by omega), if_neg (by omega), if_pos (by omega)]
    show Value.int .u64 (if 67 + i - 67 = i then v else _) = _
    rw [if_pos (by omega)]
  · unfold HD.at_
    by_cases h1 : j < 3
    · rw [if_pos h1, if_pos h1]; rfl
    rw [if_neg h1, if_neg h1]
    by_cases h2 : j < 67
    · rw [if_pos h2, if_pos h2]; rfl
    rw [if_neg h2, if_neg h2]
    by_cases h3 : j < 67 + 21
    · rw [if_pos h3, if_pos h3]
      show Value.int .u64 (if j - 67 = i then v else h.N (j - 67)) = _
      rw [if_neg (by omega)]
    rw [if_neg h3, if_neg h3]; rfl
theorem own_cell {w : World} {base g n c : Nat} {l : List Int} (h : Own w base (some ⟨g, 0, none⟩) n c l) (i : Nat) (hi : i < n) : w.cell? ⟨g, i, none⟩ = some (.int .u8 (l.getD i 0)) := by
  obtain ⟨b, off, e, _, hc⟩ := h.bytes.2 i (by rw [h.2.1]; exact hi)
  injection e with e
  injection e with e1 e2
  subst e1 e2
  rw [Nat.zero_add] at hc
  exact hc
theorem own_fz {w : World} {base g n c : Nat} {l : List Int} (h : Own w base (some ⟨g, 0, none⟩) n c l) (i : Nat) (hi : i < n) : w.frozen? ⟨g, i, none⟩ = false := by
  rcases h.2.2.2.2 with ⟨h1, h2⟩ | ⟨k, cap, cur, h1, h2, h3, h4⟩
  · cases h1
  · injection h1 with e1 e2 e3
    injection e1 with e1
    injection e1 with e1
    subst e1
    simp [World.frozen?, h3]
theorem ic_ok {h : HD} (ok : h.Ok 21) {x : Int} (h0 : 0 ≤ x) (h1 : x < 256) : ({ h with ic := x } : HD).Ok 21 := ⟨ok.cp, ⟨h0, by show x ≤ 4294967295; omega⟩, ok.st, ok.I, ok.N, ok.ta, ok.ti, ok.te⟩
theorem st_ok {h : HD} (ok : h.Ok 21) {x : Int} (h0 : 0 ≤ x) (h1 : x < 256) : ({ h with st := x } : HD).Ok 21 := ⟨ok.cp, ok.ic, ⟨by show _ ≤ x; omega, by show x ≤ _; omega⟩, ok.I, ok.N, ok.ta, ok.ti, ok.te⟩
theorem own_form {w : World} {base n c : Nat} {A : Option Addr} {l : List Int} (h : Own w base A n c l) (hn : 0 < n) : ∃ g, A = some ⟨g, 0, none⟩ ∧ base ≤ g ∧ g < w.heap.size := by
  rcases h.2.2.2.2 with ⟨h1, h2⟩ | ⟨k, cap, cur, h1, h2, h3, h4⟩
  · omega
  · injection h1 with e1 e2 e3
    refine ⟨k, e1, h2, ?_⟩
    rcases Nat.lt_or_ge k w.heap.size with hlt | hge
    · exact hlt
    · rw [Array.getElem?_eq_none hge] at h3; cases h3
theorem wpList_load_row_want {P : Program} {ops : Array Oper} {rest : List Oper} {o : Oper} {a : Act} {w : World} {Q : Exit → Act → World → Prop} (hw : Region.wanted o (yielded ops a.tmps) = true) (ty : TypeId) (x : Operand) (ho : o.op = .load ty x)
    (g : Nat) (hx : a.eval x = .pointer (some ⟨g, 0, none⟩)) (t : TypeId) (cs : Array Value) (fr : Nat × Nat) (d : TypeDesc) (hg : w.heap[g]? = some (.cells cs t fr))
    (hu : P.underlying ty = some d) (hd : (match d with | .struct _ | .array _ _ => true | _ => false) = true) (hi : (P.info? ty).map (·.size) = some cs.size)
    (h : wpList P ops Q rest (a.put o.dst (.agg cs)) w) : wpList P ops Q (o :: rest) a w :=
  BigFrame.wpList_want hw fun _ hK => wp_load_row ty x ho g hx t cs fr d hg hu hd hi (hK _ _ h)
attribute [local irreducible] HD.cells wpList Code.wp
attribute [local go_sem ↓] eq_fold
set_option maxHeartbeats 8000000 in
theorem walk_main (a : Option Addr) (len cap : Nat) (f : Nat → Int) (which by_ : Int) (w : World) (hI : InInts .i64 w a len f) (hl : len ≤ 60) :
    Calls Try.prog 4 #[.slice a len cap, .int .i64 which, .int .i64 by_] w fun e w' => e = .returned (.bool true) ∧ Below w.heap.size w w' := by
  have d1 : decide ((60 : Int) < (len : Int)) = false := by simp; omega
  have HI := Lib.hid hI
  clear hI
  go_enter Try.func4, Try.ntmps4
  go_upto_region 6 with (go_at_call 6; ((with_reducible refine (first_any _).mono ?_); rintro e w1 ⟨rfl, hb1⟩; have B1 := Lib.hid hb1; clear hb1))
  clear d1
  have HIm := Lib.hid (image_made a len cap f 6 w1 (HI.out.below B1.out) (by omega) (by decide))
  unfold Imaged at HIm
  go_upto_region 7 with (go_at_call 7; ((refine HIm.out.mono ?_); rintro e w2 ⟨A, c, m, rfl, hg2, ho2, hb2⟩; have HG := Lib.hid hg2; have HO := Lib.hid ho2; have B2 := Lib.hid hb2; clear hg2 ho2 hb2))
  have hI := HG.out.img
  obtain ⟨l1, l2, l3⟩ := hI.lens
  have hLB := imgB_len hI
  have hcap := (own_cap HO.out).1
  have HB2 := Lib.hid HO.out.bytes
  have HF := Lib.hid (facts hI)
  have R1 := Lib.hid (by have h := read_img hI [] A _ c w2 (by rw [List.append_nil]; exact HB2.out) (by rw [List.append_nil]; exact hLB) (by omega) hcap; exact h)
  unfold HTold at R1
  obtain ⟨N, hN⟩ : ∃ x, m.b.length = x := ⟨_, rfl⟩
  have HNe := Lib.hid hN
  rw [hN] at l1 l2 l3 hLB hcap R1 ⊢
  have HLB := Lib.hid hLB
  obtain ⟨fs, hfs⟩ : ∃ x, m.C.fs = x := ⟨_, rfl⟩
  have HFs := Lib.hid hfs
  have hfs64 : fs ≤ 64 := hfs ▸ HF.out.fs.2
  have BW2 := Lib.hid (B1.out.trans (B2.out.mono B1.out.size))
  clear hI HIm HO HG hN hLB HI hfs B1 B2
  go_upto_region 8 with (first
    | (go_at_call 8; ((refine R1.out.mono ?_); rintro e w3 ⟨rfl, hb3⟩; have B3 := Lib.hid hb3; clear hb3))
    | ((with_reducible apply at_store (.tmp 9) (.tmp 27)); refine wpList_store_row rfl 31 (.tmp 9) (.tmp 27) rfl w3.heap.size ((imgH m).cells 21).toArray rfl rfl 31 Try.zeroCells31 (heap_alloc_new w3 _) (cells_info _) zeros_size (HD.one _ 21) ?_)
    | fail)
  have R4 := Lib.hid (show Blk ((w3.alloc (.cells Try.zeroCells31 31)).setRow w3.heap.size ((imgH m).cells 21).toArray) w3.heap.size ((imgH m).cells 21) 31 from setRow_heap _ _ _ _ _ (0, 0) (heap_alloc_new w3 _))
  have B4 := Lib.hid (show Below w2.heap.size w2 ((w3.alloc (.cells Try.zeroCells31 31)).setRow w3.heap.size ((imgH m).cells 21).toArray) from below_setRow (B3.out.alloc B3.out.size _) B3.out.size _)
  generalize (w3.alloc (.cells Try.zeroCells31 31)).setRow w3.heap.size ((imgH m).cells 21).toArray = w4 at *
  have hs9 : w2.heap.size ≤ w3.heap.size := B3.out.size
  generalize w3.heap.size = s9 at *
  clear R1 B3
  obtain ⟨kb, hkb, hkb7⟩ := below_nat by_ 7 (by decide)
  have HNb := Lib.hid fun (W : World) => number_nat by_ 7 kb W (by decide) (by decide) hkb.out
  obtain ⟨kw, hkw, hkw8⟩ := below_nat which 8 (by decide)
  have HNw := Lib.hid fun (W : World) => number_nat which 8 kw W (by decide) (by decide) hkw.out
  clear hkb hkw
  obtain ⟨y, hy⟩ : ∃ y : Nat, (kb : Int) + 1 = (y : Int) := ⟨kb + 1, by omega⟩
  have hwy0 : IntKind.i64.wrap ((kb : Int) + 1) = (y : Int) := by rw [IntKind.wrap_i64]; omega
  have hy17 : 1 ≤ y ∧ y ≤ 7 := by omega
  have HCp := Lib.hid (Cl8.bytes_any A (imgB m) N c w4 (HB2.out.below B4.out (Nat.le_refl _)) HLB.out (by omega))
  go_upto_block 0 with (first
    | (go_at_call 11; ((with_reducible refine (HNb.out _).mono ?_); rintro e w' ⟨rfl, rfl⟩))
    | (go_at_call 11; ((with_reducible refine (HNw.out _).mono ?_); rintro e w' ⟨rfl, rfl⟩))
    | (go_at_call 9; ((refine HCp.out.mono ?_); rintro e w5 ⟨A5, c5, rfl, ho5, hb5⟩; have HO5 := Lib.hid ho5; have B5 := Lib.hid hb5; clear ho5 hb5))
    | fail)
  obtain ⟨g5, hA5, hg45, hg5l⟩ := own_form HO5.out (by omega)
  subst hA5
  have B25 := Lib.hid (B4.out.trans (B5.out.mono B4.out.size))
  have BW5 := Lib.hid (BW2.out.trans (B25.out.mono BW2.out.size))
  have hg5 : w.heap.size ≤ g5 := Nat.le_trans (Nat.le_trans BW2.out.size B4.out.size) hg45
  have R5 := Lib.hid (R4.out.below B5.out R4.out.lt)
  clear HNb HNw HCp R4 B4 B5 hy hwy0 hkb7
  go_cut [11, 12] from 38 to 130 (fun x z wx => ∃ (x0 : Int) (A' : Option Addr) (c' : Nat) (l' : List Int), x = .int .i64 x0 ∧ z = .slice A' N c' ∧ N ≤ c' ∧ Hid (Bytes wx A' l' ∧ l'.length = N ∧ Bad l' N x0) ∧ Hid (Below w.heap.size w wx))
  case first =>
    have hk8 : kw = 0 ∨ kw = 1 ∨ kw = 2 ∨ kw = 3 ∨ kw = 4 ∨ kw = 5 ∨ kw = 6 ∨ kw = 7 := by omega
    clear hkw8
    rcases hk8 with rfl | rfl | rfl | rfl | rfl | rfl | rfl | rfl
    · have hy0 : y < N := by omega
      have hyi : (y : Int) < (N : Int) := by omega
      have cv : w5.cell? ⟨g5, y, none⟩ = some (.int .u8 ((imgB m).getD y 0)) := own_cell HO5.out y hy0
      have cz : w5.frozen? ⟨g5, y, none⟩ = false := own_fz HO5.out y hy0
      obtain ⟨t1, t2, t3⟩ := turned m y hy17
      have HT1 := Lib.hid t1
      clear t1
      generalize (imgB m).getD y 0 = x0 at *
      go_wp2_with fail
      go_meet
      case rel =>
        have ho := own_set HO5.out y t2 t3
        exact ⟨6, some ⟨g5, 0, none⟩, c5, _, rfl, rfl, (own_cap ho).1, Lib.hid ⟨ho.bytes, ho.2.1, bad0 (by omega) HT1.out⟩, Lib.hid (BW5.out.setCell (p := ⟨g5, y, none⟩) hg5 _)⟩
    · have hy0 : 12 < N := by omega
      have hyi : (12 : Int) < (N : Int) := by omega
      have hset := fun x hx => set_ic (imgH m) (m.b.drop 272) x (by rcases HF.out.ic with e | e <;> rw [e] <;> decide) hx
      have hget : (imgB m).getD 12 0 = (imgH m).ic := (hset 0 (by decide)).2
      have cv : w5.cell? ⟨g5, 12, none⟩ = some (.int .u8 (imgH m).ic) := hget ▸ own_cell HO5.out 12 hy0
      have cz : w5.frozen? ⟨g5, 12, none⟩ = false := own_fz HO5.out 12 hy0
      have HSet := Lib.hid hset
      clear hset hget
      have HOk := Lib.hid HF.out.ok
      have hyy : y = 1 ∨ y = 2 ∨ y = 3 ∨ y = 4 ∨ y = 5 ∨ y = 6 ∨ y = 7 := by omega
      rcases hyy with rfl | rfl | rfl | rfl | rfl | rfl | rfl
      · obtain ⟨t1, t2, t3⟩ := bad1 HF.out 16 (by decide)
        rw [HNe.out] at t1
        have HT1 := Lib.hid t1
        have HT2 := Lib.hid (HSet.out _ ⟨t2, t3⟩).1
        have HOk1 := Lib.hid (ic_ok HF.out.ok t2 t3)
        clear t1
        have HT3 := Lib.hid (show 0 ≤ bits .or .u8 (imgH m).ic 16 ∧ bits .or .u8 (imgH m).ic 16 < 256 from ⟨t2, t3⟩)
        clear t2 t3
        go_wp2_with fail
        go_meet
        case rel =>
          have ho := own_set HO5.out 12 HT3.out.1 HT3.out.2
          exact ⟨7, some ⟨g5, 0, none⟩, c5, _, rfl, rfl, (own_cap ho).1, Lib.hid ⟨ho.bytes, ho.2.1, bad_of _ HOk1.out (by show 0 ≤ (imgH m).st ∧ (imgH m).st < 256; rw [HF.out.st]; decide) _ _ HT2.out N (by omega) 7 HT1.out (by decide)⟩, Lib.hid (BW5.out.setCell (p := ⟨g5, 12, none⟩) hg5 _)⟩
      · obtain ⟨t1, t2, t3⟩ := bad1 HF.out 32 (by decide)
        rw [HNe.out] at t1
        have HT1 := Lib.hid t1
        have HT2 := Lib.hid (HSet.out _ ⟨t2, t3⟩).1
        have HOk1 := Lib.hid (ic_ok HF.out.ok t2 t3)
        clear t1
        have HT3 := Lib.hid (show 0 ≤ bits .or .u8 (imgH m).ic 32 ∧ bits .or .u8 (imgH m).ic 32 < 256 from ⟨t2, t3⟩)
        clear t2 t3
        go_wp2_with fail
        go_meet
        case rel =>
          have ho := own_set HO5.out 12 HT3.out.1 HT3.out.2
          exact ⟨7, some ⟨g5, 0, none⟩, c5, _, rfl, rfl, (own_cap ho).1, Lib.hid ⟨ho.bytes, ho.2.1, bad_of _ HOk1.out (by show 0 ≤ (imgH m).st ∧ (imgH m).st < 256; rw [HF.out.st]; decide) _ _ HT2.out N (by omega) 7 HT1.out (by decide)⟩, Lib.hid (BW5.out.setCell (p := ⟨g5, 12, none⟩) hg5 _)⟩
      · obtain ⟨t1, t2, t3⟩ := bad1 HF.out 64 (by decide)
        rw [HNe.out] at t1
        have HT1 := Lib.hid t1
        have HT2 := Lib.hid (HSet.out _ ⟨t2, t3⟩).1
        have HOk1 := Lib.hid (ic_ok HF.out.ok t2 t3)
        clear t1
        have HT3 := Lib.hid (show 0 ≤ bits .or .u8 (imgH m).ic 64 ∧ bits .or .u8 (imgH m).ic 64 < 256 from ⟨t2, t3⟩)
        clear t2 t3
        go_wp2_with fail
        go_meet
        case rel =>
          have ho := own_set HO5.out 12 HT3.out.1 HT3.out.2
          exact ⟨7, some ⟨g5, 0, none⟩, c5, _, rfl, rfl, (own_cap ho).1, Lib.hid ⟨ho.bytes, ho.2.1, bad_of _ HOk1.out (by show 0 ≤ (imgH m).st ∧ (imgH m).st < 256; rw [HF.out.st]; decide) _ _ HT2.out N (by omega) 7 HT1.out (by decide)⟩, Lib.hid (BW5.out.setCell (p := ⟨g5, 12, none⟩) hg5 _)⟩
      · obtain ⟨t1, t2, t3⟩ := bad1 HF.out 8 (by decide)
        rw [HNe.out] at t1
        have HT1 := Lib.hid t1
        have HT2 := Lib.hid (HSet.out _ ⟨t2, t3⟩).1
        have HOk1 := Lib.hid (ic_ok HF.out.ok t2 t3)
        clear t1
        have HT3 := Lib.hid (show 0 ≤ bits .or .u8 (imgH m).ic 8 ∧ bits .or .u8 (imgH m).ic 8 < 256 from ⟨t2, t3⟩)
        clear t2 t3
        go_wp2_with fail
        go_meet
        case rel =>
          have ho := own_set HO5.out 12 HT3.out.1 HT3.out.2
          exact ⟨7, some ⟨g5, 0, none⟩, c5, _, rfl, rfl, (own_cap ho).1, Lib.hid ⟨ho.bytes, ho.2.1, bad_of _ HOk1.out (by show 0 ≤ (imgH m).st ∧ (imgH m).st < 256; rw [HF.out.st]; decide) _ _ HT2.out N (by omega) 7 HT1.out (by decide)⟩, Lib.hid (BW5.out.setCell (p := ⟨g5, 12, none⟩) hg5 _)⟩
      · obtain ⟨t1, t2, t3⟩ := bad1 HF.out 16 (by decide)
        rw [HNe.out] at t1
        have HT1 := Lib.hid t1
        have HT2 := Lib.hid (HSet.out _ ⟨t2, t3⟩).1
        have HOk1 := Lib.hid (ic_ok HF.out.ok t2 t3)
        clear t1
        have HT3 := Lib.hid (show 0 ≤ bits .or .u8 (imgH m).ic 16 ∧ bits .or .u8 (imgH m).ic 16 < 256 from ⟨t2, t3⟩)
        clear t2 t3
        go_wp2_with fail
        go_meet
        case rel =>
          have ho := own_set HO5.out 12 HT3.out.1 HT3.out.2
          exact ⟨7, some ⟨g5, 0, none⟩, c5, _, rfl, rfl, (own_cap ho).1, Lib.hid ⟨ho.bytes, ho.2.1, bad_of _ HOk1.out (by show 0 ≤ (imgH m).st ∧ (imgH m).st < 256; rw [HF.out.st]; decide) _ _ HT2.out N (by omega) 7 HT1.out (by decide)⟩, Lib.hid (BW5.out.setCell (p := ⟨g5, 12, none⟩) hg5 _)⟩
      · obtain ⟨t1, t2, t3⟩ := bad1 HF.out 32 (by decide)
        rw [HNe.out] at t1
        have HT1 := Lib.hid t1
        have HT2 := Lib.hid (HSet.out _ ⟨t2, t3⟩).1
        have HOk1 := Lib.hid (ic_ok HF.out.ok t2 t3)
        clear t1
        have HT3 := Lib.hid (show 0 ≤ bits .or .u8 (imgH m).ic 32 ∧ bits .or .u8 (imgH m).ic 32 < 256 from ⟨t2, t3⟩)
        clear t2 t3
        go_wp2_with fail
        go_meet
        case rel =>
          have ho := own_set HO5.out 12 HT3.out.1 HT3.out.2
          exact ⟨7, some ⟨g5, 0, none⟩, c5, _, rfl, rfl, (own_cap ho).1, Lib.hid ⟨ho.bytes, ho.2.1, bad_of _ HOk1.out (by show 0 ≤ (imgH m).st ∧ (imgH m).st < 256; rw [HF.out.st]; decide) _ _ HT2.out N (by omega) 7 HT1.out (by decide)⟩, Lib.hid (BW5.out.setCell (p := ⟨g5, 12, none⟩) hg5 _)⟩
      · obtain ⟨t1, t2, t3⟩ := bad1 HF.out 64 (by decide)
        rw [HNe.out] at t1
        have HT1 := Lib.hid t1
        have HT2 := Lib.hid (HSet.out _ ⟨t2, t3⟩).1
        have HOk1 := Lib.hid (ic_ok HF.out.ok t2 t3)
        clear t1
        have HT3 := Lib.hid (show 0 ≤ bits .or .u8 (imgH m).ic 64 ∧ bits .or .u8 (imgH m).ic 64 < 256 from ⟨t2, t3⟩)
        clear t2 t3
        go_wp2_with fail
        go_meet
        case rel =>
          have ho := own_set HO5.out 12 HT3.out.1 HT3.out.2
          exact ⟨7, some ⟨g5, 0, none⟩, c5, _, rfl, rfl, (own_cap ho).1, Lib.hid ⟨ho.bytes, ho.2.1, bad_of _ HOk1.out (by show 0 ≤ (imgH m).st ∧ (imgH m).st < 256; rw [HF.out.st]; decide) _ _ HT2.out N (by omega) 7 HT1.out (by decide)⟩, Lib.hid (BW5.out.setCell (p := ⟨g5, 12, none⟩) hg5 _)⟩
    · have hy0 : 16 < N := by omega
      have hyi : (16 : Int) < (N : Int) := by omega
      have cv : w5.cell? ⟨g5, 16, none⟩ = some (.int .u8 ((imgB m).getD 16 0)) := own_cell HO5.out 16 hy0
      have cz : w5.frozen? ⟨g5, 16, none⟩ = false := own_fz HO5.out 16 hy0
      have hw8 : IntKind.u8.wrap (2 + (y : Int)) = 2 + (y : Int) := by rw [IntKind.wrap_u8]; omega
      generalize (imgB m).getD 16 0 = x0 at *
      go_wp2_with fail
      go_meet
      case rel =>
        have ho := own_set HO5.out 16 (x := 2 + (y : Int)) (by omega) (by omega)
        have hs := set_st8 (imgH m) (m.b.drop 272) (2 + (y : Int)) (by rw [HF.out.st]; decide) (by omega)
        have hbd := bad2 HF.out y hy17
        rw [HNe.out] at hbd
        exact ⟨8, some ⟨g5, 0, none⟩, c5, _, rfl, rfl, (own_cap ho).1, Lib.hid ⟨ho.bytes, ho.2.1, bad_of _ (st_ok HF.out.ok (by omega) (by omega)) (by show 0 ≤ 2 + (y : Int) ∧ 2 + (y : Int) < 256; omega) _ _ hs N (by omega) 8 hbd (by decide)⟩, Lib.hid (BW5.out.setCell (p := ⟨g5, 16, none⟩) hg5 _)⟩
    · have cv : w5.cell? ⟨s9, 67, none⟩ = some (.int .u64 ((imgH m).N 0)) := R5.out.cell ((imgH m).get_N 21 0 (by decide))
      rw [HF.out.n0] at cv
      have cz := R5.out.frozen 67
      have hw2 : IntKind.u64.wrap (272 + (y : Int)) = 272 + (y : Int) := by rw [IntKind.wrap_u64]; omega
      have hwy : IntKind.u64.wrap (y : Int) = (y : Int) := by rw [IntKind.wrap_u64]; omega
      go_upto_region 25 with fail
      have R6 := Lib.hid (show Blk (w5.setCell ⟨s9, 67, none⟩ (.int .u64 (272 + (y : Int)))) s9 ((setN (imgH m) 0 (272 + (y : Int))).cells 21) 31 from by
        have h := R5.out.set_ 67 (.int .u64 (272 + (y : Int)))
        rw [set_num _ 0 67 (by decide) rfl] at h
        exact h)
      have B6 := Lib.hid (show Below w2.heap.size w2 (w5.setCell ⟨s9, 67, none⟩ (.int .u64 (272 + (y : Int)))) from B25.out.setCell (p := ⟨s9, 67, none⟩) hs9 _)
      generalize w5.setCell ⟨s9, 67, none⟩ (.int .u64 (272 + (y : Int))) = w6 at *
      clear cv cz
      have ok6 : (setN (imgH m) 0 (272 + (y : Int))).Ok 21 := setN_ok HF.out.ok 0 _ (by omega)
      have HPut := Lib.hid fun (W : World) => hput_any (setN (imgH m) 0 (272 + (y : Int))) ok6 W
      unfold Owned at HPut
      have HBad := Lib.hid (bad_of (setN (imgH m) 0 (272 + (y : Int))) ok6 (by show 0 ≤ (imgH m).st ∧ (imgH m).st < 256; rw [HF.out.st]; decide) ((imgB m).drop 272) _ rfl N (by omega) 5 (by have h := bad3 HF.out y hy17; rw [HNe.out] at h; exact h) (by decide))
      have hcut : ∀ W : World, (Instr.slice 23 (.slice A N c) (some (.int .i64 272)) none none).run Try.prog W = .ok (.slice (cutA A c 272) (N - 272) (c - 272)) W := fun W => cut_l A N c 272 (by omega) W
      have D6 := Lib.hid (show Below w6.heap.size w6 w6.drew from (Below.refl w6.heap.size w6).drew)
      have HS := Lib.hid fun (W : World) (hW : Below w6.heap.size w6 W) => show (fun W : World => W.rangeAt s9 0 ((setN (imgH m) 0 (272 + (y : Int))).cells 21)) W from whole (R6.out.below hW R6.out.lt)
      have HBd := Lib.hid fun (W : World) (hW : Below w6.heap.size w6 W) => show Bytes W (cutA A c 272) ((imgB m).drop 272) from by
        have h := Bytes.cut ((HB2.out.below B6.out (Nat.le_refl _)).below hW (Nat.le_refl _)) c 272 (N - 272) (by rw [HLB.out]; exact hcap)
        rw [List.take_of_length_le (by rw [List.length_drop, HLB.out]; exact Nat.le_refl _)] at h
        exact h
      have hLd : ((imgB m).drop 272).length = N - 272 := by rw [List.length_drop, HLB.out]
      have hLp := HD.bytes_len (setN (imgH m) 0 (272 + (y : Int))) 21
      generalize hGe : (setN (imgH m) 0 (272 + (y : Int))) = G at *
      clear hGe
      refine wp_region_noPanic ?_
      refine wp_region_held_drew (S := fun W : World => W.rangeAt s9 0 (G.cells 21)) (by kernel_rfl) (by exact HS.out _ D6.out) (fun hHeld => ?_)
      refine wpAnyH_take (i := 0) (oi := ⟨some 75, _, _, _, _, _⟩) rfl (by kernel_rfl) (by kernel_rfl) (by kernel_rfl) (fun _ _ _ h => h) (yieldsIf_load_mid (by rfl) _ _ rfl _ _ rfl _ _ (fun _ h => h) Try.underlying31 rfl (hcells_len _)) (by assumption) ?_
      try simp only [Act.put, List.setIfInBounds_toArray, List.set_cons_zero, List.set_cons_succ]
      refine wpAnyH_take (i := 2) (oi := ⟨some 77, _, _, _, _, _⟩) (v := ?_) rfl (by kernel_rfl) (by kernel_rfl) (by kernel_rfl) (fun _ _ _ h => h) (Or.inl ⟨by rfl, ?_⟩) (by assumption) ?_
      rotate_left
      · intro W hSw; go_simp; try (with_reducible rfl)
      try simp only [Act.put, List.setIfInBounds_toArray, List.set_cons_zero, List.set_cons_succ]
      refine wpAnyH_take (i := 3) (oi := ⟨some 78, _, _, _, _, _⟩) (v := ?_) rfl (by kernel_rfl) (by kernel_rfl) (by kernel_rfl) (fun _ _ _ h => h) (Or.inl ⟨by rfl, ?_⟩) (by assumption) ?_
      rotate_left
      · intro W hSw; go_simp; try (with_reducible rfl)
      try simp only [Act.put, List.setIfInBounds_toArray, List.set_cons_zero, List.set_cons_succ]
      refine wpAnyH_ready (rs := [1]) (by kernel_rfl) (by simp) ?_
      refine AllReadyH.cons (o := ⟨some 76, _, _, _, _, _⟩) rfl (fun K hK => ?_) AllReadyH.nil
      go_simp
      ((refine (HPut.out _).mono ?_); rintro e w7 ⟨A7, c7, rfl, ho7, hb7⟩; have HO7 := Lib.hid ho7; have B7 := Lib.hid (D6.out.trans (hb7.mono D6.out.size)); clear ho7 hb7)
      try go_wp2_with fail
      refine hK.out _ _ (by exact (HS.out _ B7.out)) (fun hHeld => ?_)
      clear hK K
      try simp only [Act.put, List.setIfInBounds_toArray, List.set_cons_zero, List.set_cons_succ]
      refine wpAnyH_ready (rs := [4]) (by kernel_rfl) (by simp) ?_
      refine AllReadyH.cons (o := ⟨some 79, _, _, _, _, _⟩) rfl (fun K hK => ?_) AllReadyH.nil
      refine step_append_bytes (o := ⟨some 79, _, _, _, _, _⟩) rfl (.tmp 76) (.tmp 78) rfl w6.heap.size A7 272 c7 _ rfl HO7.out (cutA A c 272) (N - 272) (c - 272) ((imgB m).drop 272) rfl (HBd.out _ B7.out) hLd (by omega) ?_
      intro A8 c8 w8 ho8 hb8
      have HO8 := Lib.hid ho8
      have B8 := Lib.hid (B7.out.trans hb8)
      clear ho8 hb8
      refine hK.out _ _ (by exact (HS.out _ B8.out)) (fun hHeld => ?_)
      clear hK K
      try simp only [Act.put, List.setIfInBounds_toArray, List.set_cons_zero, List.set_cons_succ]
      refine wpAnyH_take (i := 5) (oi := ⟨some 12, _, _, _, _, _⟩) (v := ?_) rfl (by kernel_rfl) (by kernel_rfl) (by kernel_rfl) (fun _ _ _ h => h) (Or.inl ⟨by rfl, ?_⟩) (by assumption) ?_
      rotate_left
      · intro W hSw; go_simp; try (with_reducible rfl)
      try simp only [Act.put, List.setIfInBounds_toArray, List.set_cons_zero, List.set_cons_succ]
      refine wpAnyH_done (by kernel_rfl) ?_ _
      refine NoPanic.normal ?_
      go_wp2_with fail
      go_meet
      case rel =>
        have e9 : 272 + (N - 272) = N := by omega
        have ho := HO8.out
        rw [e9] at ho
        exact ⟨5, A8, c8, _, rfl, by rw [e9], (own_cap ho).1, Lib.hid ⟨ho.bytes, ho.2.1, HBad.out⟩, Lib.hid (BW2.out.trans ((B6.out.trans (B8.out.mono B6.out.size)).mono BW2.out.size))⟩
    · have cv : w5.cell? ⟨s9, 68, none⟩ = some (.int .u64 ((imgH m).N 1)) := R5.out.cell ((imgH m).get_N 21 1 (by decide))
      rw [HF.out.n1] at cv
      have cz := R5.out.frozen 68
      rw [HNe.out] at cv
      have hw1 : IntKind.u64.wrap (8 * (y : Int)) = 8 * (y : Int) := by rw [IntKind.wrap_u64]; omega
      have hw2 : IntKind.u64.wrap ((N : Int) - 272 + 8 * (y : Int)) = (N : Int) - 272 + 8 * (y : Int) := by rw [IntKind.wrap_u64]; omega
      have hwy : IntKind.u64.wrap (y : Int) = (y : Int) := by rw [IntKind.wrap_u64]; omega
      go_upto_region 29 with fail
      have R6 := Lib.hid (show Blk (w5.setCell ⟨s9, 68, none⟩ (.int .u64 ((N : Int) - 272 + 8 * (y : Int)))) s9 ((setN (imgH m) 1 ((N : Int) - 272 + 8 * (y : Int))).cells 21) 31 from by
        have h := R5.out.set_ 68 (.int .u64 ((N : Int) - 272 + 8 * (y : Int)))
        rw [set_num _ 1 68 (by decide) rfl] at h
        exact h)
      have B6 := Lib.hid (show Below w2.heap.size w2 (w5.setCell ⟨s9, 68, none⟩ (.int .u64 ((N : Int) - 272 + 8 * (y : Int)))) from B25.out.setCell (p := ⟨s9, 68, none⟩) hs9 _)
      generalize w5.setCell ⟨s9, 68, none⟩ (.int .u64 ((N : Int) - 272 + 8 * (y : Int))) = w6 at *
      clear cv cz
      have ok6 : (setN (imgH m) 1 ((N : Int) - 272 + 8 * (y : Int))).Ok 21 := setN_ok HF.out.ok 1 _ (by omega)
      have HPut := Lib.hid fun (W : World) => hput_any (setN (imgH m) 1 ((N : Int) - 272 + 8 * (y : Int))) ok6 W
      unfold Owned at HPut
      have HBad := Lib.hid (bad_of (setN (imgH m) 1 ((N : Int) - 272 + 8 * (y : Int))) ok6 (by show 0 ≤ (imgH m).st ∧ (imgH m).st < 256; rw [HF.out.st]; decide) ((imgB m).drop 272) _ rfl N (by omega) 2 (by have h := bad4 HF.out y hy17; rw [HNe.out] at h; exact h) (by decide))
      have hcut : ∀ W : World, (Instr.slice 23 (.slice A N c) (some (.int .i64 272)) none none).run Try.prog W = .ok (.slice (cutA A c 272) (N - 272) (c - 272)) W := fun W => cut_l A N c 272 (by omega) W
      have D6 := Lib.hid (show Below w6.heap.size w6 w6.drew from (Below.refl w6.heap.size w6).drew)
      have HS := Lib.hid fun (W : World) (hW : Below w6.heap.size w6 W) => show (fun W : World => W.rangeAt s9 0 ((setN (imgH m) 1 ((N : Int) - 272 + 8 * (y : Int))).cells 21)) W from whole (R6.out.below hW R6.out.lt)
      have HBd := Lib.hid fun (W : World) (hW : Below w6.heap.size w6 W) => show Bytes W (cutA A c 272) ((imgB m).drop 272) from by
        have h := Bytes.cut ((HB2.out.below B6.out (Nat.le_refl _)).below hW (Nat.le_refl _)) c 272 (N - 272) (by rw [HLB.out]; exact hcap)
        rw [List.take_of_length_le (by rw [List.length_drop, HLB.out]; exact Nat.le_refl _)] at h
        exact h
      have hLd : ((imgB m).drop 272).length = N - 272 := by rw [List.length_drop, HLB.out]
      have hLp := HD.bytes_len (setN (imgH m) 1 ((N : Int) - 272 + 8 * (y : Int))) 21
      generalize hGe : (setN (imgH m) 1 ((N : Int) - 272 + 8 * (y : Int))) = G at *
      clear hGe
      refine wp_region_noPanic ?_
      refine wp_region_held_drew (S := fun W : World => W.rangeAt s9 0 (G.cells 21)) (by kernel_rfl) (by exact HS.out _ D6.out) (fun hHeld => ?_)
      refine wpAnyH_take (i := 0) (oi := ⟨some 89, _, _, _, _, _⟩) rfl (by kernel_rfl) (by kernel_rfl) (by kernel_rfl) (fun _ _ _ h => h) (yieldsIf_load_mid (by rfl) _ _ rfl _ _ rfl _ _ (fun _ h => h) Try.underlying31 rfl (hcells_len _)) (by assumption) ?_
      try simp only [Act.put, List.setIfInBounds_toArray, List.set_cons_zero, List.set_cons_succ]
      refine wpAnyH_take (i := 2) (oi := ⟨some 91, _, _, _, _, _⟩) (v := ?_) rfl (by kernel_rfl) (by kernel_rfl) (by kernel_rfl) (fun _ _ _ h => h) (Or.inl ⟨by rfl, ?_⟩) (by assumption) ?_
      rotate_left
      · intro W hSw; go_simp; try (with_reducible rfl)
      try simp only [Act.put, List.setIfInBounds_toArray, List.set_cons_zero, List.set_cons_succ]
      refine wpAnyH_take (i := 3) (oi := ⟨some 92, _, _, _, _, _⟩) (v := ?_) rfl (by kernel_rfl) (by kernel_rfl) (by kernel_rfl) (fun _ _ _ h => h) (Or.inl ⟨by rfl, ?_⟩) (by assumption) ?_
      rotate_left
      · intro W hSw; go_simp; try (with_reducible rfl)
      try simp only [Act.put, List.setIfInBounds_toArray, List.set_cons_zero, List.set_cons_succ]
      refine wpAnyH_ready (rs := [1]) (by kernel_rfl) (by simp) ?_
      refine AllReadyH.cons (o := ⟨some 90, _, _, _, _, _⟩) rfl (fun K hK => ?_) AllReadyH.nil
      go_simp
      ((refine (HPut.out _).mono ?_); rintro e w7 ⟨A7, c7, rfl, ho7, hb7⟩; have HO7 := Lib.hid ho7; have B7 := Lib.hid (D6.out.trans (hb7.mono D6.out.size)); clear ho7 hb7)
      try go_wp2_with fail
      refine hK.out _ _ (by exact (HS.out _ B7.out)) (fun hHeld => ?_)
      clear hK K
      try simp only [Act.put, List.setIfInBounds_toArray, List.set_cons_zero, List.set_cons_succ]
      refine wpAnyH_ready (rs := [4]) (by kernel_rfl) (by simp) ?_
      refine AllReadyH.cons (o := ⟨some 93, _, _, _, _, _⟩) rfl (fun K hK => ?_) AllReadyH.nil
      refine step_append_bytes (o := ⟨some 93, _, _, _, _, _⟩) rfl (.tmp 90) (.tmp 92) rfl w6.heap.size A7 272 c7 _ rfl HO7.out (cutA A c 272) (N - 272) (c - 272) ((imgB m).drop 272) rfl (HBd.out _ B7.out) hLd (by omega) ?_
      intro A8 c8 w8 ho8 hb8
      have HO8 := Lib.hid ho8
      have B8 := Lib.hid (B7.out.trans hb8)
      clear ho8 hb8
      refine hK.out _ _ (by exact (HS.out _ B8.out)) (fun hHeld => ?_)
      clear hK K
      try simp only [Act.put, List.setIfInBounds_toArray, List.set_cons_zero, List.set_cons_succ]
      refine wpAnyH_take (i := 5) (oi := ⟨some 12, _, _, _, _, _⟩) (v := ?_) rfl (by kernel_rfl) (by kernel_rfl) (by kernel_rfl) (fun _ _ _ h => h) (Or.inl ⟨by rfl, ?_⟩) (by assumption) ?_
      rotate_left
      · intro W hSw; go_simp; try (with_reducible rfl)
      try simp only [Act.put, List.setIfInBounds_toArray, List.set_cons_zero, List.set_cons_succ]
      refine wpAnyH_done (by kernel_rfl) ?_ _
      refine NoPanic.normal ?_
      go_wp2_with fail
      go_meet
      case rel =>
        have e9 : 272 + (N - 272) = N := by omega
        have ho := HO8.out
        rw [e9] at ho
        exact ⟨2, A8, c8, _, rfl, by rw [e9], (own_cap ho).1, Lib.hid ⟨ho.bytes, ho.2.1, HBad.out⟩, Lib.hid (BW2.out.trans ((B6.out.trans (B8.out.mono B6.out.size)).mono BW2.out.size))⟩
    · have cv : w5.cell? ⟨s9, 69, none⟩ = some (.int .u64 ((imgH m).N 2)) := R5.out.cell ((imgH m).get_N 21 2 (by decide))
      rw [HF.out.n2] at cv
      have cz := R5.out.frozen 69
      have hw2 : IntKind.u64.wrap (288 + (y : Int)) = 288 + (y : Int) := by rw [IntKind.wrap_u64]; omega
      have hwy : IntKind.u64.wrap (y : Int) = (y : Int) := by rw [IntKind.wrap_u64]; omega
      go_upto_region 33 with fail
      have R6 := Lib.hid (show Blk (w5.setCell ⟨s9, 69, none⟩ (.int .u64 (288 + (y : Int)))) s9 ((setN (imgH m) 2 (288 + (y : Int))).cells 21) 31 from by
        have h := R5.out.set_ 69 (.int .u64 (288 + (y : Int)))
        rw [set_num _ 2 69 (by decide) rfl] at h
        exact h)
      have B6 := Lib.hid (show Below w2.heap.size w2 (w5.setCell ⟨s9, 69, none⟩ (.int .u64 (288 + (y : Int)))) from B25.out.setCell (p := ⟨s9, 69, none⟩) hs9 _)
      generalize w5.setCell ⟨s9, 69, none⟩ (.int .u64 (288 + (y : Int))) = w6 at *
      clear cv cz
      have ok6 : (setN (imgH m) 2 (288 + (y : Int))).Ok 21 := setN_ok HF.out.ok 2 _ (by omega)
      have HPut := Lib.hid fun (W : World) => hput_any (setN (imgH m) 2 (288 + (y : Int))) ok6 W
      unfold Owned at HPut
      have HBad := Lib.hid (bad_of (setN (imgH m) 2 (288 + (y : Int))) ok6 (by show 0 ≤ (imgH m).st ∧ (imgH m).st < 256; rw [HF.out.st]; decide) ((imgB m).drop 272) _ rfl N (by omega) 3 (by have h := bad5 HF.out y hy17; rw [HNe.out] at h; exact h) (by decide))
      have hcut : ∀ W : World, (Instr.slice 23 (.slice A N c) (some (.int .i64 272)) none none).run Try.prog W = .ok (.slice (cutA A c 272) (N - 272) (c - 272)) W := fun W => cut_l A N c 272 (by omega) W
      have D6 := Lib.hid (show Below w6.heap.size w6 w6.drew from (Below.refl w6.heap.size w6).drew)
      have HS := Lib.hid fun (W : World) (hW : Below w6.heap.size w6 W) => show (fun W : World => W.rangeAt s9 0 ((setN (imgH m) 2 (288 + (y : Int))).cells 21)) W from whole (R6.out.below hW R6.out.lt)
      have HBd := Lib.hid fun (W : World) (hW : Below w6.heap.size w6 W) => show Bytes W (cutA A c 272) ((imgB m).drop 272) from by
        have h := Bytes.cut ((HB2.out.below B6.out (Nat.le_refl _)).below hW (Nat.le_refl _)) c 272 (N - 272) (by rw [HLB.out]; exact hcap)
        rw [List.take_of_length_le (by rw [List.length_drop, HLB.out]; exact Nat.le_refl _)] at h
        exact h
      have hLd : ((imgB m).drop 272).length = N - 272 := by rw [List.length_drop, HLB.out]
      have hLp := HD.bytes_len (setN (imgH m) 2 (288 + (y : Int))) 21
      generalize hGe : (setN (imgH m) 2 (288 + (y : Int))) = G at *
      clear hGe
      refine wp_region_noPanic ?_
      refine wp_region_held_drew (S := fun W : World => W.rangeAt s9 0 (G.cells 21)) (by kernel_rfl) (by exact HS.out _ D6.out) (fun hHeld => ?_)
      refine wpAnyH_take (i := 0) (oi := ⟨some 102, _, _, _, _, _⟩) rfl (by kernel_rfl) (by kernel_rfl) (by kernel_rfl) (fun _ _ _ h => h) (yieldsIf_load_mid (by rfl) _ _ rfl _ _ rfl _ _ (fun _ h => h) Try.underlying31 rfl (hcells_len _)) (by assumption) ?_
      try simp only [Act.put, List.setIfInBounds_toArray, List.set_cons_zero, List.set_cons_succ]
      refine wpAnyH_take (i := 2) (oi := ⟨some 104, _, _, _, _, _⟩) (v := ?_) rfl (by kernel_rfl) (by kernel_rfl) (by kernel_rfl) (fun _ _ _ h => h) (Or.inl ⟨by rfl, ?_⟩) (by assumption) ?_
      rotate_left
      · intro W hSw; go_simp; try (with_reducible rfl)
      try simp only [Act.put, List.setIfInBounds_toArray, List.set_cons_zero, List.set_cons_succ]
      refine wpAnyH_take (i := 3) (oi := ⟨some 105, _, _, _, _, _⟩) (v := ?_) rfl (by kernel_rfl) (by kernel_rfl) (by kernel_rfl) (fun _ _ _ h => h) (Or.inl ⟨by rfl, ?_⟩) (by assumption) ?_
      rotate_left
      · intro W hSw; go_simp; try (with_reducible rfl)
      try simp only [Act.put, List.setIfInBounds_toArray, List.set_cons_zero, List.set_cons_succ]
      refine wpAnyH_ready (rs := [1]) (by kernel_rfl) (by simp) ?_
      refine AllReadyH.cons (o := ⟨some 103, _, _, _, _, _⟩) rfl (fun K hK => ?_) AllReadyH.nil
      go_simp
      ((refine (HPut.out _).mono ?_); rintro e w7 ⟨A7, c7, rfl, ho7, hb7⟩; have HO7 := Lib.hid ho7; have B7 := Lib.hid (D6.out.trans (hb7.mono D6.out.size)); clear ho7 hb7)
      try go_wp2_with fail
      refine hK.out _ _ (by exact (HS.out _ B7.out)) (fun hHeld => ?_)
      clear hK K
      try simp only [Act.put, List.setIfInBounds_toArray, List.set_cons_zero, List.set_cons_succ]
      refine wpAnyH_ready (rs := [4]) (by kernel_rfl) (by simp) ?_
      refine AllReadyH.cons (o := ⟨some 106, _, _, _, _, _⟩) rfl (fun K hK => ?_) AllReadyH.nil
      refine step_append_bytes (o := ⟨some 106, _, _, _, _, _⟩) rfl (.tmp 103) (.tmp 105) rfl w6.heap.size A7 272 c7 _ rfl HO7.out (cutA A c 272) (N - 272) (c - 272) ((imgB m).drop 272) rfl (HBd.out _ B7.out) hLd (by omega) ?_
      intro A8 c8 w8 ho8 hb8
      have HO8 := Lib.hid ho8
      have B8 := Lib.hid (B7.out.trans hb8)
      clear ho8 hb8
      refine hK.out _ _ (by exact (HS.out _ B8.out)) (fun hHeld => ?_)
      clear hK K
      try simp only [Act.put, List.setIfInBounds_toArray, List.set_cons_zero, List.set_cons_succ]
      refine wpAnyH_take (i := 5) (oi := ⟨some 12, _, _, _, _, _⟩) (v := ?_) rfl (by kernel_rfl) (by kernel_rfl) (by kernel_rfl) (fun _ _ _ h => h) (Or.inl ⟨by rfl, ?_⟩) (by assumption) ?_
      rotate_left
      · intro W hSw; go_simp; try (with_reducible rfl)
      try simp only [Act.put, List.setIfInBounds_toArray, List.set_cons_zero, List.set_cons_succ]
      refine wpAnyH_done (by kernel_rfl) ?_ _
      refine NoPanic.normal ?_
      go_wp2_with fail
      go_meet
      case rel =>
        have e9 : 272 + (N - 272) = N := by omega
        have ho := HO8.out
        rw [e9] at ho
        exact ⟨3, A8, c8, _, rfl, by rw [e9], (own_cap ho).1, Lib.hid ⟨ho.bytes, ho.2.1, HBad.out⟩, Lib.hid (BW2.out.trans ((B6.out.trans (B8.out.mono B6.out.size)).mono BW2.out.size))⟩
    · have cv : w5.cell? ⟨s9, 72, none⟩ = some (.int .u64 ((imgH m).N 5)) := R5.out.cell ((imgH m).get_N 21 5 (by decide))
      rw [HF.out.n5] at cv
      have cz := R5.out.frozen 72
      rw [HFs.out] at cv
      have hw2 : IntKind.u64.wrap (16 * (fs : Int) + (y : Int)) = 16 * (fs : Int) + (y : Int) := by rw [IntKind.wrap_u64]; omega
      have hwy : IntKind.u64.wrap (y : Int) = (y : Int) := by rw [IntKind.wrap_u64]; omega
      go_upto_region 37 with fail
      have R6 := Lib.hid (show Blk (w5.setCell ⟨s9, 72, none⟩ (.int .u64 (16 * (fs : Int) + (y : Int)))) s9 ((setN (imgH m) 5 (16 * (fs : Int) + (y : Int))).cells 21) 31 from by
        have h := R5.out.set_ 72 (.int .u64 (16 * (fs : Int) + (y : Int)))
        rw [set_num _ 5 72 (by decide) rfl] at h
        exact h)
      have B6 := Lib.hid (show Below w2.heap.size w2 (w5.setCell ⟨s9, 72, none⟩ (.int .u64 (16 * (fs : Int) + (y : Int)))) from B25.out.setCell (p := ⟨s9, 72, none⟩) hs9 _)
      generalize w5.setCell ⟨s9, 72, none⟩ (.int .u64 (16 * (fs : Int) + (y : Int))) = w6 at *
      clear cv cz
      have ok6 : (setN (imgH m) 5 (16 * (fs : Int) + (y : Int))).Ok 21 := setN_ok HF.out.ok 5 _ (by omega)
      have HPut := Lib.hid fun (W : World) => hput_any (setN (imgH m) 5 (16 * (fs : Int) + (y : Int))) ok6 W
      unfold Owned at HPut
      have HBad := Lib.hid (bad_of (setN (imgH m) 5 (16 * (fs : Int) + (y : Int))) ok6 (by show 0 ≤ (imgH m).st ∧ (imgH m).st < 256; rw [HF.out.st]; decide) ((imgB m).drop 272) _ rfl N (by omega) 5 (by have h := bad6 HF.out y hy17; rw [HNe.out, HFs.out] at h; exact h) (by decide))
      have hcut : ∀ W : World, (Instr.slice 23 (.slice A N c) (some (.int .i64 272)) none none).run Try.prog W = .ok (.slice (cutA A c 272) (N - 272) (c - 272)) W := fun W => cut_l A N c 272 (by omega) W
      have D6 := Lib.hid (show Below w6.heap.size w6 w6.drew from (Below.refl w6.heap.size w6).drew)
      have HS := Lib.hid fun (W : World) (hW : Below w6.heap.size w6 W) => show (fun W : World => W.rangeAt s9 0 ((setN (imgH m) 5 (16 * (fs : Int) + (y : Int))).cells 21)) W from whole (R6.out.below hW R6.out.lt)
      have HBd := Lib.hid fun (W : World) (hW : Below w6.heap.size w6 W) => show Bytes W (cutA A c 272) ((imgB m).drop 272) from by
        have h := Bytes.cut ((HB2.out.below B6.out (Nat.le_refl _)).below hW (Nat.le_refl _)) c 272 (N - 272) (by rw [HLB.out]; exact hcap)
        rw [List.take_of_length_le (by rw [List.length_drop, HLB.out]; exact Nat.le_refl _)] at h
        exact h
      have hLd : ((imgB m).drop 272).length = N - 272 := by rw [List.length_drop, HLB.out]
      have hLp := HD.bytes_len (setN (imgH m) 5 (16 * (fs : Int) + (y : Int))) 21
      generalize hGe : (setN (imgH m) 5 (16 * (fs : Int) + (y : Int))) = G at *
      clear hGe
      refine wp_region_noPanic ?_
      refine wp_region_held_drew (S := fun W : World => W.rangeAt s9 0 (G.cells 21)) (by kernel_rfl) (by exact HS.out _ D6.out) (fun hHeld => ?_)
      refine wpAnyH_take (i := 0) (oi := ⟨some 115, _, _, _, _, _⟩) rfl (by kernel_rfl) (by kernel_rfl) (by kernel_rfl) (fun _ _ _ h => h) (yieldsIf_load_mid (by rfl) _ _ rfl _ _ rfl _ _ (fun _ h => h) Try.underlying31 rfl (hcells_len _)) (by assumption) ?_
      try simp only [Act.put, List.setIfInBounds_toArray, List.set_cons_zero, List.set_cons_succ]
      refine wpAnyH_take (i := 2) (oi := ⟨some 117, _, _, _, _, _⟩) (v := ?_) rfl (by kernel_rfl) (by kernel_rfl) (by kernel_rfl) (fun _ _ _ h => h) (Or.inl ⟨by rfl, ?_⟩) (by assumption) ?_
      rotate_left
      · intro W hSw; go_simp; try (with_reducible rfl)
      try simp only [Act.put, List.setIfInBounds_toArray, List.set_cons_zero, List.set_cons_succ]
      refine wpAnyH_take (i := 3) (oi := ⟨some 118, _, _, _, _, _⟩) (v := ?_) rfl (by kernel_rfl) (by kernel_rfl) (by kernel_rfl) (fun _ _ _ h => h) (Or.inl ⟨by rfl, ?_⟩) (by assumption) ?_
      rotate_left
      · intro W hSw; go_simp; try (with_reducible rfl)
      try simp only [Act.put, List.setIfInBounds_toArray, List.set_cons_zero, List.set_cons_succ]
      refine wpAnyH_ready (rs := [1]) (by kernel_rfl) (by simp) ?_
      refine AllReadyH.cons (o := ⟨some 116, _, _, _, _, _⟩) rfl (fun K hK => ?_) AllReadyH.nil
      go_simp
      ((refine (HPut.out _).mono ?_); rintro e w7 ⟨A7, c7, rfl, ho7, hb7⟩; have HO7 := Lib.hid ho7; have B7 := Lib.hid (D6.out.trans (hb7.mono D6.out.size)); clear ho7 hb7)
      try go_wp2_with fail
      refine hK.out _ _ (by exact (HS.out _ B7.out)) (fun hHeld => ?_)
      clear hK K
      try simp only [Act.put, List.setIfInBounds_toArray, List.set_cons_zero, List.set_cons_succ]
      refine wpAnyH_ready (rs := [4]) (by kernel_rfl) (by simp) ?_
      refine AllReadyH.cons (o := ⟨some 119, _, _, _, _, _⟩) rfl (fun K hK => ?_) AllReadyH.nil
      refine step_append_bytes (o := ⟨some 119, _, _, _, _, _⟩) rfl (.tmp 116) (.tmp 118) rfl w6.heap.size A7 272 c7 _ rfl HO7.out (cutA A c 272) (N - 272) (c - 272) ((imgB m).drop 272) rfl (HBd.out _ B7.out) hLd (by omega) ?_
      intro A8 c8 w8 ho8 hb8
      have HO8 := Lib.hid ho8
      have B8 := Lib.hid (B7.out.trans hb8)
      clear ho8 hb8
      refine hK.out _ _ (by exact (HS.out _ B8.out)) (fun hHeld => ?_)
      clear hK K
      try simp only [Act.put, List.setIfInBounds_toArray, List.set_cons_zero, List.set_cons_succ]
      refine wpAnyH_take (i := 5) (oi := ⟨some 12, _, _, _, _, _⟩) (v := ?_) rfl (by kernel_rfl) (by kernel_rfl) (by kernel_rfl) (fun _ _ _ h => h) (Or.inl ⟨by rfl, ?_⟩) (by assumption) ?_
      rotate_left
      · intro W hSw; go_simp; try (with_reducible rfl)
      try simp only [Act.put, List.setIfInBounds_toArray, List.set_cons_zero, List.set_cons_succ]
      refine wpAnyH_done (by kernel_rfl) ?_ _
      refine NoPanic.normal ?_
      go_wp2_with fail
      go_meet
      case rel =>
        have e9 : 272 + (N - 272) = N := by omega
        have ho := HO8.out
        rw [e9] at ho
        exact ⟨5, A8, c8, _, rfl, by rw [e9], (own_cap ho).1, Lib.hid ⟨ho.bytes, ho.2.1, HBad.out⟩, Lib.hid (BW2.out.trans ((B6.out.trans (B8.out.mono B6.out.size)).mono BW2.out.size))⟩
    · have cv : w5.cell? ⟨s9, 71, none⟩ = some (.int .u64 ((imgH m).N 4)) := R5.out.cell ((imgH m).get_N 21 4 (by decide))
      rw [HF.out.n4] at cv
      have cz := R5.out.frozen 71
      have hw1 : IntKind.u64.wrap (8 * (y : Int)) = 8 * (y : Int) := by rw [IntKind.wrap_u64]; omega
      have hwy : IntKind.u64.wrap (y : Int) = (y : Int) := by rw [IntKind.wrap_u64]; omega
      go_upto_region 41 with fail
      have R6 := Lib.hid (show Blk (w5.setCell ⟨s9, 71, none⟩ (.int .u64 (8 * (y : Int)))) s9 ((setN (imgH m) 4 (8 * (y : Int))).cells 21) 31 from by
        have h := R5.out.set_ 71 (.int .u64 (8 * (y : Int)))
        rw [set_num _ 4 71 (by decide) rfl] at h
        exact h)
      have B6 := Lib.hid (show Below w2.heap.size w2 (w5.setCell ⟨s9, 71, none⟩ (.int .u64 (8 * (y : Int)))) from B25.out.setCell (p := ⟨s9, 71, none⟩) hs9 _)
      generalize w5.setCell ⟨s9, 71, none⟩ (.int .u64 (8 * (y : Int))) = w6 at *
      clear cv cz
      have ok6 : (setN (imgH m) 4 (8 * (y : Int))).Ok 21 := setN_ok HF.out.ok 4 _ (by omega)
      have HPut := Lib.hid fun (W : World) => hput_any (setN (imgH m) 4 (8 * (y : Int))) ok6 W
      unfold Owned at HPut
      have HBad := Lib.hid (bad_of (setN (imgH m) 4 (8 * (y : Int))) ok6 (by show 0 ≤ (imgH m).st ∧ (imgH m).st < 256; rw [HF.out.st]; decide) ((imgB m).drop 272) _ rfl N (by omega) 2 (by have h := bad7 HF.out y hy17; rw [HNe.out] at h; exact h) (by decide))
      have hcut : ∀ W : World, (Instr.slice 23 (.slice A N c) (some (.int .i64 272)) none none).run Try.prog W = .ok (.slice (cutA A c 272) (N - 272) (c - 272)) W := fun W => cut_l A N c 272 (by omega) W
      have D6 := Lib.hid (show Below w6.heap.size w6 w6.drew from (Below.refl w6.heap.size w6).drew)
      have HS := Lib.hid fun (W : World) (hW : Below w6.heap.size w6 W) => show (fun W : World => W.rangeAt s9 0 ((setN (imgH m) 4 (8 * (y : Int))).cells 21)) W from whole (R6.out.below hW R6.out.lt)
      have HBd := Lib.hid fun (W : World) (hW : Below w6.heap.size w6 W) => show Bytes W (cutA A c 272) ((imgB m).drop 272) from by
        have h := Bytes.cut ((HB2.out.below B6.out (Nat.le_refl _)).below hW (Nat.le_refl _)) c 272 (N - 272) (by rw [HLB.out]; exact hcap)
        rw [List.take_of_length_le (by rw [List.length_drop, HLB.out]; exact Nat.le_refl _)] at h
        exact h
      have hLd : ((imgB m).drop 272).length = N - 272 := by rw [List.length_drop, HLB.out]
      have hLp := HD.bytes_len (setN (imgH m) 4 (8 * (y : Int))) 21
      generalize hGe : (setN (imgH m) 4 (8 * (y : Int))) = G at *
      clear hGe
      refine wp_region_noPanic ?_
      refine wp_region_held_drew (S := fun W : World => W.rangeAt s9 0 (G.cells 21)) (by kernel_rfl) (by exact HS.out _ D6.out) (fun hHeld => ?_)
      refine wpAnyH_take (i := 0) (oi := ⟨some 126, _, _, _, _, _⟩) rfl (by kernel_rfl) (by kernel_rfl) (by kernel_rfl) (fun _ _ _ h => h) (yieldsIf_load_mid (by rfl) _ _ rfl _ _ rfl _ _ (fun _ h => h) Try.underlying31 rfl (hcells_len _)) (by assumption) ?_
      try simp only [Act.put, List.setIfInBounds_toArray, List.set_cons_zero, List.set_cons_succ]
      refine wpAnyH_take (i := 2) (oi := ⟨some 128, _, _, _, _, _⟩) (v := ?_) rfl (by kernel_rfl) (by kernel_rfl) (by kernel_rfl) (fun _ _ _ h => h) (Or.inl ⟨by rfl, ?_⟩) (by assumption) ?_
      rotate_left
      · intro W hSw; go_simp; try (with_reducible rfl)
      try simp only [Act.put, List.setIfInBounds_toArray, List.set_cons_zero, List.set_cons_succ]
      refine wpAnyH_take (i := 3) (oi := ⟨some 129, _, _, _, _, _⟩) (v := ?_) rfl (by kernel_rfl) (by kernel_rfl) (by kernel_rfl) (fun _ _ _ h => h) (Or.inl ⟨by rfl, ?_⟩) (by assumption) ?_
      rotate_left
      · intro W hSw; go_simp; try (with_reducible rfl)
      try simp only [Act.put, List.setIfInBounds_toArray, List.set_cons_zero, List.set_cons_succ]
      refine wpAnyH_ready (rs := [1]) (by kernel_rfl) (by simp) ?_
      refine AllReadyH.cons (o := ⟨some 127, _, _, _, _, _⟩) rfl (fun K hK => ?_) AllReadyH.nil
      go_simp
      ((refine (HPut.out _).mono ?_); rintro e w7 ⟨A7, c7, rfl, ho7, hb7⟩; have HO7 := Lib.hid ho7; have B7 := Lib.hid (D6.out.trans (hb7.mono D6.out.size)); clear ho7 hb7)
      try go_wp2_with fail
      refine hK.out _ _ (by exact (HS.out _ B7.out)) (fun hHeld => ?_)
      clear hK K
      try simp only [Act.put, List.setIfInBounds_toArray, List.set_cons_zero, List.set_cons_succ]
      refine wpAnyH_ready (rs := [4]) (by kernel_rfl) (by simp) ?_
      refine AllReadyH.cons (o := ⟨some 130, _, _, _, _, _⟩) rfl (fun K hK => ?_) AllReadyH.nil
      refine step_append_bytes (o := ⟨some 130, _, _, _, _, _⟩) rfl (.tmp 127) (.tmp 129) rfl w6.heap.size A7 272 c7 _ rfl HO7.out (cutA A c 272) (N - 272) (c - 272) ((imgB m).drop 272) rfl (HBd.out _ B7.out) hLd (by omega) ?_
      intro A8 c8 w8 ho8 hb8
      have HO8 := Lib.hid ho8
      have B8 := Lib.hid (B7.out.trans hb8)
      clear ho8 hb8
      refine hK.out _ _ (by exact (HS.out _ B8.out)) (fun hHeld => ?_)
      clear hK K
      try simp only [Act.put, List.setIfInBounds_toArray, List.set_cons_zero, List.set_cons_succ]
      refine wpAnyH_take (i := 5) (oi := ⟨some 12, _, _, _, _, _⟩) (v := ?_) rfl (by kernel_rfl) (by kernel_rfl) (by kernel_rfl) (fun _ _ _ h => h) (Or.inl ⟨by rfl, ?_⟩) (by assumption) ?_
      rotate_left
      · intro W hSw; go_simp; try (with_reducible rfl)
      try simp only [Act.put, List.setIfInBounds_toArray, List.set_cons_zero, List.set_cons_succ]
      refine wpAnyH_done (by kernel_rfl) ?_ _
      refine NoPanic.normal ?_
      go_wp2_with fail
      go_meet
      case rel =>
        have e9 : 272 + (N - 272) = N := by omega
        have ho := HO8.out
        rw [e9] at ho
        exact ⟨2, A8, c8, _, rfl, by rw [e9], (own_cap ho).1, Lib.hid ⟨ho.bytes, ho.2.1, HBad.out⟩, Lib.hid (BW2.out.trans ((B6.out.trans (B8.out.mono B6.out.size)).mono BW2.out.size))⟩
  case rest =>
    obtain ⟨x0, A', c', l', rfl, rfl, hc', hbb, hbw⟩ := hcut
    have RB := Lib.hid (read_bad A' N c' wc hbb.out.2.2 hbb.out.1 hbb.out.2.1 (by omega) hc')
    unfold HTold at RB
    have heq0 := fun W : World => head_eql hd0 (hd0_ok 21) W
    have HBW := hbw
    clear hbb hbw
    go_upto_region 44 with (first
      | (go_at_call 8; ((refine RB.out.mono ?_); rintro e w9 ⟨rfl, hb9⟩; have B9 := Lib.hid (HBW.out.trans (hb9.mono HBW.out.size)); clear hb9))
      | ((with_reducible apply at_store (.tmp 13) (.tmp 134)); refine wpList_store_row rfl 31 (.tmp 13) (.tmp 134) rfl w9.heap.size (hd0.cells 21).toArray rfl rfl 31 Try.zeroCells31 (heap_alloc_new w9 _) (cells_info _) zeros_size (HD.one _ 21) ?_)
      | fail)
    have R10 := Lib.hid (show Blk ((w9.alloc (.cells Try.zeroCells31 31)).setRow w9.heap.size (hd0.cells 21).toArray) w9.heap.size (hd0.cells 21) 31 from setRow_heap _ _ _ _ _ (0, 0) (heap_alloc_new w9 _))
    have B10 := Lib.hid (show Below w.heap.size w ((w9.alloc (.cells Try.zeroCells31 31)).setRow w9.heap.size (hd0.cells 21).toArray) from below_setRow (B9.out.alloc B9.out.size _) B9.out.size _)
    generalize (w9.alloc (.cells Try.zeroCells31 31)).setRow w9.heap.size (hd0.cells 21).toArray = w10 at *
    go_wp2_with (first
      | ((with_reducible apply at_slot 143); refine wpList_load_row_want rfl 31 (.tmp 13) rfl w9.heap.size rfl 31 (hd0.cells 21).toArray (0, 0) _ R10.out Try.underlying31 rfl (cells_info _) ?_)
      | ((with_reducible apply at_slot 144); refine wpList_build_zero rfl 31 rfl _ zero_built ?_)
      | fail)
    go_ret
    exact ⟨rfl, B10.out⟩
theorem walk (a : Option Addr) (len cap : Nat) (z : List Int) (which by_ : Int) (w : World) (h : IsRow .i64 w a len cap z) (h1 : (Lit.int .i64 which).wf = true) (h2 : (Lit.int .i64 by_).wf = true) :
    Calls Try.prog 4 #[.slice a len cap, .int .i64 which, .int .i64 by_] w fun e w' => e = .returned (.bool true) ∧ Below w.heap.size w w' := by
  obtain ⟨hI, _, _⟩ := ints_in h
  by_cases h4 : len ≤ 60
  · exact walk_main a len cap _ which by_ w hI h4
  · have d1 : decide ((60 : Int) < (len : Int)) = true := by simp; omega
    clear h hI
    go_enter Try.func4, Try.ntmps4
    go_wp2_with (go_at_call 6; ((with_reducible refine (first_any _).mono ?_); rintro e w1 ⟨rfl, hb1⟩; have B1 := Lib.hid hb1; clear hb1))
    go_ret
    exact ⟨rfl, B1.out⟩
end Go.Proofs.Ytecoenaojofgbaa.HeadWrongW
