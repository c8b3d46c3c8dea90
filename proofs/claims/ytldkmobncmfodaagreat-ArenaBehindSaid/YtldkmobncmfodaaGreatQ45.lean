/-
  Texts beneath the proof, one behind the other.
-/
import Derived.Test.YtldkmobncmfodaaGreatQ44
import Derived.Test.YtldkmobncmfodaaGreatQ12
import Derived.Test.YtldkmobncmfodaaGreatQ4
import Derived.Test.YtldkmobncmfodaaGreatQ6

/-
  The walk of ArenaBehind.
-/
namespace Go.Proofs.YtldkmobncmfodaaGreat.ArenaBehindW
open Go.ChangeShapes Go.WideShapes Go.ChangeAt Go.RowKit
open Bytes8 Blk8 Own8 OwnM OwnE LeA LeNum LeP RefA Rows2 Ob Oc Od Ga Gb Gc Gd Gf Gi Gj Numb Ma Mh Na Np Nr Pr8 Ns Nt Nu Nv Ra Rc Rr Rq
open Gs (eqH eq_fold head_eql)
open Rn (rcode recL_all)
open Rk (hcode9)
set_option linter.unusedVariables false
set_option linter.unusedSimpArgs false
set_option maxRecDepth 100000

def natOf : Value → Nat
  | .int _ z => z.toNat
  | _ => 0
theorem wpList_load_row_want {P : Program} {ops : Array Oper} {rest : List Oper} {o : Oper} {a : Act} {w : World} {Q : Exit → Act → World → Prop} (hw : Region.wanted o (yielded ops a.tmps) = true) (ty : TypeId) (x : Operand) (ho : o.op = .load ty x)
    (g : Nat) (hx : a.eval x = .pointer (some ⟨g, 0, none⟩)) (t : TypeId) (cs : Array Value) (fr : Nat × Nat) (d : TypeDesc) (hg : w.heap[g]? = some (.cells cs t fr))
    (hu : P.underlying ty = some d) (hd : (match d with | .struct _ | .array _ _ => true | _ => false) = true) (hi : (P.info? ty).map (·.size) = some cs.size)
    (h : wpList P ops Q rest (a.put o.dst (.agg cs)) w) : wpList P ops Q (o :: rest) a w :=
  BigFrame.wpList_want hw fun _ hK => wp_load_row ty x ho g hx t cs fr d hg hu hd hi (hK _ _ h)
attribute [local irreducible] HD.cells wpList Code.wp recP payT rcode hcode9 imgB imgH
attribute [local go_sem ↓] eq_fold
set_option maxHeartbeats 16000000 in
theorem walk_main (a : Option Addr) (len cap : Nat) (f : Nat → Int) (Am : Option Addr) (nm cm : Nat) (r : List Int) (w : World) (hI : InInts .i64 w a len f) (hl : len ≤ 60) (hM : Bytes w Am r) (hr : r.length = nm) (hm6 : nm ≤ 600) :
    Calls Tryz.prog 5 #[.slice a len cap, .slice Am nm cm] w fun e w' => e = .returned (.bool true) ∧ Below w.heap.size w w' := by
  have d1 : decide ((60 : Int) < (len : Int)) = false := by simp; omega
  have d2 : decide ((600 : Int) < (nm : Int)) = false := by simp; omega
  have HI := Lib.hid hI
  have HM := Lib.hid hM
  clear hI hM
  go_enter Tryz.func5, Tryz.ntmps5
  go_upto_region 6 with (go_at_call 8; ((with_reducible refine (first_arena _).mono ?_); rintro e w1 ⟨rfl, hb1⟩; have B1 := Lib.hid hb1; clear hb1))
  clear d1 d2
  have HIm := Lib.hid (image_made a len cap f 6 w1 (HI.out.below B1.out) (by omega) (by decide))
  unfold Imaged at HIm
  go_upto_region 7 with (go_at_call 10; ((refine HIm.out.mono ?_); rintro e w2 ⟨A, c, m, rfl, hg2, ho2, hb2⟩; have HG := Lib.hid hg2; have HO := Lib.hid ho2; have B2 := Lib.hid (B1.out.trans (hb2.mono B1.out.size)); clear hg2 ho2 hb2))
  have hI := HG.out.img
  have hlen := hI.lens
  have HLB := Lib.hid (imgB_len hI)
  have hcap := (own_cap HO.out).1
  have HB2 := Lib.hid HO.out.bytes
  have HOp := Lib.hid fun (r : List Int) (A' : Option Addr) (n' c' : Nat) (W : World) (hW : Bytes W A' (imgB m ++ r)) (h1 : (imgB m ++ r).length = n') (h2 : n' ≤ 800000) (h3 : n' ≤ c') => open_more hI r A' n' c' W hW h1 h2 h3
  unfold Opened2 at HOp
  have HEq := Lib.hid fun (W : World) => head_eql (imgH m) (imgH_ok hI) W
  have HRk := Lib.hid fun (k : Nat) => recP_ok (imgH m) (l := imgB m) m.b.length k HB2.out.1
  generalize hNe : m.b.length = N at *
  have HM2 := Lib.hid (HM.out.below B2.out (Nat.le_refl _))
  clear hI HIm HO HG HI HM B1 hNe
  have R1 := Lib.hid (by have h := HOp.out [] A N c w2 (by rw [List.append_nil]; exact HB2.out) (by rw [List.append_nil]; exact HLB.out) (by omega) hcap; exact h)
  go_upto_region 8 with (first
    | (go_at_call 11; ((refine R1.out.mono ?_); rintro e w4 ⟨gv, Av, cv, rfl, _, hv4, hcv, hb4⟩; have HV4 := Lib.hid hv4; have B4 := Lib.hid (B2.out.trans (hb4.mono B2.out.size)); have HB4 := Lib.hid (HB2.out.below hb4 (Nat.le_refl _)); have HM4 := Lib.hid (HM2.out.below hb4 (Nat.le_refl _)); clear hv4 hb4))
    | fail)
  have HCp := Lib.hid (Cl8.bytes_any A (imgB m) N c w4 HB4.out HLB.out (by omega))
  clear R1 HB2 HM2
  go_upto_region 9 with (first
    | (go_at_call 20; ((refine HCp.out.mono ?_); rintro e w5 ⟨A5, c5, rfl, ho5, hb5⟩; have HO5 := Lib.hid ho5; have B5 := Lib.hid hb5; have HM5 := Lib.hid (HM4.out.below hb5 (Nat.le_refl _)); clear ho5 hb5))
    | (at_builtin; refine wpList_append_bytes rfl (.tmp 41) (.tmp 42) rfl w4.heap.size A5 N c5 (imgB m) rfl HO5.out Am nm cm r rfl HM5.out hr (by omega) ?_; intro A6 c6 w6 ho6 hb6; have HO6 := Lib.hid ho6; have B6 := Lib.hid (B5.out.trans hb6); clear ho6 hb6)
    | (go_at_call 11; ((refine (HOp.out r A6 (N + nm) c6 w6 HO6.out.bytes HO6.out.2.1 (by omega) (own_cap HO6.out).1).mono ?_); rintro e w8 ⟨gw, Aw, cw, rfl, _, hv8, hcw, hb8⟩; have HW8 := Lib.hid hv8; have B48 := Lib.hid (B6.out.trans (hb8.mono HO6.out.2.2.1)); clear hv8 hb8))
    | fail)
  have HV8 := Lib.hid (HV4.out.below B48.out)
  have B8 := Lib.hid (B4.out.trans (B48.out.mono B4.out.size))
  clear HCp HO5 B5 HM5 HO6 B6 HM4 HB4 HV4 B4 B48 HOp
  have HNv := Lib.hid fun (W : World) (hW : Below w8.heap.size w8 W) => vend_any W (HV8.out.below hW)
  have HNw := Lib.hid fun (W : World) (hW : Below w8.heap.size w8 W) => vend_any W (HW8.out.below hW)
  have hwN : IntKind.u64.wrap (N : Int) = (N : Int) := by rw [IntKind.wrap_u64]; omega
  have Br8 := Lib.hid (Below.refl w8.heap.size w8)
  go_upto_region 11 with (first
    | (go_at_call 15; (first | (with_reducible refine (HNv.out _ Br8.out).mono ?_) | (with_reducible refine (HNw.out _ Br8.out).mono ?_)); rintro e w9 ⟨rfl, rfl⟩)
    | fail)
  clear Br8
  have hws : IntKind.i64.wrap ((N : Int) + (nm : Int)) = ((N + nm : Nat) : Int) := by rw [IntKind.wrap_i64]; omega
  have hwu : IntKind.u64.wrap ((N + nm : Nat) : Int) = ((N + nm : Nat) : Int) := by rw [IntKind.wrap_u64]; omega
  go_upto_region 12 with fail
  go_loopw [11] (fun i wr => ∃ x : Nat, x ≤ N + nm + 8 ∧ i = .int .u64 (x : Int) ∧ Hid (Below w8.heap.size w8 wr)) (fun i _ => N + nm + 8 - natOf i)
  case atStart => exact ⟨0, Nat.zero_le _, rfl, Lib.hid (Below.refl _ _)⟩
  case round =>
    obtain ⟨x, hx, rfl, hbr⟩ := hrel
    have BW := Lib.hid (B8.out.trans (hbr.out.mono B8.out.size))
    by_cases hlt : x < N + nm
    · have dd1 : decide ((x : Int) < ((N + nm : Nat) : Int)) = true := by simp; omega
      obtain ⟨cd, hcd⟩ : ∃ z, z = rcode (imgH m) (imgB m) N x := ⟨_, rfl⟩
      obtain ⟨hc, hhc⟩ : ∃ z, z = hcode9 (imgH m) (imgB m) N x := ⟨_, rfl⟩
      have TRv := Lib.hid fun (W : World) (hW : Below w8.heap.size w8 W) => recTell x W (HV8.out.below hW) hcv (by omega)
      have TRw := Lib.hid fun (W : World) (hW : Below w8.heap.size w8 W) => recTell x W (HW8.out.below hW) hcw (by omega)
      have TPv := Lib.hid fun (W : World) (hW : Below w8.heap.size w8 W) => payTell x W (HV8.out.below hW) hcv (by omega)
      have TPw := Lib.hid fun (W : World) (hW : Below w8.heap.size w8 W) => payTell x W (HW8.out.below hW) hcw (by omega)
      unfold TellR at TRv TRw
      unfold TellP at TPv TPw
      have HQ := Lib.hid (HRk.out x)
      have HO1 := Lib.hid fun (h : N ≤ x) => hcd.trans (Rr.rcode_out (h := imgH m) (l := imgB m) h)
      have HO2 := Lib.hid fun (h : N ≤ x) => hhc.trans (Rr.hcode_out (h := imgH m) (l := imgB m) h)
      rw [← hcd] at TRv TRw
      rw [← hhc] at TPv TPw
      generalize recP (imgH m) (imgB m) N x = q at *
      generalize payT (imgH m) (imgB m) N x = pt at *
      clear hcd hhc
      go_upto_region 15 with (first
        | (go_at_call 21; ((refine (TRv.out _ hbr.out).mono ?_); rintro e y1 ⟨F1, e1, rfl, hp1, hb1⟩; have P1 := Lib.hid hp1; have S1 := Lib.hid (hbr.out.trans (hb1.mono hbr.out.size)); clear hp1 hb1))
        | ((with_reducible apply at_store (.tmp 12) (.tmp 90)); refine wpList_store_row rfl 53 (.tmp 12) (.tmp 90) rfl y1.heap.size (recL q.s q.r q.m q.K (.slice F1 q.n e1)).toArray rfl rfl 53 zR (heap_alloc_new y1 _) (recInfo _ _ _ _ _) rfl (recL_all _ _ _ _ _ _ _) ?_)
        | fail)
      have Ra1 := Lib.hid (show Blk ((y1.alloc (.cells zR 53)).setRow y1.heap.size (recL q.s q.r q.m q.K (.slice F1 q.n e1)).toArray) y1.heap.size (recL q.s q.r q.m q.K (.slice F1 q.n e1)) 53 from setRow_heap _ _ _ _ _ (0, 0) (heap_alloc_new y1 _))
      have Bb1 := Lib.hid (show Below y1.heap.size y1 ((y1.alloc (.cells zR 53)).setRow y1.heap.size (recL q.s q.r q.m q.K (.slice F1 q.n e1)).toArray) from below_setRow ((Below.refl _ _).alloc (Nat.le_refl _) _) (Nat.le_refl _) _)
      generalize (y1.alloc (.cells zR 53)).setRow y1.heap.size (recL q.s q.r q.m q.K (.slice F1 q.n e1)).toArray = y2 at *
      have P2 := Lib.hid (P1.out.below Bb1.out)
      have S2 := Lib.hid (S1.out.trans (Bb1.out.mono S1.out.size))
      generalize y1.heap.size = s12 at *
      clear P1 S1 Bb1
      go_upto_region 16 with (first
        | (go_at_call 21; ((refine (TRw.out _ S2.out).mono ?_); rintro e y3 ⟨F3, e3, rfl, hp3, hb3⟩; have P3 := Lib.hid hp3; have P23 := Lib.hid (P2.out.below hb3); have Ra3 := Lib.hid (Ra1.out.below hb3 Ra1.out.lt); have S3 := Lib.hid (S2.out.trans (hb3.mono S2.out.size)); clear hp3 hb3))
        | ((with_reducible apply at_store (.tmp 14) (.tmp 96)); refine wpList_store_row rfl 53 (.tmp 14) (.tmp 96) rfl y3.heap.size (recL q.s q.r q.m q.K (.slice F3 q.n e3)).toArray rfl rfl 53 zR (heap_alloc_new y3 _) (recInfo _ _ _ _ _) rfl (recL_all _ _ _ _ _ _ _) ?_)
        | fail)
      have Rb4 := Lib.hid (show Blk ((y3.alloc (.cells zR 53)).setRow y3.heap.size (recL q.s q.r q.m q.K (.slice F3 q.n e3)).toArray) y3.heap.size (recL q.s q.r q.m q.K (.slice F3 q.n e3)) 53 from setRow_heap _ _ _ _ _ (0, 0) (heap_alloc_new y3 _))
      have Bb3 := Lib.hid (show Below y3.heap.size y3 ((y3.alloc (.cells zR 53)).setRow y3.heap.size (recL q.s q.r q.m q.K (.slice F3 q.n e3)).toArray) from below_setRow ((Below.refl _ _).alloc (Nat.le_refl _) _) (Nat.le_refl _) _)
      generalize (y3.alloc (.cells zR 53)).setRow y3.heap.size (recL q.s q.r q.m q.K (.slice F3 q.n e3)).toArray = y4 at *
      have P4 := Lib.hid (P3.out.below Bb3.out)
      have P24 := Lib.hid (P23.out.below Bb3.out)
      have Ra4 := Lib.hid (Ra3.out.below Bb3.out Ra3.out.lt)
      have S4 := Lib.hid (S3.out.trans (Bb3.out.mono S3.out.size))
      generalize y3.heap.size = s14 at *
      clear P3 P23 Ra3 S3 Bb3 P2 Ra1 S2
      go_upto_region 17 with (first
        | (go_at_call 22; ((refine (TPv.out _ S4.out).mono ?_); rintro e y5 ⟨A5, m5, e5, rfl, hy5, hl5, hb5⟩; have S45 := Lib.hid hb5; have S5 := Lib.hid (S4.out.trans (hb5.mono S4.out.size)); have Y5 := Lib.hid hy5; clear hy5 hb5))
        | fail)
      go_upto_region 18 with (first
        | (go_at_call 22; ((refine (TPw.out _ S5.out).mono ?_); rintro e y6 ⟨A6, m6, e6, rfl, hy6, hl6, hb6⟩; have S46 := Lib.hid (S45.out.trans (hb6.mono S45.out.size)); have S6 := Lib.hid (S5.out.trans (hb6.mono S5.out.size)); have Y6 := Lib.hid hy6; have Y56 := Lib.hid (Y5.out.below hb6 (Nat.le_refl _)); clear hy6 hb6))
        | fail)
      have hm56 : m6 = m5 := by omega
      subst hm56
      have Ra6 := Lib.hid (Ra4.out.below S46.out Ra4.out.lt)
      have Rb6 := Lib.hid (Rb4.out.below S46.out Rb4.out.lt)
      have HSr := Lib.hid (samerec_yes q.s q.r q.m q.K HQ.out.K F1 F3 q.n e1 e3 q.pl y6 (P24.out.below S46.out) (P4.out.below S46.out) HQ.out.len HQ.out.n)
      clear Ra4 Rb4 P24 P4 S4 S5 S45 Y5 TRv TRw TPv TPw
      go_upto_region 20 with (first
        | (refine wpList_load_row_want rfl 53 (.tmp 12) rfl s12 rfl 53 (recL q.s q.r q.m q.K (.slice F1 q.n e1)).toArray (0, 0) _ Ra6.out Tryz.underlying53 rfl (recInfo _ _ _ _ _) ?_)
        | (refine wpList_load_row_want rfl 53 (.tmp 14) rfl s14 rfl 53 (recL q.s q.r q.m q.K (.slice F3 q.n e3)).toArray (0, 0) _ Rb6.out Tryz.underlying53 rfl (recInfo _ _ _ _ _) ?_)
        | (go_at_call 23; ((refine HSr.out.mono ?_); rintro e y7 ⟨rfl, hb7⟩; have S7 := Lib.hid (S6.out.trans (hb7.mono S6.out.size)); have Y7 := Lib.hid (Y56.out.below hb7 (Nat.le_refl _)); have Y8 := Lib.hid (Y6.out.below hb7 (Nat.le_refl _)); clear hb7))
        | (go_at_call 24; ((refine (same_yes _ _ pt _ _ _ _ Y7.out Y8.out hl5).mono ?_); rintro e y8 ⟨rfl, rfl⟩))
        | fail)
      have hw8 : IntKind.u64.wrap ((x : Int) + 8) = ((x + 8 : Nat) : Int) := by rw [IntKind.wrap_u64]; omega
      by_cases hxN : N ≤ x
      · have e1 := HO1.out hxN
        have e2 := HO2.out hxN
        subst e1
        subst e2
        have dd2 : decide ((x : Int) ≥ (N : Int)) = true := by simp; omega
        go_wp2
        go_roundw
        case rel => exact ⟨x + 8, by omega, rfl, S7⟩
        case measure => simp [natOf]; omega
      · have dd2 : decide ((x : Int) ≥ (N : Int)) = false := by simp; omega
        go_wp2
        go_roundw
        case rel => exact ⟨x + 8, by omega, rfl, S7⟩
        case measure => simp [natOf]; omega
    · have dd1 : decide ((x : Int) < ((N + nm : Nat) : Int)) = false := by simp; omega
      have HHv := Lib.hid fun (W : World) (hW : Below w8.heap.size w8 W) => vhead_any W (HV8.out.below hW).blk
      have HHw := Lib.hid fun (W : World) (hW : Below w8.heap.size w8 W) => vhead_any W (HW8.out.below hW).blk
      have heq := HEq.out
      go_upto_region 22 with fail
      go_wp2_with (first
        | (go_at_call 25; (with_reducible refine (HHv.out _ hbr.out).mono ?_); rintro e y1 ⟨rfl, hb1⟩; have S1 := Lib.hid (hbr.out.trans (hb1.mono hbr.out.size)); have T1 := Lib.hid (BW.out.trans (hb1.mono BW.out.size)); clear hb1)
        | (go_at_call 25; (with_reducible refine (HHw.out _ S1.out).mono ?_); rintro e y2 ⟨rfl, hb2⟩; have T2 := Lib.hid (T1.out.trans (hb2.mono T1.out.size)); clear hb2)
        | fail)
      go_ret
      exact ⟨rfl, T2.out⟩
theorem walk (a : Option Addr) (len cap : Nat) (z : List Int) (Am : Option Addr) (nm cm : Nat) (zm : List Int) (w : World) (h : IsRow .i64 w a len cap z) (hm : IsRow .u8 w Am nm cm zm) :
    Calls Tryz.prog 5 #[.slice a len cap, .slice Am nm cm] w fun e w' => e = .returned (.bool true) ∧ Below w.heap.size w w' := by
  obtain ⟨hb, hL, hcm, hmm, _⟩ := hm.bytes
  obtain ⟨hI, h2, h3⟩ := ints_in h
  by_cases h1 : len ≤ 60 ∧ nm ≤ 600
  · exact walk_main a len cap _ Am nm cm _ w hI h1.1 hb hL h1.2
  · by_cases h4 : len ≤ 60
    · have d1 : decide ((60 : Int) < (len : Int)) = false := by simp; omega
      have d2 : decide ((600 : Int) < (nm : Int)) = true := by simp; omega
      clear hb hL h hm hI
      go_enter Tryz.func5, Tryz.ntmps5
      go_wp2_with (go_at_call 8; ((with_reducible refine (first_arena _).mono ?_); rintro e w1 ⟨rfl, hb1⟩; have B1 := Lib.hid hb1; clear hb1))
      go_ret
      exact ⟨rfl, B1.out⟩
    · have d1 : decide ((60 : Int) < (len : Int)) = true := by simp; omega
      clear hb hL h hm hI
      go_enter Tryz.func5, Tryz.ntmps5
      go_wp2_with (go_at_call 8; ((with_reducible refine (first_arena _).mono ?_); rintro e w1 ⟨rfl, hb1⟩; have B1 := Lib.hid hb1; clear hb1))
      go_ret
      exact ⟨rfl, B1.out⟩
end Go.Proofs.YtldkmobncmfodaaGreat.ArenaBehindW
