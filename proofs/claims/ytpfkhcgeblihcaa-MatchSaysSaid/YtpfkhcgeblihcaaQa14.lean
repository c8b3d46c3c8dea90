/-
  Texts beneath the proof, one behind the other.
-/
import Derived.Deep.CutRange
import Derived.Test.YtpfkhcgeblihcaaQa8
import Derived.Test.YtpfkhcgeblihcaaQa6
import Derived.Test.YtpfkhcgeblihcaaQa5
import Derived.Test.YtpfkhcgeblihcaaQa12
import Derived.Test.YtpfkhcgeblihcaaQa2
import Derived.Test.YtpfkhcgeblihcaaQa10
import Derived.Test.YtpfkhcgeblihcaaQa3

/-
  The chapter's example of layer 17; few pairs.
-/
namespace Go.Proofs.Ytpfkhcgeblihcaa.Qr
open Go.ChangeShapes Go.WideShapes Go.ChangeAt Go.RowKit
open Bytes8 Blk8 Own8 OwnE Fa Fb Fc Fo Pr8 Pv8 Qa Qb Qc Qd Qn Numb Rows2
open Qm (compile_any Compd)
open Qo (holds_any)
open Seq8
open Pq8 (okR_okP)
open Ps8 (okR)
set_option linter.unusedVariables false
set_option maxRecDepth 100000
set_option linter.unusedSimpArgs false

abbrev exW : List TX := [[65, 61, 49], [65, 61, 50], [66, 61, 51]]
abbrev exM : List RW := [[([65], [[49], [50]]), ([66], [[51]])]]
abbrev exP : List PR := [([66], [51]), ([65], [50])]
theorem ex_comp : compM exW = (0, exM) := by decide +kernel
theorem ex_hold : holdB exP exM = true := by decide +kernel
theorem ex_none : holdB [] [] = true := by decide +kernel
theorem small_M : OkM exM := by
  have h : ∀ v ∈ ([[65], [66], [49], [50], [51]] : List TX), OkT v := by
    intro v hv
    have : (v.all fun x => decide (0 ≤ x) && decide (x < 256)) = true ∧ v.length ≤ maxLen := by
      simp only [List.mem_cons, List.not_mem_nil, or_false] at hv
      rcases hv with rfl | rfl | rfl | rfl | rfl <;> exact ⟨by decide, by decide⟩
    exact ⟨Ff.small_all this.1, this.2⟩
  refine ⟨fun r hr => ⟨fun a ha => ?_, ?_⟩, by decide⟩
  · simp only [List.mem_cons, List.not_mem_nil, or_false] at hr
    subst hr
    simp only [List.mem_cons, List.not_mem_nil, or_false] at ha
    rcases ha with rfl | rfl
    · refine ⟨h _ (by simp), fun v hv => h v ?_, by decide⟩
      simp only [List.mem_cons, List.not_mem_nil, or_false] at hv ⊢
      rcases hv with rfl | rfl <;> simp
    · refine ⟨h _ (by simp), fun v hv => h v ?_, by decide⟩
      simp only [List.mem_cons, List.not_mem_nil, or_false] at hv ⊢
      subst hv; simp
  · simp only [List.mem_cons, List.not_mem_nil, or_false] at hr
    subst hr
    decide
theorem ex_all : ∀ v ∈ exW, AllB v ∧ v.length ≤ 900000 := by
  intro v hv
  have : (v.all fun x => decide (0 ≤ x) && decide (x < 256)) = true ∧ v.length ≤ 900000 := by
    simp only [List.mem_cons, List.not_mem_nil, or_false] at hv
    rcases hv with rfl | rfl | rfl <;> exact ⟨by decide, by decide⟩
  exact ⟨Ff.small_all this.1, this.2⟩
theorem ex_words (w : World) : Txts (w.alloc (.cells #[.string { data := #[65, 61, 49] }, .string { data := #[65, 61, 50] }, .string { data := #[66, 61, 51] }] 9)) (some ⟨w.heap.size, 0, none⟩) exW := fun i hi => by
  have hb := Blk.new w [.string { data := #[65, 61, 49] }, .string { data := #[65, 61, 50] }, .string { data := #[66, 61, 51] }] 9
  refine ⟨w.heap.size, 0, rfl, hb.lt, ?_⟩
  rw [Nat.zero_add]
  rcases i with _ | _ | _ | i
  · rw [hb.cell rfl, show T (exW.getD 0 []) = ({ data := #[65, 61, 49] } : ByteArray) by decide]
  · rw [hb.cell rfl, show T (exW.getD 1 []) = ({ data := #[65, 61, 50] } : ByteArray) by decide]
  · rw [hb.cell rfl, show T (exW.getD 2 []) = ({ data := #[66, 61, 51] } : ByteArray) by decide]
  · simp at hi; omega
theorem ex_pairs (w : World) : Prs (w.alloc (.cells #[.string { data := #[66] }, .string { data := #[51] }, .string { data := #[65] }, .string { data := #[50] }] 40)) (some ⟨w.heap.size, 0, none⟩) exP := by
  have hb := Blk.new w [.string { data := #[66] }, .string { data := #[51] }, .string { data := #[65] }, .string { data := #[50] }] 40
  refine ⟨fun p hp => ?_, fun i hi => ⟨w.heap.size, 0, rfl, hb.lt, ?_⟩⟩
  · simp only [List.mem_cons, List.not_mem_nil, or_false] at hp
    rcases hp with rfl | rfl <;> exact ⟨Ff.small_all (by decide), Ff.small_all (by decide), by decide, by decide⟩
  · rw [Nat.zero_add]
    rcases i with _ | _ | i
    · exact ⟨by rw [hb.cell rfl, show T (exP.getD 0 nil2).1 = ({ data := #[66] } : ByteArray) by decide], by rw [hb.cell rfl, show T (exP.getD 0 nil2).2 = ({ data := #[51] } : ByteArray) by decide]⟩
    · exact ⟨by rw [hb.cell rfl, show T (exP.getD 1 nil2).1 = ({ data := #[65] } : ByteArray) by decide], by rw [hb.cell rfl, show T (exP.getD 1 nil2).2 = ({ data := #[50] } : ByteArray) by decide]⟩
    · simp at hi; omega
set_option maxHeartbeats 8000000 in
theorem first_any (w : World) : Calls Try.prog 4 #[] w fun e w' => e = .returned (.bool true) ∧ Below w.heap.size w w' := by
  have b1 := (Below.refl w.heap.size w).alloc (Nat.le_refl _) (.cells #[.string { data := #[65, 61, 49] }, .string { data := #[65, 61, 50] }, .string { data := #[66, 61, 51] }] 9)
  have HC := Lib.hid (compile_any (some ⟨w.heap.size, 0, none⟩) exW 3 3 _ (ex_words w) rfl ex_all (by decide))
  have B1 := Lib.hid b1
  rw [ex_comp] at HC
  unfold Compd at HC
  dsimp only [exM, List.length] at HC
  clear b1
  go_enter Try.func4, Try.ntmps4
  go_upto_region 2 with (go_at_call 6; (with_reducible refine HC.out.mono ?_); rintro e w2 ⟨A2, c2, rfl, hm, hb, -⟩; have HM := Lib.hid hm; have B2 := Lib.hid (B1.out.trans (hb.mono B1.out.size)); clear hm hb)
  have R3 := Lib.hid (Blk.new w2 [.slice A2 1 c2] 25)
  have b3 := (Below.refl w2.heap.size w2).alloc (Nat.le_refl _) (.cells #[.slice A2 1 c2] 25)
  have M3 := Lib.hid (HM.out.below b3)
  have B3 := Lib.hid (B2.out.trans (b3.mono B2.out.size))
  clear b3
  change Hid (Blk (w2.alloc (.cells #[.slice A2 1 c2] 25)) _ _ _) at R3
  generalize w2.alloc (.cells #[.slice A2 1 c2] 25) = w3 at *
  generalize w2.heap.size = g3 at *
  obtain ⟨b, off, A3, c3, rfl, hbl, k0, hA⟩ := M3.out 0 (by decide)
  obtain ⟨b', off', A4, c4, rfl, hbl2, l0, l1, _⟩ := hA 0 (by decide)
  have r0 := R3.out.cell (i := 0) rfl
  change w3.cell? ⟨b, off + 0, none⟩ = some (.slice _ 2 c3) at k0
  change w3.cell? ⟨b', off' + 0 * 2 + 1, none⟩ = some (.slice A4 2 c4) at l1
  simp only [Nat.add_zero, Nat.zero_mul] at k0 l1
  have b4 := (Below.refl w3.heap.size w3).alloc (Nat.le_refl _) (.cells #[.string { data := #[66] }, .string { data := #[51] }, .string { data := #[65] }, .string { data := #[50] }] 40)
  have H1 := Lib.hid (holds_any exP (some ⟨w3.heap.size, 0, none⟩) 2 2 exM (some ⟨b, off, none⟩) c2 _ (ex_pairs w3) rfl (by decide) (M3.out.below b4) small_M)
  have H2 := Lib.hid fun W => holds_any [] none 0 0 [] none 0 W (Prs.nil W none) rfl (by decide) (Mts.nil W none) ⟨(fun _ h => by cases h), Nat.zero_le _⟩
  have B4 := Lib.hid (B3.out.trans (b4.mono B3.out.size))
  rw [ex_hold] at H1
  simp only [ex_none] at H2
  dsimp only [Qd.mtV, exM, List.length] at H1 H2
  clear hA hbl hbl2 l0 b4
  go_wp2_with (first
    | (go_at_call 14; (with_reducible refine H1.out.mono ?_); rintro e w5 ⟨rfl, hb⟩; have B5 := Lib.hid (B4.out.trans (hb.mono B4.out.size)); clear hb)
    | (go_at_call 14; (with_reducible refine (H2.out _).mono ?_); rintro e w6 ⟨rfl, hb⟩; have B6 := Lib.hid (B5.out.trans (hb.mono B5.out.size)); clear hb))
  go_ret
  exact ⟨rfl, B6.out⟩
end Go.Proofs.Ytpfkhcgeblihcaa.Qr

/-
  The words of a match that is right: the program's way.
-/
namespace Go.Proofs.Ytpfkhcgeblihcaa.Qx
open Go.ChangeShapes Go.WideShapes Go.ChangeAt Go.RowKit
open Bytes8 Blk8 Own8 OwnE Fa Fb Fc Fo Pr8 Pv8 Qa Qb Qc Qd Qv Qw
open Qq (ownT_snoc ownT_base)
set_option linter.unusedVariables false
set_option maxRecDepth 100000
set_option linter.unusedSimpArgs false

theorem map_take_succ {l : List TX} {n : TX} {j : Nat} (h : j < l.length) : (l.take (j + 1)).map (fun v => pay n v) = (l.take j).map (fun v => pay n v) ++ [pay n (l.getD j [])] := by
  rw [take_succ' h (d := []), List.map_append]; rfl
theorem ownT_kept {w w' : World} {base n c : Nat} {A : Option Addr} {l : List TX} (h : OwnT w base A n c l) (hb : Below w.heap.size w w') : OwnT w' base A n c l := ⟨h.1, h.2.kept hb (Nat.le_refl _)⟩

set_option maxHeartbeats 4000000 in
theorem payloads_any (a : AL) (A : Option Addr) (c : Nat) (w : World) (hT : Txts w A a.2) (ha : OkA a) (hf : ∀ v ∈ a.2, flawI a.1 v = 0) (h5 : a.2.length ≤ 100000) :
    Calls Try.prog 23 #[alV a A c] w fun e w' => ∃ A' c', e = .returned (.slice A' a.2.length c') ∧ OwnT w' w.heap.size A' a.2.length c' (a.2.map fun v => pay a.1 v) ∧ Below w.heap.size w w' := by
  have HJ := Lib.hid fun i (hi : i < a.2.length) (W : World) => show Calls Try.prog 39 #[pv a.1 (a.2.getD i [])] W (Joined a.1 (a.2.getD i []) W) from join_any a.1 (a.2.getD i []) ha.1.1 (ha.2.1 _ (getD_in hi)).1 W
  have HF := Lib.hid fun i (hi : i < a.2.length) => hf _ (getD_in hi (d := []))
  have b1 := (Below.refl w.heap.size w).alloc (Nat.le_refl _) (.cells #[.string (T a.1), .slice A a.2.length c] 38)
  have R1 := Lib.hid (Blk.new w (alC a A c) 38)
  have HT := Lib.hid (hT.below b1)
  have HB1 := Lib.hid b1
  dsimp only [alV, alC, pv] at *
  obtain ⟨an, av⟩ := a
  dsimp only at *
  have HMp := Lib.hid fun j (h : j < av.length) => map_take_succ (n := an) h
  obtain ⟨n, hL⟩ : ∃ n, av.length = n := ⟨_, rfl⟩
  have HL := Lib.hid hL
  rw [hL] at h5 R1 HB1 HT ⊢
  clear hT ha b1 hL hf
  go_enter Try.func23, Try.ntmps23
  go_upto_region 1 with fail
  change Hid (Blk (w.alloc (.cells #[.string (T an), .slice A n c] 38)) w.heap.size _ _) at R1
  generalize w.alloc (.cells #[.string (T an), .slice A n c] 38) = w1 at *
  have r0 := R1.out.cell (i := 0) rfl
  have r1 := R1.out.cell (i := 1) rfl
  have hlt1 := R1.out.lt
  go_wp2_with fail
  go_loopw [3, 11] (fun z i wr => ∃ (j : Nat) (A3 : Option Addr) (c3 : Nat), j ≤ n ∧ i = .int .i64 (j : Int) ∧ z = .slice A3 j c3 ∧ Hid (OwnT wr w1.heap.size A3 j c3 ((av.take j).map fun v => pay an v)) ∧ Hid (Below w1.heap.size w1 wr)) (fun _ i _ => n - (intOf i).toNat)
  case atStart => exact ⟨0, none, 0, by omega, rfl, rfl, Lib.hid ⟨rfl, OwnE.nil w1 _ (Nat.le_refl _)⟩, Lib.hid (Below.refl _ _)⟩
  case round =>
    clear r0 r1
    obtain ⟨j, A3, c3, hj, rfl, rfl, hO, hB⟩ := hrel
    rcases Nat.lt_or_ge j n with hlt | hge
    · obtain ⟨b1, off1, rfl, hbl1, hc0⟩ := (HT.out.below hB.out) j (by have := HL.out; omega)
      have hin : (j : Int) < (n : Int) := by omega
      have s0 := (R1.out.below hB.out R1.out.lt).cell (i := 0) rfl
      have hJ := HJ.out j (by have := HL.out; omega) wr
      have hfj := HF.out j (by have := HL.out; omega)
      unfold Joined at hJ
      rw [show joinL an (av.getD j []) = pay an (av.getD j []) from if_pos hfj, hfj] at hJ
      have HJj := Lib.hid hJ
      have HMj := Lib.hid (HMp.out j (by have := HL.out; omega))
      have hbs := hB.out.size
      clear hJ hfj
      generalize T (av.getD j []) = E1 at *
      generalize pay an (av.getD j []) = P at *
      obtain ⟨pl, hpl⟩ : ∃ pl, P.length = pl := ⟨_, rfl⟩
      rw [hpl] at HJj
      have HPL := Lib.hid hpl
      clear hpl
      go_upto_region 6 with (go_at_call 39; (with_reducible refine HJj.out.mono ?_); rintro e w2 ⟨A4, c4, rfl, hby, hg⟩)
      have O2 := Lib.hid (ownT_kept hO.out hg.below)
      have B2 := Lib.hid (hB.out.trans (hg.below.mono hbs))
      have hcv := hby.string c4 pl HPL.out
      change (convert 44 9 (.slice A4 pl c4)).run Try.prog w2 = .ok (.string (T P)) w2 at hcv
      have hb2 := B2.out.size
      clear hby hg
      go_wp2_with (at_builtin; refine wpList_append_elt tElt rfl (.tmp 23) (.tmp 26) rfl w1.heap.size A3 j c3 (cellsT ((av.take j).map fun v => pay an v)) rfl (O2.out.2.alloc (.cells #[.string (T P)] 9)) ⟨w2.heap.size, 0, none⟩ 1 1 [.string (T P)] rfl rfl (Blk.news (Blk.new w2 [.string (T P)] 9)) (by intro u hu; simp at hu; subst hu; rfl) (by omega) (by omega) ?_; intro A5 c5 w5 ho5 hb5; have HO5 := Lib.hid (ownT_snoc (x := P) O2.out.1 ho5); have HB5 := Lib.hid hb5; clear ho5 hb5)
      have BB5 := Lib.hid ((B2.out.alloc hb2 (.cells #[.string (T P)] 9)).trans HB5.out)
      rw [← HMj.out] at HO5
      go_round
      case rel => exact ⟨j + 1, A5, c5, by omega, by go_num, rfl, HO5, BB5⟩
      case measure => simp [intOf]; omega
    · obtain rfl : j = n := by omega
      have hO2 := hO.out
      rw [List.take_of_length_le (by have := HL.out; omega)] at hO2
      have HO2 := Lib.hid hO2
      clear hO2 hO
      go_wp2_with fail
      go_ret
      exact ⟨_, _, rfl, ownT_base HO2.out (Nat.le_of_lt hlt1), HB1.out.trans (hB.out.mono (Nat.le_of_lt hlt1))⟩

theorem words_take_len {M : List RW} (hc : cnt M + M.length ≤ 33) (j : Nat) : (wordsM (M.take j)).length ≤ 33 := by
  by_cases h : M.take j = []
  · rw [h]; simp [wordsM]
  · have h1 := words_len _ h
    have h2 := cnt_le M j
    have h3 : (M.take j).length ≤ M.length := by rw [List.length_take]; exact Nat.min_le_right _ _
    omega
theorem words_take_succ {M : List RW} {j : Nat} (h : j < M.length) : wordsM (M.take (j + 1)) = wordsM (M.take j) ++ (if j = 0 then [] else [[43]]) ++ rowT (M.getD j []) := by
  rw [take_succ' h (d := []), words_snoc]
  by_cases h0 : j = 0
  · subst h0; simp
  · rw [if_neg h0, if_neg]
    intro e
    have := congrArg List.length e
    rw [List.length_take] at this
    have h2 : min j M.length = 0 := this
    rw [Nat.min_eq_left (by omega)] at h2
    exact h0 h2
theorem rowT_take_succ {r : RW} {k : Nat} (h : k < r.length) : rowT (r.take (k + 1)) = rowT (r.take k) ++ (r.getD k nilA).2.map fun v => pay (r.getD k nilA).1 v := by
  rw [take_succ' h (d := nilA), rowT_snoc]
theorem rowT_len (r : RW) : (rowT r).length = vals r := by unfold rowT; rw [List.length_map, prs_len]
theorem rowT_nil : rowT [] = [] := rfl
theorem plus_lit : ({ data := #[43] } : ByteArray) = T [43] := by decide
theorem ownT_app {w : World} {base n m c k : Nat} {A : Option Addr} {l t : List TX} (hl : l.length = n) (ht : t.length = m) (hk : n + m = k) (h : OwnE 9 1 w base A (n + m) c (cellsT l ++ cellsT t)) : OwnT w base A k c (l ++ t) := by
  subst hk
  refine ⟨by simp [hl, ht], ?_⟩
  have : cellsT (l ++ t) = cellsT l ++ cellsT t := by simp [cellsT]
  rw [this]; exact h
theorem ownT_addr {w : World} {base n c : Nat} {A : Option Addr} {l : List TX} (h : OwnT w base A n c l) (hn : 0 < n) : ∃ g, A = some ⟨g, 0, none⟩ ∧ ∀ j u, (cellsT l)[j]? = some u → w.cell? ((⟨g, 0, none⟩ : Addr).add j) = some u := by
  obtain ⟨g, e, _, _, _⟩ := h.2.cell (i := 0) (by unfold cellsT; rw [List.length_map, h.1]; exact hn)
  subst e
  refine ⟨g, rfl, fun j u hj => ?_⟩
  have hlt := (List.getElem?_eq_some_iff.1 hj).1
  obtain ⟨g', e', _, _, hc⟩ := h.2.cell (i := j) hlt
  injection e' with e'
  injection e' with e1
  subst e1
  rw [add_none, Nat.zero_add, hc, hj]
theorem one_cellT (l : List TX) : ∀ u ∈ cellsT l, u.oneCell' = true := fun u hu => by
  obtain ⟨x, _, rfl⟩ := List.mem_map.1 hu
  rfl

set_option maxHeartbeats 8000000 in
theorem wordsm_any (M : List RW) (A : Option Addr) (c : Nat) (w : World) (hT : Mts w A M) (hM : OkM M) (hR : ∀ r ∈ M, RightP r) (hcn : cnt M + M.length ≤ 33) :
    Calls Try.prog 12 #[mtV A M.length c] w fun e w' => ∃ A' c', e = .returned (.slice A' (wordsM M).length c') ∧ OwnT w' w.heap.size A' (wordsM M).length c' (wordsM M) ∧ Below w.heap.size w w' := by
  have HO := Lib.hid fun i hi => row_ok hM (i := i) hi
  have HRr := Lib.hid fun i (hi : i < M.length) => hR _ (getD_in hi (d := []))
  have HCl := Lib.hid fun i (hi : i < M.length) => (show vals (M.getD i []) ≤ 33 from by
    have h1 := cnt_take hi
    have h2 := cnt_le M (i + 1)
    omega)
  have HWl := Lib.hid (words_take_len hcn)
  have HWs := Lib.hid fun j (h : j < M.length) => words_take_succ h
  have HWa : Hid (∀ i, M.length ≤ i → wordsM (M.take i) = wordsM M) := Lib.hid fun i hi => by rw [List.take_of_length_le hi]
  have b1 := (Below.refl w.heap.size w).alloc (Nat.le_refl _) (.cells #[.slice A M.length c] 25)
  have R1 := Lib.hid (Blk.new w [.slice A M.length c] 25)
  have HT := Lib.hid (hT.below b1)
  have HB1 := Lib.hid b1
  have HRt := Lib.hid (right_any M A c _ (hT.below b1) hM (by omega))
  rw [rM_yes hR hcn] at HRt
  have hn : M.length ≤ 33 := by omega
  dsimp only [mtV] at *
  obtain ⟨n, hL⟩ : ∃ n, M.length = n := ⟨_, rfl⟩
  have HL := Lib.hid hL
  rw [hL] at hn R1 HB1 HT HRt ⊢
  clear hT hM hR b1 hL hcn
  go_enter Try.func12, Try.ntmps12
  go_upto_region 1 with fail
  change Hid (Blk (w.alloc (.cells #[.slice A n c] 25)) w.heap.size _ _) at R1
  change Hid (Calls _ _ _ (w.alloc (.cells #[.slice A n c] 25)) _) at HRt
  generalize w.alloc (.cells #[.slice A n c] 25) = w1 at *
  have r0 := R1.out.cell (i := 0) rfl
  have hlt1 := R1.out.lt
  go_upto_region 4 with (go_at_call 9; (with_reducible refine HRt.out.mono ?_); rintro e w2 ⟨rfl, hb2⟩; have B2 := Lib.hid hb2; clear hb2)
  have q0 := (R1.out.below B2.out R1.out.lt).cell (i := 0) rfl
  have hlt2 := B2.out.size
  have HT2 := Lib.hid (HT.out.below B2.out)
  clear r0 HRt HT
  go_wp2_with fail
  go_loopw [3, 14] (fun z i wr => ∃ (j p : Nat) (A3 : Option Addr) (c3 : Nat), j ≤ n ∧ i = .int .i64 (j : Int) ∧ z = .slice A3 p c3 ∧ Hid (OwnT wr w2.heap.size A3 p c3 (wordsM (M.take j))) ∧ Hid (Below w2.heap.size w2 wr)) (fun _ i _ => n - (intOf i).toNat)
  case atStart => exact ⟨0, 0, none, 0, by omega, rfl, rfl, Lib.hid ⟨rfl, OwnE.nil w2 _ (Nat.le_refl _)⟩, Lib.hid (Below.refl _ _)⟩
  case round =>
    clear q0
    obtain ⟨j, p, A3, c3, hj, rfl, rfl, hO, hB⟩ := hrel
    rcases Nat.lt_or_ge j n with hlt | hge
    · obtain ⟨b1, off1, A1, c1, rfl, hbl1, hc0w, hT1⟩ := HT2.out j (by have := HL.out; omega)
      have hc0 := (Below.cell (p := ⟨b1, off1 + j, none⟩) hB.out hbl1).trans hc0w
      clear hc0w
      have hin : (j : Int) < (n : Int) := by omega
      have hp33 : p ≤ 33 := by have := HWl.out j; have := hO.out.1; omega
      have hrj := HO.out j (by have := HL.out; omega)
      have hRj := HRr.out j (by have := HL.out; omega)
      have HVj := Lib.hid (HCl.out j (by have := HL.out; omega))
      have HWj := Lib.hid (HWs.out j (by have := HL.out; omega))
      obtain ⟨R, hRr⟩ : ∃ R, M.getD j [] = R := ⟨_, rfl⟩
      rw [hRr] at hc0 hT1 hrj hRj HVj HWj
      obtain ⟨m, hm⟩ : ∃ m, R.length = m := ⟨_, rfl⟩
      have HM := Lib.hid hm
      rw [hm] at hc0
      have HTR := Lib.hid hT1
      have HORj := Lib.hid hrj
      have HRRj := Lib.hid hRj
      have hmm : m ≤ 9223372036854775807 := by have h := hrj.2; unfold maxLen at h; omega
      have hbs := hB.out.size
      clear hT1 hrj hRj hRr hm
      go_upto_if 20 with fail
      generalize hz20 : decide (0 < j) = z20 at *
      have HZ := Lib.hid hz20
      clear hz20
      go_cut [3] from 21 to 23 (fun z wx => ∃ (p2 : Nat) (A4 : Option Addr) (c4 : Nat), z = .slice A4 p2 c4 ∧ p2 ≤ 34 ∧ Hid (OwnT wx w2.heap.size A4 p2 c4 (wordsM (M.take j) ++ if j = 0 then [] else [[43]])) ∧ Hid (Below w2.heap.size w2 wx))
      case first =>
        cases z20 with
        | false =>
          have hj0 : j = 0 := by have := of_decide_eq_false HZ.out; omega
          have HE := Lib.hid (show wordsM (M.take j) ++ (if j = 0 then [] else [[43]]) = wordsM (M.take j) by rw [if_pos hj0]; simp)
          clear hj0
          go_wp2_with fail
          go_meet
          case rel => exact ⟨p, A3, c3, rfl, by omega, by rw [HE.out]; exact hO, hB⟩
        | true =>
          have hj0 : j ≠ 0 := by have := of_decide_eq_true HZ.out; omega
          have HE := Lib.hid (show wordsM (M.take j) ++ (if j = 0 then [] else [[43]]) = wordsM (M.take j) ++ [[43]] by rw [if_neg hj0])
          clear hj0
          go_wp2_with (at_builtin; refine wpList_append_elt tElt rfl (.tmp 21) (.tmp 22) rfl w2.heap.size A3 p c3 (cellsT (wordsM (M.take j))) rfl (hO.out.2.alloc (.cells #[.string { data := #[43] }] 9)) ⟨wr.heap.size, 0, none⟩ 1 1 [.string { data := #[43] }] rfl rfl (Blk.news (Blk.new wr [.string { data := #[43] }] 9)) (by intro u hu; simp at hu; subst hu; rfl) (by omega) (by omega) ?_; intro A5 c5 w5 ho5 hb5; have HO5 := Lib.hid (ownT_snoc (x := [43]) hO.out.1 (show OwnE 9 1 w5 w2.heap.size A5 (p + 1) c5 (cellsT (wordsM (M.take j)) ++ [.string (T [43])]) from by rw [← plus_lit]; exact ho5)); have HB5 := Lib.hid hb5; clear ho5 hb5)
          have hb6 : Below w2.heap.size wr w5 := ((Below.refl w2.heap.size wr).alloc hbs _).trans HB5.out
          go_wp2_with fail
          go_meet
          case rel => exact ⟨p + 1, A5, c5, rfl, by omega, by rw [HE.out]; exact HO5, Lib.hid (hB.out.trans hb6)⟩
      case rest =>
        obtain ⟨p2, A4, c4, rfl, hp2, hO4, hB4⟩ := hcut
        obtain ⟨pre, hpre⟩ : ∃ pre, wordsM (M.take j) ++ (if j = 0 then [] else [[43]]) = pre := ⟨_, rfl⟩
        rw [hpre] at hO4 HWj
        have HPl := Lib.hid (show pre.length ≤ 34 by have := hO4.out.1; omega)
        have HPt := Lib.hid fun k (h : k < R.length) => rowT_take_succ h
        have HVl := Lib.hid fun k => vals_le R k
        have HVt := Lib.hid fun k (h : k < R.length) => vals_take h
        have hb4s := hB4.out.size
        have h0 : Hid (OwnT wc w2.heap.size A4 p2 c4 (pre ++ rowT (R.take 0))) := Lib.hid (by rw [List.take_zero, rowT_nil, List.append_nil]; exact hO4.out)
        clear hpre hO hB hbs hO4 hc0 hbl1 HZ
        go_wp2_with fail
        go_loopw [3, 26] (fun z i wx => ∃ (k q : Nat) (A5 : Option Addr) (c5 : Nat), k ≤ m ∧ i = .int .i64 (k : Int) ∧ z = .slice A5 q c5 ∧ Hid (OwnT wx w2.heap.size A5 q c5 (pre ++ rowT (R.take k))) ∧ Hid (Below w2.heap.size w2 wx)) (fun _ i _ => m - (intOf i).toNat)
        case atStart => exact ⟨0, p2, A4, c4, by omega, rfl, rfl, h0, hB4⟩
        case round =>
          clear h0 hb4s hB4
          obtain ⟨k, q, A5, c5, hk, rfl, rfl, hO5, hB5⟩ := hrel
          have hq : q ≤ 67 := by
            have h1 := hO5.out.1
            have h2 := HVl.out k
            have h3 := HVj.out
            have h4 := HPl.out
            rw [List.length_append, rowT_len] at h1
            omega
          rcases Nat.lt_or_ge k m with hlt2 | hge2
          · obtain ⟨b2, off2, A6, c6, rfl, hbl2, d0, d1, hT6⟩ := (HTR.out.below hB5.out) k (by have := HM.out; omega)
            have hin2 : (k : Int) < (m : Int) := by omega
            have hka : R.getD k nilA ∈ R := getD_in (by have := HM.out; omega)
            have hoa := HORj.out.1 _ hka
            have hfa : ∀ v ∈ (R.getD k nilA).2, flawI (R.getD k nilA).1 v = 0 := fun v hv => HRRj.out.fine ((R.getD k nilA).1, v) ((prs_in _ _).2 ⟨_, hka, rfl, hv⟩)
            have hn6 : 0 < (R.getD k nilA).2.length := List.length_pos_iff.2 (HRRj.out.ris.each _ hka).1
            have hn33 : (R.getD k nilA).2.length ≤ 33 := by
              have h1 := HVt.out k (by have := HM.out; omega)
              have h2 := HVl.out (k + 1)
              have h3 := HVj.out
              omega
            have HPy := Lib.hid fun (W : World) (hW : Below wr.heap.size wr W) => payloads_any (R.getD k nilA) A6 c6 W (hT6.below hW) hoa hfa (by omega)
            have HEk := Lib.hid (show pre ++ rowT (R.take (k + 1)) = pre ++ rowT (R.take k) ++ (R.getD k nilA).2.map (fun v => pay (R.getD k nilA).1 v) by rw [HPt.out k (by have := HM.out; omega), List.append_assoc])
            have b5 := (Below.refl wr.heap.size wr).alloc (Nat.le_refl _) (.cells #[.string (T (R.getD k nilA).1), .slice A6 (R.getD k nilA).2.length c6] 38)
            have R5 := Lib.hid (Blk.new wr [.string (T (R.getD k nilA).1), .slice A6 (R.getD k nilA).2.length c6] 38)
            have O5 := Lib.hid (hO5.out.alloc (.cells #[.string (T (R.getD k nilA).1), .slice A6 (R.getD k nilA).2.length c6] 38))
            have hbw := hB5.out.size
            have B5 := Lib.hid (hB5.out.alloc hbw (.cells #[.string (T (R.getD k nilA).1), .slice A6 (R.getD k nilA).2.length c6] 38))
            have HPy5 := Lib.hid (HPy.out _ b5)
            dsimp only [alV] at HPy5
            obtain ⟨n6, hn6e⟩ : ∃ n6, (R.getD k nilA).2.length = n6 := ⟨_, rfl⟩
            have HN6 := Lib.hid (show ((R.getD k nilA).2.map (fun v => pay (R.getD k nilA).1 v)).length = n6 by rw [List.length_map]; exact hn6e)
            rw [hn6e] at HPy5 R5 O5 B5 d1 hn6 hn33
            clear b5 hT6 HPy hn6e hoa hfa hka hO5 hB5
            generalize T (R.getD k nilA).1 = E6 at *
            generalize (R.getD k nilA).2.map (fun v => pay (R.getD k nilA).1 v) = PY at *
            generalize pre ++ rowT (R.take k) = PR at *
            go_upto_region 12 with fail
            generalize wr.alloc (.cells #[.string E6, .slice A6 n6 c6] 38) = w5 at *
            generalize wr.heap.size = g5 at *
            have x0 := R5.out.cell (i := 0) rfl
            have x1 := R5.out.cell (i := 1) rfl
            have hb5s := B5.out.size
            go_wp2_with (first
              | (go_at_call 23; (with_reducible refine HPy5.out.mono ?_); rintro e w6 ⟨A7, c7, rfl, ho7, hb7⟩; obtain ⟨g7, rfl, hnews⟩ := ownT_addr ho7 hn6; have O6 := Lib.hid (ownT_kept O5.out hb7); have B6 := Lib.hid (B5.out.trans (hb7.mono hb5s)); have HNw := Lib.hid hnews; have HL7 := Lib.hid ho7.1; clear ho7 hb7 hnews)
              | (at_builtin; refine wpList_append_elt tElt rfl (.tmp 30) (.tmp 32) rfl w2.heap.size A5 q c5 (cellsT PR) rfl O6.out.2 ⟨g7, 0, none⟩ n6 c7 (cellsT PY) rfl (by rw [Nat.mul_one]; unfold cellsT; rw [List.length_map]; exact HN6.out) HNw.out (one_cellT _) (by omega) (by omega) ?_; intro A8 c8 w7 ho8 hb8; have HO8 := Lib.hid (ownT_app O6.out.1 HN6.out rfl ho8); have HB8 := Lib.hid (B6.out.trans hb8); clear ho8 hb8))
            rw [← HEk.out] at HO8
            go_round
            case rel => exact ⟨k + 1, q + n6, A8, c8, by omega, by go_num, by go_num, HO8, HB8⟩
            case measure => simp [intOf]; omega
          · obtain rfl : k = m := by omega
            have hO6 := hO5.out
            have e : R.take k = R := List.take_of_length_le (by have := HM.out; omega)
            rw [e, ← HWj.out] at hO6
            have HO6 := Lib.hid hO6
            clear hO6 hO5 e
            go_wp2_with fail
            go_round
            case rel => exact ⟨j + 1, q, A5, c5, by omega, by go_num, rfl, HO6, hB5⟩
            case measure => simp [intOf]; omega
    · obtain rfl : j = n := by omega
      have hO2 := hO.out
      rw [HWa.out j (by have := HL.out; omega)] at hO2
      have HO2 := Lib.hid hO2
      have hpl : p = (wordsM M).length := hO2.1.symm
      subst hpl
      clear hO2 hO
      go_wp2_with fail
      go_ret
      exact ⟨_, _, rfl, ownT_base HO2.out (by omega), HB1.out.trans ((B2.out.mono (Nat.le_of_lt hlt1)).trans (hB.out.mono (by omega)))⟩
end Go.Proofs.Ytpfkhcgeblihcaa.Qx

/-
  The document's Compile.
-/
namespace Go.Proofs.Ytpfkhcgeblihcaa.Udd
open Go.ChangeShapes Go.WideShapes Go.ChangeAt Go.RowKit
open Bytes8 Blk8 Own8 OwnM OwnE OwnA Dc Fa Fb Fc Fo Pr8 Pv8 Qa Qb Qj Ql Uda Udb Udc
open Qm (comp_plus comp_more comp_word comp_bad T_plus split_ok)
set_option linter.unusedVariables false
set_option maxRecDepth 100000
set_option linter.unusedSimpArgs false

theorem RwD.alF {G : Nat → Prop} {w : World} {B n c : Nat} {A : Option Addr} {r : RW} (h : RwD G w B A n c r) (hG : ∀ b, G b → B ≤ b) : AlF (fun b => B ≤ b ∧ b < w.heap.size) w A r := fun i hi => by
  obtain ⟨V, h1, h2, h3, h4⟩ := h
  have hT := (h4 i hi).2
  have hl := cellsA_len r V h1
  obtain ⟨g1, e1, hb1, hlt, k1⟩ := h3.cell (i := i * 2) (by omega)
  obtain ⟨g2, e3, _, _, k2⟩ := h3.cell (i := i * 2 + 1) (by omega)
  subst e1
  injection e3 with e3; injection e3 with e3; subst e3
  obtain ⟨c0, c1⟩ := cellsA_at r V i h1 hi
  exact ⟨g1, 0, _, _, rfl, ⟨hb1, hlt⟩, hlt, by rw [Nat.zero_add, k1, c0], by rw [Nat.zero_add, k2, c1], hT.kept (Nat.le_refl _) (fun _ _ _ => rfl) (fun b hf hb => ⟨hG b hf.2, hb⟩)⟩
theorem RwD.mono {G G' : Nat → Prop} {w : World} {B B' n c : Nat} {A : Option Addr} {r : RW} (h : RwD G w B A n c r) (hG : ∀ b, G b → G' b) (hB : B' ≤ B) : RwD G' w B' A n c r := by
  obtain ⟨V, h1, h2, h3, h4⟩ := h.base hB
  exact ⟨V, h1, h2, h3, fun i hi => ⟨(h4 i hi).1, (h4 i hi).2.kept (Nat.le_refl _) (fun _ _ _ => rfl) (fun b hf _ => ⟨hf.1, hG b hf.2⟩)⟩⟩
theorem rows_app {wq wr : World} {B0 n c c5 : Nat} {A A5 : Option Addr} {M : List RW} {r : RW} (h : RowsC wq B0 wq.heap.size A n c M) (hb : Below wq.heap.size wq wr) (hr : AlF (fun b => wq.heap.size ≤ b ∧ b < wr.heap.size) wr A5 r) (hB0 : B0 ≤ wq.heap.size) (hn : n ≤ 1000) :
    ∃ A3 c3 w3, (Builtin.append_ #[23, 23] 23 #[.slice A n c, .slice (some ⟨wr.heap.size, 0, none⟩) 1 1]).run Try.prog (wr.alloc (.cells #[.slice A5 r.length c5] 36)) = .ok (.slice A3 (n + 1) c3) w3 ∧ RowsC w3 B0 w3.heap.size A3 (n + 1) c3 (M ++ [r]) ∧ Below B0 wr w3 := by
  obtain ⟨_, h0, V, hV, hO, hA, _⟩ := id h
  have hOx := (ownE_keptB hO hA hb).alloc (.cells #[.slice A5 r.length c5] 36)
  have hs := hb.size
  obtain ⟨A3, c3, w3, hrun, ho, hg, hat⟩ := run_append_elt_at rowElt (wr.alloc (.cells #[.slice A5 r.length c5] 36)) 23 B0 A n c (cellsR M V) hOx ⟨wr.heap.size, 0, none⟩ 1 1 [.slice A5 r.length c5] rfl (Blk.news (Blk.new wr [.slice A5 r.length c5] 36)) (by intro u hu; simp at hu; subst hu; rfl) (by omega) (by omega) (by unfold maxLen; omega)
  exact ⟨A3, c3, w3, hrun, h.more (w1 := wr) (w2 := wr.alloc (.cells #[.slice A5 r.length c5] 36)) hr hb ((Below.refl _ _).alloc (Nat.le_refl _) _) hB0 (fun V' _ h => by rw [ownE_one h hOx]; exact ho) hg hat,
    ((Below.refl B0 wr).alloc (by omega) _).grown hg (by simp; omega) (fun z hz => (Dc.OwnE.ltB hO z hz).1)⟩
theorem blk_far {w : World} {g : Nat} {vs : List Value} {ty : TypeId} (h : Blk w g vs ty) {p : Addr} (hp : g ≠ p.block) (v : Value) : Blk (w.setCell p v) g vs ty := (far_keeps hp).trans h
def RCompd (r : Int × List RW) (w : World) (e : Ending) (w' : World) : Prop := ∃ A' c', e = .returned (.tuple #[.agg #[.slice A' r.2.length c'], .int .i64 r.1]) ∧ Mts w' A' r.2 ∧ Below w.heap.size w w'
theorem rcompd_none {ws : List TX} {r : Int} {w w' : World} {e : Ending} (h : compM ws = (r, [])) (he : e = .returned (.tuple #[.agg #[.slice none 0 0], .int .i64 r])) (hb : Below w.heap.size w w') : RCompd (compM ws) w e w' := by
  rw [h]; exact ⟨none, 0, he, Mts.nil _ _, hb⟩
theorem canon_args {row : List PR} (h : ∀ p ∈ row, okP p) (hl : row.length ≤ 32) : (∀ x ∈ canon row, AllB x.1 ∧ (∀ v ∈ x.2, AllB v) ∧ x.2.length ≤ 900) ∧ (canon row).length ≤ 400 := by
  obtain ⟨h1, h2⟩ := Qs.canon_small row
  have h3 := h2 fun p hp => (h p hp).1
  obtain ⟨k1, _⟩ := Qs.canon_ok h (by omega)
  exact ⟨fun x hx => ⟨(k1 x hx).1.1, fun v hv => ((k1 x hx).2.1 v hv).1, by have := h3 x hx; omega⟩, by omega⟩
theorem wpList_textc {w : World} {ops : Array Oper} {rest : List Oper} {o : Oper} {a : Act} {Q : Exit → Act → World → Prop} (hgd : o.guard = none) (x : Operand) (hop : o.op = .convert 9 44 x) (l : List Int) (hA : AllB l) (n : Nat) (hn : l.length = n) (hm : n ≤ maxLen) (g : Nat) (hg : w.heap.size = g) (hx : a.eval x = .string (T l))
    (h : ∀ c w', n ≤ c → c ≤ maxLen → Bytes w' (some ⟨g, 0, none⟩) l → Below w.heap.size w w' → wpList Try.prog ops Q rest (a.put o.dst (.slice (some ⟨g, 0, none⟩) n c)) w') : wpList Try.prog ops Q (o :: rest) a w :=
  wpList_plain hgd fun K hK => by
    have hs := T_size l
    unfold Oper.wp execOp
    simp only [hop, resolve, Sem.run_bind, Sem.run_pure, Result.andThen_ok, hx]
    rw [run_bytes_of_string w 9 44 5 (T l) Try.underlying9 Try.underlying44 Try.underlying5, T_size, hn]
    subst hg
    refine hK _ _ (h (grownCap w n 0 5) _ (grownCap_ge ..) (grownCap_le_maxLen _ _ _ _ hm) ?_ ?_)
    · refine ⟨hA, fun i hi => ⟨w.heap.size, 0, rfl, by simp, ?_⟩⟩
      rw [Nat.zero_add]
      show (w.drew.alloc (.cells _ _ _)).cell? ⟨w.drew.heap.size, i, none⟩ = _
      rw [World.cell?_alloc_mark]
      have hd : i < (T l).data.size := by
        show i < (T l).size
        omega
      refine (bytesRow_at (T l) _ i hd).trans ?_
      have e1 : (T l).data[i] = (T l).toList[i]'(by rw [ByteArray.toList_eq]; simpa using hd) := by simp only [ByteArray.toList_eq]; rfl
      rw [e1]
      simp only [T_toList, List.getElem_map]
      have hv := hA l[i] (List.getElem_mem hi)
      have e3 : l.getD i 0 = l[i] := by simp [List.getElem?_eq_getElem hi]
      rw [e3]
      have e4 : (((l[i]).toNat.toUInt8.toNat : Nat) : Int) = l[i] := by simp; omega
      rw [e4]
    · exact ((Below.refl w.heap.size w).drew).alloc (by simp) _
structure Stand (w : World) (g4 B0 : Nat) (ws : List TX) (n k nr n5 c4 c5 : Nat) (A4 A5 : Option Addr) (M : List RW) (row : List PR) (wq wr : World) : Prop where
  goes : compM ws = comp (ws.drop k) M row
  rows : RowsC wq B0 wq.heap.size A4 nr c4 M
  b0 : B0 ≤ wq.heap.size
  since : Below wq.heap.size wq wr
  line : RwD (fun b => wq.heap.size ≤ b) wr wq.heap.size A5 n5 c5 (canon row)
  ok : ∀ p ∈ row, okP p
  few : row.length ≤ k
  res : Blk wr w.heap.size [.slice none 0 0] 25
  box : Blk wr g4 [.slice A4 nr c4] 25
  below : Below w.heap.size w wr
  empty : row = [] ↔ k = 0 ∨ ws.getD (k - 1) [] = [43]
  more : row = [] → k = 0 ∨ k < n
set_option maxHeartbeats 16000000 in
theorem rcompile_any (a : Option Addr) (ws : List TX) (n c : Nat) (w : World) (hT : Txts w a ws) (hL : ws.length = n) (hA : ∀ v ∈ ws, AllB v ∧ v.length ≤ 900000) (hn : n ≤ 1000000) :
    Calls Try.prog 7 #[.slice a n c] w (RCompd (compM ws) w) := by
  have HT := Lib.hid hT
  have HL := Lib.hid hL
  have HA := Lib.hid hA
  have b1 := (Below.refl w.heap.size w).alloc (Nat.le_refl _) (.cells #[.slice none 0 0] 25)
  have R1 := Lib.hid (Blk.new w [.slice none 0 0] 25)
  have hz1 : (w.alloc (.cells #[.slice none 0 0] 25)).heap.size = w.heap.size + 1 := by simp
  have HB1 := Lib.hid b1
  by_cases h32 : 32 < n
  · have HR := Lib.hid (show compM ws = (21, []) by unfold compM; rw [if_pos (by omega)])
    have r0 := R1.out.cell (i := 0) rfl
    have rf := R1.out.frozen 0
    clear hT hL hA b1 hz1
    go_enter Try.func7, Try.ntmps7
    go_wp2_with fail
    refine bodyPost_ret (v := .tuple #[.agg #[.slice none 0 0], .int .i64 21]) (by simp [results_cell_tmp Try.results7, go_sem, r0, rf, Result.andThen]) rfl (rcompd_none HR.out rfl ?_)
    (repeat (first | (with_reducible exact HB1.out) | refine Below.setCell ?_ (by simp) _ | refine Below.alloc ?_ (by simp) _ | refine below_drewN ?_ _))
  · have HR := Lib.hid (show compM ws = comp (ws.drop 0) [] [] by unfold compM; rw [if_neg (by omega)]; rfl)
    have HZ1 := Lib.hid hz1
    clear hT hL hA b1 hz1
    go_enter Try.func7, Try.ntmps7
    go_upto_region 1 with fail
    generalize w.alloc (.cells #[.slice none 0 0] 25) = w1 at *
    go_upto_region 4 with fail
    have b2 := (Below.refl w1.heap.size w1).alloc (Nat.le_refl _) (.cells #[.slice none 0 0] 25)
    have R2 := Lib.hid (Blk.new w1 [.slice none 0 0] 25)
    have R12 := Lib.hid (R1.out.below b2 R1.out.lt)
    have HB2 := Lib.hid (HB1.out.trans (b2.mono HB1.out.size))
    have hz2 : (w1.alloc (.cells #[.slice none 0 0] 25)).heap.size = w1.heap.size + 1 := by simp
    have HZ2 := Lib.hid hz2
    clear b2 hz2 R1 HB1
    change Hid (Blk (w1.alloc (.cells #[.slice none 0 0] 25)) w1.heap.size [.slice none 0 0] 25) at R2
    generalize w1.alloc (.cells #[.slice none 0 0] 25) = w2 at *
    generalize w1.heap.size = g4 at *
    have hg4 : w.heap.size < g4 := by have := HZ1.out; omega
    have hg42 : g4 < w2.heap.size := R2.out.lt
    have HN2 := Lib.hid (RowsC.nil w2 w2.heap.size (Nat.le_refl _))
    have HS0 : Hid (Stand w g4 w2.heap.size ws n 0 0 0 0 0 none none [] [] w2 w2) := Lib.hid ⟨HR.out, HN2.out, Nat.le_refl _, Below.refl _ _, RwD.nil _ w2 _ (Nat.le_refl _), (fun _ h => by cases h), Nat.le_refl _, R12.out, R2.out, HB2.out, by simp, fun _ => .inl rfl⟩
    clear HR R12 R2 HB2 HN2 HZ1 HZ2
    go_wp2_with fail
    go_loopw [5, 6] (fun z5 i wr => ∃ (k nr n5 c4 c5 : Nat) (A4 A5 : Option Addr) (M : List RW) (row : List PR) (wq : World), k ≤ n ∧ i = .int .i64 (k : Int) ∧ z5 = .slice A5 n5 c5 ∧ nr ≤ k ∧ Hid (Stand w g4 w2.heap.size ws n k nr n5 c4 c5 A4 A5 M row wq wr)) (fun _ i _ => n - (intOf i).toNat)
    case atStart => exact ⟨0, 0, 0, 0, 0, none, none, [], [], w2, by omega, rfl, rfl, by omega, HS0⟩
    case round =>
      clear HS0
      obtain ⟨k, nr, n5, c4, c5, A4, A5, M, row, wq, hk, rfl, rfl, hnr, hS⟩ := hrel
      have k0 := hS.out.res.cell (i := 0) rfl
      have kf := hS.out.res.frozen 0
      have HBw := Lib.hid hS.out.below
      have hb0 := hS.out.b0
      have hsz := hS.out.since.size
      by_cases hlt : k < n
      · have hkl : k < ws.length := by have := HL.out; omega
        obtain ⟨b, off, rfl, hbl, hc0⟩ := (HT.out.below hS.out.below) k hkl
        have hin : (k : Int) < (n : Int) := by omega
        obtain ⟨hxA, hxl⟩ := HA.out (ws.getD k []) (getD_in hkl)
        have hp := T_plus (ws.getD k []) hxA
        by_cases hx : ws.getD k [] = [43]
        · rw [decide_eq_true hx] at hp
          by_cases hbad : row = [] ∨ k + 1 = n
          · have HCp := Lib.hid (hS.out.goes.trans (comp_plus hkl hx (hbad.imp id fun h => List.drop_eq_nil_of_le (by have := HL.out; omega))))
            by_cases hk0 : k = 0
            · have hz : ((k : Int) == 0) = true := by simp; omega
              clear hbad hx hS hk0
              generalize T (ws.getD k []) = S at *
              go_wp2_with fail
              refine bodyPost_ret (v := .tuple #[.agg #[.slice none 0 0], .int .i64 20]) (by simp [results_cell_tmp Try.results7, go_sem, k0, kf, Result.andThen]) rfl (rcompd_none HCp.out rfl ?_)
              (repeat (first | (with_reducible exact HBw.out) | refine Below.setCell ?_ (by simp) _ | refine Below.alloc ?_ (by simp) _ | refine below_drewN ?_ _))
            · have hz : ((k : Int) == 0) = false := by simp; omega
              by_cases hk1 : k + 1 = n
              · have hz2 : ((k : Int) == (n : Int) - 1) = true := by simp; omega
                clear hbad hx hS hk0 hk1
                generalize T (ws.getD k []) = S at *
                go_wp2_with fail
                refine bodyPost_ret (v := .tuple #[.agg #[.slice none 0 0], .int .i64 20]) (by simp [results_cell_tmp Try.results7, go_sem, k0, kf, Result.andThen]) rfl (rcompd_none HCp.out rfl ?_)
                (repeat (first | (with_reducible exact HBw.out) | refine Below.setCell ?_ (by simp) _ | refine Below.alloc ?_ (by simp) _ | refine below_drewN ?_ _))
              · have hz2 : ((k : Int) == (n : Int) - 1) = false := by simp; omega
                have hrow : row = [] := hbad.resolve_right hk1
                have hpv : ws.getD (k - 1) [] = [43] := (hS.out.empty.1 hrow).resolve_left hk0
                obtain ⟨q, hq⟩ : ∃ q, k = q + 1 := ⟨k - 1, by omega⟩
                rw [show k - 1 = q by omega] at hpv
                obtain ⟨b', off', e, _, hcq⟩ := (HT.out.below hS.out.below) q (by omega)
                injection e with e; injection e with e1 e2; subst e1; subst e2
                have hpq := T_plus (ws.getD q []) (HA.out _ (getD_in (by omega))).1
                rw [decide_eq_true hpv] at hpq
                have hm1 : (k : Int) - 1 = (q : Int) := by omega
                have hq1 : (q : Int) < (n : Int) := by omega
                clear hbad hx hS hk0 hk1 hrow hpv hq
                generalize T (ws.getD k []) = S at *
                generalize T (ws.getD q []) = S2 at *
                go_wp2_with fail
                refine bodyPost_ret (v := .tuple #[.agg #[.slice none 0 0], .int .i64 20]) (by simp [results_cell_tmp Try.results7, go_sem, k0, kf, Result.andThen]) rfl (rcompd_none HCp.out rfl ?_)
                (repeat (first | (with_reducible exact HBw.out) | refine Below.setCell ?_ (by simp) _ | refine Below.alloc ?_ (by simp) _ | refine below_drewN ?_ _))
          · have hne : row ≠ [] := fun h => hbad (.inl h)
            have hk1 : k + 1 ≠ n := fun h => hbad (.inr h)
            have hk0 : k ≠ 0 := fun h => hne (hS.out.empty.2 (.inl h))
            have hpv : ws.getD (k - 1) [] ≠ [43] := fun h => hne (hS.out.empty.2 (.inr h))
            have hz : ((k : Int) == 0) = false := by simp; omega
            have hz2 : ((k : Int) == (n : Int) - 1) = false := by simp; omega
            obtain ⟨q, hq⟩ : ∃ q, k = q + 1 := ⟨k - 1, by omega⟩
            rw [show k - 1 = q by omega] at hpv
            obtain ⟨b', off', e, _, hcq⟩ := (HT.out.below hS.out.below) q (by omega)
            injection e with e; injection e with e1 e2; subst e1; subst e2
            have hpq := T_plus (ws.getD q []) (HA.out _ (getD_in (by omega))).1
            rw [decide_eq_false hpv] at hpq
            have hm1 : (k : Int) - 1 = (q : Int) := by omega
            have hq1 : (q : Int) < (n : Int) := by omega
            obtain ⟨A7, c7, w3, hr, hM7, hb7⟩ := rows_app (c5 := c5) hS.out.rows hS.out.since (RwD.alF hS.out.line (fun _ h => h)) hS.out.b0 (by omega)
            rw [← hS.out.line.len] at hr
            have l4 := hS.out.box.cell (i := 0) rfl
            have hK4 := hS.out.box.below hb7 hg42
            have k4 := hK4.cell (i := 0) rfl
            have f4 := hK4.frozen 0
            have HR7 := Lib.hid hr
            have hs3 := hb7.size
            have hsz4 : (w3.setCell ⟨g4, 0, none⟩ (.slice A7 (nr + 1) c7)).heap.size = w3.heap.size := by simp
            have HS4 : Hid (Stand w g4 w2.heap.size ws n (k + 1) (nr + 1) 0 c7 0 A7 none (M ++ [canon row]) [] (w3.setCell ⟨g4, 0, none⟩ (.slice A7 (nr + 1) c7)) (w3.setCell ⟨g4, 0, none⟩ (.slice A7 (nr + 1) c7))) := Lib.hid
              ⟨hS.out.goes.trans (comp_more hkl hx (fun h => h.elim hne fun h => by have := List.drop_eq_nil_iff.1 h; have := HL.out; omega)), by rw [hsz4]; exact hM7.far (p := ⟨g4, 0, none⟩) hg42 _, by rw [hsz4]; omega, Below.refl _ _, RwD.nil _ _ _ (Nat.le_refl _), (fun _ h => by cases h), Nat.zero_le _,
                blk_far (hS.out.res.below hb7 (by omega)) (p := ⟨g4, 0, none⟩) (by show w.heap.size ≠ g4; omega) _, hK4.set_ 0 _, (hS.out.below.trans (hb7.mono (by omega))).setCell (p := ⟨g4, 0, none⟩) (Nat.le_of_lt hg4) _, ⟨fun _ => .inr (by rw [Nat.add_sub_cancel]; exact hx), fun _ => rfl⟩, fun _ => .inr (by omega)⟩
            clear hbad hx hS hk0 hk1 hne hpv hq hr hM7 hb7 hK4 hsz4 hs3
            generalize T (ws.getD k []) = S at *
            generalize T (ws.getD q []) = S2 at *
            go_wp2_with ((with_reducible apply Qm.at_slot 46); refine wpList_append_run rfl (.tmp 43) (.tmp 45) 23 rfl _ _ rfl rfl _ _ HR7.out ?_)
            go_round
            case rel => exact ⟨k + 1, nr + 1, 0, c7, 0, A7, none, _, [], _, by omega, by go_num, rfl, by omega, HS4⟩
            case measure => simp [intOf]; omega
        · rw [decide_eq_false hx] at hp
          have HCw := Lib.hid fun (he : splitE (ws.getD k []) = 0) => hS.out.goes.trans (comp_word hkl hx he)
          have HCb := Lib.hid fun (he : splitE (ws.getD k []) ≠ 0) => hS.out.goes.trans (comp_bad hkl hx he)
          have HX0 := Lib.hid hx
          obtain ⟨x, hxx⟩ : ∃ x, ws.getD k [] = x := ⟨_, rfl⟩
          have HXX := Lib.hid hxx
          rw [hxx] at HCw HCb HX0 hc0 hp hxA hxl
          clear hx hxx
          have HSp := Lib.hid fun (cb : Nat) (W : World) (h1 : x.length ≤ cb) (h2 : cb ≤ maxLen) (h : Bytes W (some ⟨wr.heap.size, 0, none⟩) x) => Fe.rsplit_any (some ⟨wr.heap.size, 0, none⟩) x x.length cb W h rfl (by omega) h1 h2
          unfold Fsp.Splitted at HSp
          dsimp only [pv] at HSp
          have HOp := Lib.hid (split_ok hxA hxl)
          have HX := Lib.hid hxA
          have HXm := Lib.hid (show x.length ≤ maxLen by unfold maxLen; omega)
          clear hxA hxl
          go_upto_region 14 with (first
            | ((with_reducible apply Qm.at_slot 53); refine wpList_textc rfl (.tmp 52) rfl x HX.out x.length rfl HXm.out wr.heap.size rfl rfl ?_; intro cb w2' hc1 hc2 hbb hbl2; have HBb := Lib.hid hbb; have HG := Lib.hid hbl2; have HC1 := Lib.hid hc1; have HC2 := Lib.hid hc2; clear hbb hbl2 hc1 hc2)
            | (go_at_call 19; (with_reducible refine (HSp.out _ _ HC1.out HC2.out HBb.out).mono ?_); rintro e w3 ⟨rfl, hb3⟩; have H3 := Lib.hid (HG.out.trans (hb3.mono HG.out.size)); clear hb3))
          have H4 := Lib.hid (H3.out.alloc H3.out.size (.cells #[.string (T (splitN x)), .string (T (splitV x))] 40))
          have R4 := Lib.hid (Blk.new w3 [.string (T (splitN x)), .string (T (splitV x))] 40)
          change Hid (Blk (w3.alloc (.cells #[.string (T (splitN x)), .string (T (splitV x))] 40)) w3.heap.size _ _) at R4
          generalize w3.alloc (.cells #[.string (T (splitN x)), .string (T (splitV x))] 40) = w4 at *
          clear H3 HG HBb HSp
          generalize w3.heap.size = g3 at *
          have m0 := R4.out.cell (i := 0) rfl
          have m1 := R4.out.cell (i := 1) rfl
          have HB4 := Lib.hid (hS.out.below.trans (H4.out.mono hS.out.below.size))
          have HK4 := Lib.hid (hS.out.res.below H4.out hS.out.res.lt)
          have l0 := HK4.out.cell (i := 0) rfl
          have lf := HK4.out.frozen 0
          clear k0 kf hc0 hbl hp
          by_cases he : splitE x = 0
          · have HCp := Lib.hid (HCw.out he)
            have hx32 : row.length ≤ 32 := by have := hS.out.few; omega
            obtain ⟨hargs, h400⟩ := canon_args hS.out.ok hx32
            have hal := ralts_any (fun b => wq.heap.size ≤ b) A5 (canon row) c5 (splitN x, splitV x) w4 (hS.out.line.kept H4.out).alc (canon_ris row) hargs ⟨HOp.out.1, HOp.out.2.1⟩ h400
            unfold Alted at hal
            rw [← canon_snoc, ← hS.out.line.len] at hal
            have HAl := Lib.hid hal
            have h4s := H4.out.size
            have HNx : Hid (∀ (A7 : Option Addr) (c7 n7 : Nat) (w7 : World), RwD (fun b => wq.heap.size ≤ b ∨ w4.heap.size ≤ b) w7 w4.heap.size A7 n7 c7 (canon (row ++ [(splitN x, splitV x)])) → Below w4.heap.size w4 w7 → Stand w g4 w2.heap.size ws n (k + 1) nr n7 c4 c7 A4 A7 M (row ++ [(splitN x, splitV x)]) wq w7) := Lib.hid fun A7 c7 n7 w7 hR hb => by
              have hb' := H4.out.trans (hb.mono h4s)
              refine ⟨HCp.out, hS.out.rows, hS.out.b0, hS.out.since.trans (hb'.mono hsz), RwD.mono hR (fun b h => h.elim id fun h => by omega) (by omega), fun p hp => ?_, by have := hS.out.few; simp; omega, hS.out.res.below hb' hS.out.res.lt, hS.out.box.below hb' hS.out.box.lt, hS.out.below.trans (hb'.mono hS.out.below.size), ⟨fun h => by simp at h, fun h => ?_⟩, fun h => by simp at h⟩
              · rcases List.mem_append.1 hp with h | h
                · exact hS.out.ok p h
                · rw [List.mem_singleton.1 h]; exact HOp.out
              · rcases h with h | h
                · omega
                · rw [Nat.add_sub_cancel, HXX.out] at h; exact absurd h HX0.out
            rw [he]
            clear he HCb HCw HX hal hargs h400 hS HCp HOp
            generalize (canon (row ++ [(splitN x, splitV x)])).length = n7 at *
            generalize T (splitN x) = Sn at *
            generalize T (splitV x) = Sv at *
            go_wp2_with (go_at_call 20; (with_reducible refine HAl.out.mono ?_); rintro e w7 ⟨A7, c7, rfl, hR7, hb7⟩; have HS7 := Lib.hid (HNx.out _ _ _ _ hR7 hb7); clear hR7 hb7)
            go_round
            case rel => exact ⟨k + 1, nr, n7, c4, c7, A4, A7, M, _, wq, by omega, by go_num, rfl, by omega, HS7⟩
            case measure => simp [intOf]; omega
          · have HCp := Lib.hid (HCb.out he)
            have hbe : (splitE x != 0) = true := by simpa using he
            clear he HCb HCw HX hS
            generalize splitE x = se at *
            go_wp2_with fail
            refine bodyPost_ret (v := .tuple #[.agg #[.slice none 0 0], .int .i64 se]) (by simp [results_cell_tmp Try.results7, go_sem, l0, lf, Result.andThen]) rfl (rcompd_none HCp.out rfl ?_)
            (repeat (first | (with_reducible exact HB4.out) | refine Below.setCell ?_ (by simp) _ | refine Below.alloc ?_ (by simp) _ | refine below_drewN ?_ _))
      · have hkn : k = n := by omega
        have hnl : ¬ ((k : Int) < (n : Int)) := by omega
        have hdr : ws.drop k = [] := List.drop_eq_nil_of_le (by have := HL.out; omega)
        have hgo := hS.out.goes
        rw [hdr] at hgo
        have l4 := hS.out.box.cell (i := 0) rfl
        by_cases hn0 : n = 0
        · have hrow : row = [] := List.eq_nil_of_length_eq_zero (by have := hS.out.few; omega)
          have HCp := Lib.hid (show compM ws = (0, M) by rw [hgo, comp, if_pos hrow])
          have hRk := hS.out.rows.kept hS.out.since
          have HMt := Lib.hid fun v => (hRk.far (p := ⟨w.heap.size, 0, none⟩) (by show w.heap.size < w2.heap.size; omega) v).mts
          have HNr := Lib.hid hRk.1
          have hnz : ¬ ((0 : Int) < (n : Int)) := by omega
          clear hkn hdr hgo hn0 hrow hS hRk
          go_wp2_with fail
          refine bodyPost_ret (v := .tuple #[.agg #[.slice A4 nr c4], .int .i64 0]) (by simp [results_cell_tmp Try.results7, go_sem, k0, kf, Result.andThen]) rfl ?_
          unfold RCompd
          rw [HCp.out]
          exact ⟨A4, c4, by rw [HNr.out], HMt.out _, HBw.out.setCell (p := ⟨w.heap.size, 0, none⟩) (Nat.le_refl _) _⟩
        · have hne : row ≠ [] := fun h => by rcases hS.out.more h with h1 | h1 <;> omega
          have HCp := Lib.hid (show compM ws = (0, M ++ [canon row]) by rw [hgo, comp, if_neg hne])
          have hnz : (0 : Int) < (n : Int) := by omega
          obtain ⟨A7, c7, w3, hr, hM7, hb7⟩ := rows_app (c5 := c5) hS.out.rows hS.out.since (RwD.alF hS.out.line (fun _ h => h)) hS.out.b0 (by omega)
          rw [← hS.out.line.len] at hr
          have hK4 := hS.out.box.below hb7 hg42
          have k4 := hK4.cell (i := 0) rfl
          have f4 := hK4.frozen 0
          have HR7 := Lib.hid hr
          have hs3 := hb7.size
          have K54 := Lib.hid (hK4.set_ 0 (.slice A7 (nr + 1) c7))
          have K52 := Lib.hid (blk_far (hS.out.res.below hb7 (by omega)) (p := ⟨g4, 0, none⟩) (by show w.heap.size ≠ g4; omega) (.slice A7 (nr + 1) c7))
          have HB5 := Lib.hid ((hS.out.below.trans (hb7.mono (by omega))).setCell (p := ⟨g4, 0, none⟩) (Nat.le_of_lt hg4) (.slice A7 (nr + 1) c7))
          have HM5 := Lib.hid (hM7.far (p := ⟨g4, 0, none⟩) hg42 (.slice A7 (nr + 1) c7))
          clear hkn hdr hgo hn0 hne hr hM7 hb7 hK4 hs3 hS k0 kf
          go_upto_region 19 with ((with_reducible apply Qm.at_slot 71); refine wpList_append_run rfl (.tmp 68) (.tmp 70) 23 rfl _ _ rfl rfl _ _ HR7.out ?_)
          generalize w3.setCell ⟨g4, 0, none⟩ (.slice A7 (nr + 1) c7) = w5 at *
          have x4 := K54.out.cell (i := 0) rfl
          have x2 := K52.out.cell (i := 0) rfl
          have xf := K52.out.frozen 0
          clear k4 f4 l4
          go_wp2_with fail
          refine bodyPost_ret (v := .tuple #[.agg #[.slice A7 (nr + 1) c7], .int .i64 0]) (by simp [results_cell_tmp Try.results7, go_sem, x2, xf, Result.andThen]) rfl ?_
          unfold RCompd
          rw [HCp.out]
          exact ⟨A7, c7, by rw [HM5.out.1], (HM5.out.far (p := ⟨w.heap.size, 0, none⟩) (by show w.heap.size < w2.heap.size; omega) _).mts, HB5.out.setCell (p := ⟨w.heap.size, 0, none⟩) (Nat.le_refl _) _⟩
end Go.Proofs.Ytpfkhcgeblihcaa.Udd
