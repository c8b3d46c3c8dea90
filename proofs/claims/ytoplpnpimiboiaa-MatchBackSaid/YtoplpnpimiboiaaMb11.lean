/-
  Texts beneath the proof, one behind the other.
-/
import Derived.Deep.CutRange
import Derived.Laws.OwnMore
import Derived.Test.YtoplpnpimiboiaaMb8
import Derived.Test.YtoplpnpimiboiaaMb6
import Derived.Test.YtoplpnpimiboiaaMb5
import Derived.Test.YtoplpnpimiboiaaMb10
import Derived.Test.YtoplpnpimiboiaaMb2

/-
  The chapter's example of layer 17; few pairs.
-/
namespace Go.Proofs.Ytoplpnpimiboiaa.Qr
open Go.ChangeShapes Go.WideShapes Go.ChangeAt Go.RowKit
open Bytes8 Blk8 Own8 OwnE Fa Fb Fc Fo Pr8 Pv8 Qa Qb Qc Qd Qn Numb Rows2
open Qm (compile_any Compd)
open Qo (holds_any)
open SeqP (pair_any Paired)
open Seq8
open Pq8 (okR_okP)
open Ps8 (okR)
set_option linter.unusedVariables false
set_option maxRecDepth 100000
set_option linter.unusedSimpArgs false

abbrev exW : List TX := [[65, 61, 49], [65, 61, 50], [66, 61, 51]]
abbrev exM : List RW := [[([65], [[49], [50]]), ([66], [[51]])]]
abbrev exP : List PR := [([66], [51]), ([65], [50])]
theorem ex_comp : compM exW = (0, exM) := by decide +kernel
theorem ex_hold : holdB exP exM = true := by decide +kernel
theorem ex_none : holdB [] [] = true := by decide +kernel
theorem small_M : OkM exM := by
  have h : ∀ v ∈ ([[65], [66], [49], [50], [51]] : List TX), OkT v := by
    intro v hv
    have : (v.all fun x => decide (0 ≤ x) && decide (x < 256)) = true ∧ v.length ≤ maxLen := by
      simp only [List.mem_cons, List.not_mem_nil, or_false] at hv
      rcases hv with rfl | rfl | rfl | rfl | rfl <;> exact ⟨by decide, by decide⟩
    exact ⟨Ff.small_all this.1, this.2⟩
  refine ⟨fun r hr => ⟨fun a ha => ?_, ?_⟩, by decide⟩
  · simp only [List.mem_cons, List.not_mem_nil, or_false] at hr
    subst hr
    simp only [List.mem_cons, List.not_mem_nil, or_false] at ha
    rcases ha with rfl | rfl
    · refine ⟨h _ (by simp), fun v hv => h v ?_, by decide⟩
      simp only [List.mem_cons, List.not_mem_nil, or_false] at hv ⊢
      rcases hv with rfl | rfl <;> simp
    · refine ⟨h _ (by simp), fun v hv => h v ?_, by decide⟩
      simp only [List.mem_cons, List.not_mem_nil, or_false] at hv ⊢
      subst hv; simp
  · simp only [List.mem_cons, List.not_mem_nil, or_false] at hr
    subst hr
    decide
theorem ex_all : ∀ v ∈ exW, AllB v ∧ v.length ≤ 900000 := by
  intro v hv
  have : (v.all fun x => decide (0 ≤ x) && decide (x < 256)) = true ∧ v.length ≤ 900000 := by
    simp only [List.mem_cons, List.not_mem_nil, or_false] at hv
    rcases hv with rfl | rfl | rfl <;> exact ⟨by decide, by decide⟩
  exact ⟨Ff.small_all this.1, this.2⟩
theorem ex_words (w : World) : Txts (w.alloc (.cells #[.string { data := #[65, 61, 49] }, .string { data := #[65, 61, 50] }, .string { data := #[66, 61, 51] }] 9)) (some ⟨w.heap.size, 0, none⟩) exW := fun i hi => by
  have hb := Blk.new w [.string { data := #[65, 61, 49] }, .string { data := #[65, 61, 50] }, .string { data := #[66, 61, 51] }] 9
  refine ⟨w.heap.size, 0, rfl, hb.lt, ?_⟩
  rw [Nat.zero_add]
  rcases i with _ | _ | _ | i
  · rw [hb.cell rfl, show T (exW.getD 0 []) = ({ data := #[65, 61, 49] } : ByteArray) by decide]
  · rw [hb.cell rfl, show T (exW.getD 1 []) = ({ data := #[65, 61, 50] } : ByteArray) by decide]
  · rw [hb.cell rfl, show T (exW.getD 2 []) = ({ data := #[66, 61, 51] } : ByteArray) by decide]
  · simp at hi; omega
theorem ex_pairs (w : World) : Prs (w.alloc (.cells #[.string { data := #[66] }, .string { data := #[51] }, .string { data := #[65] }, .string { data := #[50] }] 45)) (some ⟨w.heap.size, 0, none⟩) exP := by
  have hb := Blk.new w [.string { data := #[66] }, .string { data := #[51] }, .string { data := #[65] }, .string { data := #[50] }] 45
  refine ⟨fun p hp => ?_, fun i hi => ⟨w.heap.size, 0, rfl, hb.lt, ?_⟩⟩
  · simp only [List.mem_cons, List.not_mem_nil, or_false] at hp
    rcases hp with rfl | rfl <;> exact ⟨Ff.small_all (by decide), Ff.small_all (by decide), by decide, by decide⟩
  · rw [Nat.zero_add]
    rcases i with _ | _ | i
    · exact ⟨by rw [hb.cell rfl, show T (exP.getD 0 nil2).1 = ({ data := #[66] } : ByteArray) by decide], by rw [hb.cell rfl, show T (exP.getD 0 nil2).2 = ({ data := #[51] } : ByteArray) by decide]⟩
    · exact ⟨by rw [hb.cell rfl, show T (exP.getD 1 nil2).1 = ({ data := #[65] } : ByteArray) by decide], by rw [hb.cell rfl, show T (exP.getD 1 nil2).2 = ({ data := #[50] } : ByteArray) by decide]⟩
    · simp at hi; omega
set_option maxHeartbeats 8000000 in
theorem first_any (w : World) : Calls Try.prog 7 #[] w fun e w' => e = .returned (.bool true) ∧ Below w.heap.size w w' := by
  have b1 := (Below.refl w.heap.size w).alloc (Nat.le_refl _) (.cells #[.string { data := #[65, 61, 49] }, .string { data := #[65, 61, 50] }, .string { data := #[66, 61, 51] }] 9)
  have HC := Lib.hid (compile_any (some ⟨w.heap.size, 0, none⟩) exW 3 3 _ (ex_words w) rfl ex_all (by decide))
  have B1 := Lib.hid b1
  rw [ex_comp] at HC
  unfold Compd at HC
  dsimp only [exM, List.length] at HC
  clear b1
  go_enter Try.func7, Try.ntmps7
  go_upto_region 2 with (go_at_call 9; (with_reducible refine HC.out.mono ?_); rintro e w2 ⟨A2, c2, rfl, hm, hb, -⟩; have HM := Lib.hid hm; have B2 := Lib.hid (B1.out.trans (hb.mono B1.out.size)); clear hm hb)
  have R3 := Lib.hid (Blk.new w2 [.slice A2 1 c2] 25)
  have b3 := (Below.refl w2.heap.size w2).alloc (Nat.le_refl _) (.cells #[.slice A2 1 c2] 25)
  have M3 := Lib.hid (HM.out.below b3)
  have B3 := Lib.hid (B2.out.trans (b3.mono B2.out.size))
  clear b3
  change Hid (Blk (w2.alloc (.cells #[.slice A2 1 c2] 25)) _ _ _) at R3
  generalize w2.alloc (.cells #[.slice A2 1 c2] 25) = w3 at *
  generalize w2.heap.size = g3 at *
  obtain ⟨b, off, A3, c3, rfl, hbl, k0, hA⟩ := M3.out 0 (by decide)
  obtain ⟨b', off', A4, c4, rfl, hbl2, l0, l1, _⟩ := hA 0 (by decide)
  have r0 := R3.out.cell (i := 0) rfl
  change w3.cell? ⟨b, off + 0, none⟩ = some (.slice _ 2 c3) at k0
  change w3.cell? ⟨b', off' + 0 * 2 + 1, none⟩ = some (.slice A4 2 c4) at l1
  simp only [Nat.add_zero, Nat.zero_mul] at k0 l1
  have b4 := (Below.refl w3.heap.size w3).alloc (Nat.le_refl _) (.cells #[.string { data := #[66] }, .string { data := #[51] }, .string { data := #[65] }, .string { data := #[50] }] 45)
  have H1 := Lib.hid (holds_any exP (some ⟨w3.heap.size, 0, none⟩) 2 2 exM (some ⟨b, off, none⟩) c2 _ (ex_pairs w3) rfl (by decide) (M3.out.below b4) small_M)
  have H2 := Lib.hid fun W => holds_any [] none 0 0 [] none 0 W (Prs.nil W none) rfl (by decide) (Mts.nil W none) ⟨(fun _ h => by cases h), Nat.zero_le _⟩
  have B4 := Lib.hid (B3.out.trans (b4.mono B3.out.size))
  rw [ex_hold] at H1
  simp only [ex_none] at H2
  dsimp only [Qd.mtV, exM, List.length] at H1 H2
  clear hA hbl hbl2 l0 b4
  go_wp2_with (first
    | (go_at_call 17; (with_reducible refine H1.out.mono ?_); rintro e w5 ⟨rfl, hb⟩; have B5 := Lib.hid (B4.out.trans (hb.mono B4.out.size)); clear hb)
    | (go_at_call 17; (with_reducible refine (H2.out _).mono ?_); rintro e w6 ⟨rfl, hb⟩; have B6 := Lib.hid (B5.out.trans (hb.mono B5.out.size)); clear hb))
  go_ret
  exact ⟨rfl, B6.out⟩
/-- Pairs out of numbers. -/
def Made6 (gq : Nat) (a : Option Addr) (len cap : Nat) (f : Nat → Int) (w : World) (e : Ending) (w' : World) : Prop :=
  ∃ (L : List PR) (A : Option Addr) (c k' : Nat), e = .returned (.slice A L.length c) ∧ OwnP w' w.heap.size A L.length c L ∧ ((∀ p ∈ L, okR p) ∧ L.length ≤ 6) ∧ SeqIn w' gq a len cap f k' ∧ KeptB w.heap.size gq w w'
set_option maxHeartbeats 2000000 in
set_option maxRecDepth 100000 in
theorem pairs6_any (gq : Nat) (a : Option Addr) (len cap : Nat) (f : Nat → Int) (k : Nat) (w : World) (h : SeqIn w gq a len cap f k) :
    Calls Try.prog 21 #[.pointer (some ⟨gq, 0, none⟩), .int .i64 6] w (Made6 gq a len cap f w) := by
  have hgq := h.1.lt
  have S0 := Lib.hid h
  clear h
  unfold Made6
  go_enter Try.func21, Try.ntmps21
  go_wp2_with (go_at_call 39; (with_reducible refine (seqN_any gq a len cap f k 6 w (by decide) (by decide) S0.out).mono ?_); rintro e w1 ⟨r, k1, rfl, hr, hS, hK⟩; have S1 := Lib.hid hS; have K1 := Lib.hid hK; clear hS hK)
  go_loopw [5, 6] (fun s i wr => ∃ (j n : Nat) (A : Option Addr) (c k2 : Nat) (L : List PR), i = .int .i64 (j : Int) ∧ s = .slice A n c ∧ n + j = r + 1 ∧ n ≤ 6 ∧ j ≤ 6 ∧ Hid (OwnP wr w.heap.size A n c L) ∧ Hid (∀ p ∈ L, okR p) ∧ Hid (SeqIn wr gq a len cap f k2) ∧ Hid (KeptB w.heap.size gq w wr)) (fun _ i _ => (intOf i).toNat)
  case atStart => exact ⟨r + 1, 0, none, 0, k1, [], by go_num, rfl, by omega, by omega, by omega, Lib.hid (OwnP.nil w1 _ K1.out.size), Lib.hid (fun p hp => by cases hp), S1, K1⟩
  case round =>
    obtain ⟨j, n, A, c, k2, L, rfl, rfl, hnj, hn, hj, hO, hR, hS, hK⟩ := hrel
    cases j with
    | zero =>
      have hlen := hO.out.2.1
      go_wp2
      go_ret
      exact ⟨L, A, c, k2, by rw [hlen]; rfl, by rw [hlen]; exact hO.out, ⟨hR.out, by omega⟩, hS.out, hK.out⟩
    | succ j =>
      have e : ((j + 1 : Nat) : Int) = (j : Int) + 1 := by omega
      have hpos : (0 : Int) < (j : Int) + 1 := by omega
      rw [e]
      go_wp2_with (first
        | (go_at_call 23; (with_reducible refine (pair_any gq a len cap f k2 wr hS.out).mono ?_); rintro e w2 ⟨p1, p2, k3, rfl, hok, hS2, hK2⟩; have HOk := Lib.hid hok; have S2 := Lib.hid hS2; have O2 := Lib.hid (Pq8.OwnP.keptB hO.out hK2 hgq); have K2 := Lib.hid (hK.out.trans (hK2.mono hK.out.size)); dsimp only [pv]; clear hok hS2 hK2)
        | (at_builtin; refine wpList_append_elt pairElt rfl (.tmp 15) (.tmp 18) rfl w.heap.size A n c (cellsP L) rfl (O2.out.2.2.alloc (.cells #[.string (T p1), .string (T p2)] 45)) ⟨w2.heap.size, 0, none⟩ 1 1 [.string (T p1), .string (T p2)] rfl rfl (Blk.news (Blk.new w2 [.string (T p1), .string (T p2)] 45)) (by intro u hu; simp at hu; rcases hu with rfl | rfl <;> rfl) (by omega) (by omega) ?_; intro A2 c2 w3 ho2 hbel2; have HO4 := Lib.hid ho2; have K4 := Lib.hid ((K2.out.alloc K2.out.size (.cells #[.string (T p1), .string (T p2)] 45)).trans (KeptB.of_below hbel2)); have S4 := Lib.hid ((Blk.alloc S2.out.1 (.cells #[.string (T p1), .string (T p2)] 45)).below hbel2 hgq); clear ho2 hbel2))
      go_round
      case rel =>
        refine ⟨j, n + 1, A2, c2, k3, L ++ [(p1, p2)], rfl, rfl, by omega, by omega, by omega, Lib.hid ⟨?_, ?_, ?_⟩, Lib.hid ?_, Lib.hid ⟨S4.out, ints_keptB S0.out.2.1 K4.out S0.out.2.2.1, S2.out.2.2⟩, K4⟩
        · intro q hq
          rcases List.mem_append.1 hq with h | h
          · exact hO.out.1 q h
          · simp at h; subst h; exact okR_okP HOk.out
        · rw [List.length_append, hO.out.2.1]; rfl
        · rw [cellsP_app]; exact HO4.out
        · intro q hq
          rcases List.mem_append.1 hq with h | h
          · exact hR.out q h
          · simp at h; subst h; exact HOk.out
      case measure => simp [intOf] <;> omega
end Go.Proofs.Ytoplpnpimiboiaa.Qr

/-
  The words of a match that is right: the program's way.
-/
namespace Go.Proofs.Ytoplpnpimiboiaa.Qx
open Go.ChangeShapes Go.WideShapes Go.ChangeAt Go.RowKit
open Bytes8 Blk8 Own8 OwnE Fa Fb Fc Fo Pr8 Pv8 Qa Qb Qc Qd Qv Qw
open Qq (ownT_snoc ownT_base)
set_option linter.unusedVariables false
set_option maxRecDepth 100000
set_option linter.unusedSimpArgs false

theorem map_take_succ {l : List TX} {n : TX} {j : Nat} (h : j < l.length) : (l.take (j + 1)).map (fun v => pay n v) = (l.take j).map (fun v => pay n v) ++ [pay n (l.getD j [])] := by
  rw [take_succ' h (d := []), List.map_append]; rfl
theorem ownT_kept {w w' : World} {base n c : Nat} {A : Option Addr} {l : List TX} (h : OwnT w base A n c l) (hb : Below w.heap.size w w') : OwnT w' base A n c l := ⟨h.1, h.2.kept hb (Nat.le_refl _)⟩

set_option maxHeartbeats 4000000 in
theorem payloads_any (a : AL) (A : Option Addr) (c : Nat) (w : World) (hT : Txts w A a.2) (ha : OkA a) (hf : ∀ v ∈ a.2, flawI a.1 v = 0) (h5 : a.2.length ≤ 100000) :
    Calls Try.prog 31 #[alV a A c] w fun e w' => ∃ A' c', e = .returned (.slice A' a.2.length c') ∧ OwnT w' w.heap.size A' a.2.length c' (a.2.map fun v => pay a.1 v) ∧ Below w.heap.size w w' := by
  have HJ := Lib.hid fun i (hi : i < a.2.length) (W : World) => show Calls Try.prog 51 #[pv a.1 (a.2.getD i [])] W (Joined a.1 (a.2.getD i []) W) from join_any a.1 (a.2.getD i []) ha.1.1 (ha.2.1 _ (getD_in hi)).1 W
  have HF := Lib.hid fun i (hi : i < a.2.length) => hf _ (getD_in hi (d := []))
  have b1 := (Below.refl w.heap.size w).alloc (Nat.le_refl _) (.cells #[.string (T a.1), .slice A a.2.length c] 50)
  have R1 := Lib.hid (Blk.new w (alC a A c) 50)
  have HT := Lib.hid (hT.below b1)
  have HB1 := Lib.hid b1
  dsimp only [alV, alC, pv] at *
  obtain ⟨an, av⟩ := a
  dsimp only at *
  have HMp := Lib.hid fun j (h : j < av.length) => map_take_succ (n := an) h
  obtain ⟨n, hL⟩ : ∃ n, av.length = n := ⟨_, rfl⟩
  have HL := Lib.hid hL
  rw [hL] at h5 R1 HB1 HT ⊢
  clear hT ha b1 hL hf
  go_enter Try.func31, Try.ntmps31
  go_upto_region 1 with fail
  change Hid (Blk (w.alloc (.cells #[.string (T an), .slice A n c] 50)) w.heap.size _ _) at R1
  generalize w.alloc (.cells #[.string (T an), .slice A n c] 50) = w1 at *
  have r0 := R1.out.cell (i := 0) rfl
  have r1 := R1.out.cell (i := 1) rfl
  have hlt1 := R1.out.lt
  go_wp2_with fail
  go_loopw [3, 11] (fun z i wr => ∃ (j : Nat) (A3 : Option Addr) (c3 : Nat), j ≤ n ∧ i = .int .i64 (j : Int) ∧ z = .slice A3 j c3 ∧ Hid (OwnT wr w1.heap.size A3 j c3 ((av.take j).map fun v => pay an v)) ∧ Hid (Below w1.heap.size w1 wr)) (fun _ i _ => n - (intOf i).toNat)
  case atStart => exact ⟨0, none, 0, by omega, rfl, rfl, Lib.hid ⟨rfl, OwnE.nil w1 _ (Nat.le_refl _)⟩, Lib.hid (Below.refl _ _)⟩
  case round =>
    clear r0 r1
    obtain ⟨j, A3, c3, hj, rfl, rfl, hO, hB⟩ := hrel
    rcases Nat.lt_or_ge j n with hlt | hge
    · obtain ⟨b1, off1, rfl, hbl1, hc0⟩ := (HT.out.below hB.out) j (by have := HL.out; omega)
      have hin : (j : Int) < (n : Int) := by omega
      have s0 := (R1.out.below hB.out R1.out.lt).cell (i := 0) rfl
      have hJ := HJ.out j (by have := HL.out; omega) wr
      have hfj := HF.out j (by have := HL.out; omega)
      unfold Joined at hJ
      rw [show joinL an (av.getD j []) = pay an (av.getD j []) from if_pos hfj, hfj] at hJ
      have HJj := Lib.hid hJ
      have HMj := Lib.hid (HMp.out j (by have := HL.out; omega))
      have hbs := hB.out.size
      clear hJ hfj
      generalize T (av.getD j []) = E1 at *
      generalize pay an (av.getD j []) = P at *
      obtain ⟨pl, hpl⟩ : ∃ pl, P.length = pl := ⟨_, rfl⟩
      rw [hpl] at HJj
      have HPL := Lib.hid hpl
      clear hpl
      go_upto_region 6 with (go_at_call 51; (with_reducible refine HJj.out.mono ?_); rintro e w2 ⟨A4, c4, rfl, hby, hg⟩)
      have O2 := Lib.hid (ownT_kept hO.out hg.below)
      have B2 := Lib.hid (hB.out.trans (hg.below.mono hbs))
      have hcv := hby.string c4 pl HPL.out
      change (convert 56 9 (.slice A4 pl c4)).run Try.prog w2 = .ok (.string (T P)) w2 at hcv
      have hb2 := B2.out.size
      clear hby hg
      go_wp2_with (at_builtin; refine wpList_append_elt tElt rfl (.tmp 23) (.tmp 26) rfl w1.heap.size A3 j c3 (cellsT ((av.take j).map fun v => pay an v)) rfl (O2.out.2.alloc (.cells #[.string (T P)] 9)) ⟨w2.heap.size, 0, none⟩ 1 1 [.string (T P)] rfl rfl (Blk.news (Blk.new w2 [.string (T P)] 9)) (by intro u hu; simp at hu; subst hu; rfl) (by omega) (by omega) ?_; intro A5 c5 w5 ho5 hb5; have HO5 := Lib.hid (ownT_snoc (x := P) O2.out.1 ho5); have HB5 := Lib.hid hb5; clear ho5 hb5)
      have BB5 := Lib.hid ((B2.out.alloc hb2 (.cells #[.string (T P)] 9)).trans HB5.out)
      rw [← HMj.out] at HO5
      go_round
      case rel => exact ⟨j + 1, A5, c5, by omega, by go_num, rfl, HO5, BB5⟩
      case measure => simp [intOf]; omega
    · obtain rfl : j = n := by omega
      have hO2 := hO.out
      rw [List.take_of_length_le (by have := HL.out; omega)] at hO2
      have HO2 := Lib.hid hO2
      clear hO2 hO
      go_wp2_with fail
      go_ret
      exact ⟨_, _, rfl, ownT_base HO2.out (Nat.le_of_lt hlt1), HB1.out.trans (hB.out.mono (Nat.le_of_lt hlt1))⟩

theorem words_take_len {M : List RW} (hc : cnt M + M.length ≤ 33) (j : Nat) : (wordsM (M.take j)).length ≤ 33 := by
  by_cases h : M.take j = []
  · rw [h]; simp [wordsM]
  · have h1 := words_len _ h
    have h2 := cnt_le M j
    have h3 : (M.take j).length ≤ M.length := by rw [List.length_take]; exact Nat.min_le_right _ _
    omega
theorem words_take_succ {M : List RW} {j : Nat} (h : j < M.length) : wordsM (M.take (j + 1)) = wordsM (M.take j) ++ (if j = 0 then [] else [[43]]) ++ rowT (M.getD j []) := by
  rw [take_succ' h (d := []), words_snoc]
  by_cases h0 : j = 0
  · subst h0; simp
  · rw [if_neg h0, if_neg]
    intro e
    have := congrArg List.length e
    rw [List.length_take] at this
    have h2 : min j M.length = 0 := this
    rw [Nat.min_eq_left (by omega)] at h2
    exact h0 h2
theorem rowT_take_succ {r : RW} {k : Nat} (h : k < r.length) : rowT (r.take (k + 1)) = rowT (r.take k) ++ (r.getD k nilA).2.map fun v => pay (r.getD k nilA).1 v := by
  rw [take_succ' h (d := nilA), rowT_snoc]
theorem rowT_len (r : RW) : (rowT r).length = vals r := by unfold rowT; rw [List.length_map, prs_len]
theorem rowT_nil : rowT [] = [] := rfl
theorem plus_lit : ({ data := #[43] } : ByteArray) = T [43] := by decide
theorem ownT_app {w : World} {base n m c k : Nat} {A : Option Addr} {l t : List TX} (hl : l.length = n) (ht : t.length = m) (hk : n + m = k) (h : OwnE 9 1 w base A (n + m) c (cellsT l ++ cellsT t)) : OwnT w base A k c (l ++ t) := by
  subst hk
  refine ⟨by simp [hl, ht], ?_⟩
  have : cellsT (l ++ t) = cellsT l ++ cellsT t := by simp [cellsT]
  rw [this]; exact h
theorem ownT_addr {w : World} {base n c : Nat} {A : Option Addr} {l : List TX} (h : OwnT w base A n c l) (hn : 0 < n) : ∃ g, A = some ⟨g, 0, none⟩ ∧ ∀ j u, (cellsT l)[j]? = some u → w.cell? ((⟨g, 0, none⟩ : Addr).add j) = some u := by
  obtain ⟨g, e, _, _, _⟩ := h.2.cell (i := 0) (by unfold cellsT; rw [List.length_map, h.1]; exact hn)
  subst e
  refine ⟨g, rfl, fun j u hj => ?_⟩
  have hlt := (List.getElem?_eq_some_iff.1 hj).1
  obtain ⟨g', e', _, _, hc⟩ := h.2.cell (i := j) hlt
  injection e' with e'
  injection e' with e1
  subst e1
  rw [add_none, Nat.zero_add, hc, hj]
theorem one_cellT (l : List TX) : ∀ u ∈ cellsT l, u.oneCell' = true := fun u hu => by
  obtain ⟨x, _, rfl⟩ := List.mem_map.1 hu
  rfl

set_option maxHeartbeats 8000000 in
theorem wordsm_any (M : List RW) (A : Option Addr) (c : Nat) (w : World) (hT : Mts w A M) (hM : OkM M) (hR : ∀ r ∈ M, RightP r) (hcn : cnt M + M.length ≤ 33) :
    Calls Try.prog 15 #[mtV A M.length c] w fun e w' => ∃ A' c', e = .returned (.slice A' (wordsM M).length c') ∧ OwnT w' w.heap.size A' (wordsM M).length c' (wordsM M) ∧ Below w.heap.size w w' := by
  have HO := Lib.hid fun i hi => row_ok hM (i := i) hi
  have HRr := Lib.hid fun i (hi : i < M.length) => hR _ (getD_in hi (d := []))
  have HCl := Lib.hid fun i (hi : i < M.length) => (show vals (M.getD i []) ≤ 33 from by
    have h1 := cnt_take hi
    have h2 := cnt_le M (i + 1)
    omega)
  have HWl := Lib.hid (words_take_len hcn)
  have HWs := Lib.hid fun j (h : j < M.length) => words_take_succ h
  have HWa : Hid (∀ i, M.length ≤ i → wordsM (M.take i) = wordsM M) := Lib.hid fun i hi => by rw [List.take_of_length_le hi]
  have b1 := (Below.refl w.heap.size w).alloc (Nat.le_refl _) (.cells #[.slice A M.length c] 25)
  have R1 := Lib.hid (Blk.new w [.slice A M.length c] 25)
  have HT := Lib.hid (hT.below b1)
  have HB1 := Lib.hid b1
  have HRt := Lib.hid (right_any M A c _ (hT.below b1) hM (by omega))
  rw [rM_yes hR hcn] at HRt
  have hn : M.length ≤ 33 := by omega
  dsimp only [mtV] at *
  obtain ⟨n, hL⟩ : ∃ n, M.length = n := ⟨_, rfl⟩
  have HL := Lib.hid hL
  rw [hL] at hn R1 HB1 HT HRt ⊢
  clear hT hM hR b1 hL hcn
  go_enter Try.func15, Try.ntmps15
  go_upto_region 1 with fail
  change Hid (Blk (w.alloc (.cells #[.slice A n c] 25)) w.heap.size _ _) at R1
  change Hid (Calls _ _ _ (w.alloc (.cells #[.slice A n c] 25)) _) at HRt
  generalize w.alloc (.cells #[.slice A n c] 25) = w1 at *
  have r0 := R1.out.cell (i := 0) rfl
  have hlt1 := R1.out.lt
  go_upto_region 4 with (go_at_call 12; (with_reducible refine HRt.out.mono ?_); rintro e w2 ⟨rfl, hb2⟩; have B2 := Lib.hid hb2; clear hb2)
  have q0 := (R1.out.below B2.out R1.out.lt).cell (i := 0) rfl
  have hlt2 := B2.out.size
  have HT2 := Lib.hid (HT.out.below B2.out)
  clear r0 HRt HT
  go_wp2_with fail
  go_loopw [3, 14] (fun z i wr => ∃ (j p : Nat) (A3 : Option Addr) (c3 : Nat), j ≤ n ∧ i = .int .i64 (j : Int) ∧ z = .slice A3 p c3 ∧ Hid (OwnT wr w2.heap.size A3 p c3 (wordsM (M.take j))) ∧ Hid (Below w2.heap.size w2 wr)) (fun _ i _ => n - (intOf i).toNat)
  case atStart => exact ⟨0, 0, none, 0, by omega, rfl, rfl, Lib.hid ⟨rfl, OwnE.nil w2 _ (Nat.le_refl _)⟩, Lib.hid (Below.refl _ _)⟩
  case round =>
    clear q0
    obtain ⟨j, p, A3, c3, hj, rfl, rfl, hO, hB⟩ := hrel
    rcases Nat.lt_or_ge j n with hlt | hge
    · obtain ⟨b1, off1, A1, c1, rfl, hbl1, hc0w, hT1⟩ := HT2.out j (by have := HL.out; omega)
      have hc0 := (Below.cell (p := ⟨b1, off1 + j, none⟩) hB.out hbl1).trans hc0w
      clear hc0w
      have hin : (j : Int) < (n : Int) := by omega
      have hp33 : p ≤ 33 := by have := HWl.out j; have := hO.out.1; omega
      have hrj := HO.out j (by have := HL.out; omega)
      have hRj := HRr.out j (by have := HL.out; omega)
      have HVj := Lib.hid (HCl.out j (by have := HL.out; omega))
      have HWj := Lib.hid (HWs.out j (by have := HL.out; omega))
      obtain ⟨R, hRr⟩ : ∃ R, M.getD j [] = R := ⟨_, rfl⟩
      rw [hRr] at hc0 hT1 hrj hRj HVj HWj
      obtain ⟨m, hm⟩ : ∃ m, R.length = m := ⟨_, rfl⟩
      have HM := Lib.hid hm
      rw [hm] at hc0
      have HTR := Lib.hid hT1
      have HORj := Lib.hid hrj
      have HRRj := Lib.hid hRj
      have hmm : m ≤ 9223372036854775807 := by have h := hrj.2; unfold maxLen at h; omega
      have hbs := hB.out.size
      clear hT1 hrj hRj hRr hm
      go_upto_if 20 with fail
      generalize hz20 : decide (0 < j) = z20 at *
      have HZ := Lib.hid hz20
      clear hz20
      go_cut [3] from 21 to 23 (fun z wx => ∃ (p2 : Nat) (A4 : Option Addr) (c4 : Nat), z = .slice A4 p2 c4 ∧ p2 ≤ 34 ∧ Hid (OwnT wx w2.heap.size A4 p2 c4 (wordsM (M.take j) ++ if j = 0 then [] else [[43]])) ∧ Hid (Below w2.heap.size w2 wx))
      case first =>
        cases z20 with
        | false =>
          have hj0 : j = 0 := by have := of_decide_eq_false HZ.out; omega
          have HE := Lib.hid (show wordsM (M.take j) ++ (if j = 0 then [] else [[43]]) = wordsM (M.take j) by rw [if_pos hj0]; simp)
          clear hj0
          go_wp2_with fail
          go_meet
          case rel => exact ⟨p, A3, c3, rfl, by omega, by rw [HE.out]; exact hO, hB⟩
        | true =>
          have hj0 : j ≠ 0 := by have := of_decide_eq_true HZ.out; omega
          have HE := Lib.hid (show wordsM (M.take j) ++ (if j = 0 then [] else [[43]]) = wordsM (M.take j) ++ [[43]] by rw [if_neg hj0])
          clear hj0
          go_wp2_with (at_builtin; refine wpList_append_elt tElt rfl (.tmp 21) (.tmp 22) rfl w2.heap.size A3 p c3 (cellsT (wordsM (M.take j))) rfl (hO.out.2.alloc (.cells #[.string { data := #[43] }] 9)) ⟨wr.heap.size, 0, none⟩ 1 1 [.string { data := #[43] }] rfl rfl (Blk.news (Blk.new wr [.string { data := #[43] }] 9)) (by intro u hu; simp at hu; subst hu; rfl) (by omega) (by omega) ?_; intro A5 c5 w5 ho5 hb5; have HO5 := Lib.hid (ownT_snoc (x := [43]) hO.out.1 (show OwnE 9 1 w5 w2.heap.size A5 (p + 1) c5 (cellsT (wordsM (M.take j)) ++ [.string (T [43])]) from by rw [← plus_lit]; exact ho5)); have HB5 := Lib.hid hb5; clear ho5 hb5)
          have hb6 : Below w2.heap.size wr w5 := ((Below.refl w2.heap.size wr).alloc hbs _).trans HB5.out
          go_wp2_with fail
          go_meet
          case rel => exact ⟨p + 1, A5, c5, rfl, by omega, by rw [HE.out]; exact HO5, Lib.hid (hB.out.trans hb6)⟩
      case rest =>
        obtain ⟨p2, A4, c4, rfl, hp2, hO4, hB4⟩ := hcut
        obtain ⟨pre, hpre⟩ : ∃ pre, wordsM (M.take j) ++ (if j = 0 then [] else [[43]]) = pre := ⟨_, rfl⟩
        rw [hpre] at hO4 HWj
        have HPl := Lib.hid (show pre.length ≤ 34 by have := hO4.out.1; omega)
        have HPt := Lib.hid fun k (h : k < R.length) => rowT_take_succ h
        have HVl := Lib.hid fun k => vals_le R k
        have HVt := Lib.hid fun k (h : k < R.length) => vals_take h
        have hb4s := hB4.out.size
        have h0 : Hid (OwnT wc w2.heap.size A4 p2 c4 (pre ++ rowT (R.take 0))) := Lib.hid (by rw [List.take_zero, rowT_nil, List.append_nil]; exact hO4.out)
        clear hpre hO hB hbs hO4 hc0 hbl1 HZ
        go_wp2_with fail
        go_loopw [3, 26] (fun z i wx => ∃ (k q : Nat) (A5 : Option Addr) (c5 : Nat), k ≤ m ∧ i = .int .i64 (k : Int) ∧ z = .slice A5 q c5 ∧ Hid (OwnT wx w2.heap.size A5 q c5 (pre ++ rowT (R.take k))) ∧ Hid (Below w2.heap.size w2 wx)) (fun _ i _ => m - (intOf i).toNat)
        case atStart => exact ⟨0, p2, A4, c4, by omega, rfl, rfl, h0, hB4⟩
        case round =>
          clear h0 hb4s hB4
          obtain ⟨k, q, A5, c5, hk, rfl, rfl, hO5, hB5⟩ := hrel
          have hq : q ≤ 67 := by
            have h1 := hO5.out.1
            have h2 := HVl.out k
            have h3 := HVj.out
            have h4 := HPl.out
            rw [List.length_append, rowT_len] at h1
            omega
          rcases Nat.lt_or_ge k m with hlt2 | hge2
          · obtain ⟨b2, off2, A6, c6, rfl, hbl2, d0, d1, hT6⟩ := (HTR.out.below hB5.out) k (by have := HM.out; omega)
            have hin2 : (k : Int) < (m : Int) := by omega
            have hka : R.getD k nilA ∈ R := getD_in (by have := HM.out; omega)
            have hoa := HORj.out.1 _ hka
            have hfa : ∀ v ∈ (R.getD k nilA).2, flawI (R.getD k nilA).1 v = 0 := fun v hv => HRRj.out.fine ((R.getD k nilA).1, v) ((prs_in _ _).2 ⟨_, hka, rfl, hv⟩)
            have hn6 : 0 < (R.getD k nilA).2.length := List.length_pos_iff.2 (HRRj.out.ris.each _ hka).1
            have hn33 : (R.getD k nilA).2.length ≤ 33 := by
              have h1 := HVt.out k (by have := HM.out; omega)
              have h2 := HVl.out (k + 1)
              have h3 := HVj.out
              omega
            have HPy := Lib.hid fun (W : World) (hW : Below wr.heap.size wr W) => payloads_any (R.getD k nilA) A6 c6 W (hT6.below hW) hoa hfa (by omega)
            have HEk := Lib.hid (show pre ++ rowT (R.take (k + 1)) = pre ++ rowT (R.take k) ++ (R.getD k nilA).2.map (fun v => pay (R.getD k nilA).1 v) by rw [HPt.out k (by have := HM.out; omega), List.append_assoc])
            have b5 := (Below.refl wr.heap.size wr).alloc (Nat.le_refl _) (.cells #[.string (T (R.getD k nilA).1), .slice A6 (R.getD k nilA).2.length c6] 50)
            have R5 := Lib.hid (Blk.new wr [.string (T (R.getD k nilA).1), .slice A6 (R.getD k nilA).2.length c6] 50)
            have O5 := Lib.hid (hO5.out.alloc (.cells #[.string (T (R.getD k nilA).1), .slice A6 (R.getD k nilA).2.length c6] 50))
            have hbw := hB5.out.size
            have B5 := Lib.hid (hB5.out.alloc hbw (.cells #[.string (T (R.getD k nilA).1), .slice A6 (R.getD k nilA).2.length c6] 50))
            have HPy5 := Lib.hid (HPy.out _ b5)
            dsimp only [alV] at HPy5
            obtain ⟨n6, hn6e⟩ : ∃ n6, (R.getD k nilA).2.length = n6 := ⟨_, rfl⟩
            have HN6 := Lib.hid (show ((R.getD k nilA).2.map (fun v => pay (R.getD k nilA).1 v)).length = n6 by rw [List.length_map]; exact hn6e)
            rw [hn6e] at HPy5 R5 O5 B5 d1 hn6 hn33
            clear b5 hT6 HPy hn6e hoa hfa hka hO5 hB5
            generalize T (R.getD k nilA).1 = E6 at *
            generalize (R.getD k nilA).2.map (fun v => pay (R.getD k nilA).1 v) = PY at *
            generalize pre ++ rowT (R.take k) = PR at *
            go_upto_region 12 with fail
            generalize wr.alloc (.cells #[.string E6, .slice A6 n6 c6] 50) = w5 at *
            generalize wr.heap.size = g5 at *
            have x0 := R5.out.cell (i := 0) rfl
            have x1 := R5.out.cell (i := 1) rfl
            have hb5s := B5.out.size
            go_wp2_with (first
              | (go_at_call 31; (with_reducible refine HPy5.out.mono ?_); rintro e w6 ⟨A7, c7, rfl, ho7, hb7⟩; obtain ⟨g7, rfl, hnews⟩ := ownT_addr ho7 hn6; have O6 := Lib.hid (ownT_kept O5.out hb7); have B6 := Lib.hid (B5.out.trans (hb7.mono hb5s)); have HNw := Lib.hid hnews; have HL7 := Lib.hid ho7.1; clear ho7 hb7 hnews)
              | (at_builtin; refine wpList_append_elt tElt rfl (.tmp 30) (.tmp 32) rfl w2.heap.size A5 q c5 (cellsT PR) rfl O6.out.2 ⟨g7, 0, none⟩ n6 c7 (cellsT PY) rfl (by rw [Nat.mul_one]; unfold cellsT; rw [List.length_map]; exact HN6.out) HNw.out (one_cellT _) (by omega) (by omega) ?_; intro A8 c8 w7 ho8 hb8; have HO8 := Lib.hid (ownT_app O6.out.1 HN6.out rfl ho8); have HB8 := Lib.hid (B6.out.trans hb8); clear ho8 hb8))
            rw [← HEk.out] at HO8
            go_round
            case rel => exact ⟨k + 1, q + n6, A8, c8, by omega, by go_num, by go_num, HO8, HB8⟩
            case measure => simp [intOf]; omega
          · obtain rfl : k = m := by omega
            have hO6 := hO5.out
            have e : R.take k = R := List.take_of_length_le (by have := HM.out; omega)
            rw [e, ← HWj.out] at hO6
            have HO6 := Lib.hid hO6
            clear hO6 hO5 e
            go_wp2_with fail
            go_round
            case rel => exact ⟨j + 1, q, A5, c5, by omega, by go_num, rfl, HO6, hB5⟩
            case measure => simp [intOf]; omega
    · obtain rfl : j = n := by omega
      have hO2 := hO.out
      rw [HWa.out j (by have := HL.out; omega)] at hO2
      have HO2 := Lib.hid hO2
      have hpl : p = (wordsM M).length := hO2.1.symm
      subst hpl
      clear hO2 hO
      go_wp2_with fail
      go_ret
      exact ⟨_, _, rfl, ownT_base HO2.out (by omega), HB1.out.trans ((B2.out.mono (Nat.le_of_lt hlt1)).trans (hB.out.mono (by omega)))⟩
end Go.Proofs.Ytoplpnpimiboiaa.Qx

/-
  'append' of one list of texts onto another, either of them perhaps nil.
-/
namespace Go.Proofs.Ytoplpnpimiboiaa.Qy
open Go.ChangeShapes Go.WideShapes Go.ChangeAt Go.RowKit
open Bytes8 Blk8 Own8 OwnM OwnE OwnA Dc Fa Fb Fc Fo Pr8 Pv8 Qa Qb Qc Qd Qv Qw Qx
set_option linter.unusedVariables false
set_option maxRecDepth 100000
set_option linter.unusedSimpArgs false

theorem grown_refl (w : World) (row : Option Nat) : w.grownBy w row := ⟨rfl, rfl, rfl, Nat.le_refl _, fun _ _ _ => rfl⟩
theorem app_run {w : World} {base base2 n m c c2 : Nat} {A A2 : Option Addr} {l t : List TX} (ty : TypeId) (h : OwnT w base A n c l) (h2 : OwnT w base2 A2 m c2 t) (h0 : m = 0 → A2 = none ∧ c2 = 0) (hb : n + m ≤ 100000) :
    ∃ A' c' w', (Builtin.append_ #[22, 22] ty #[.slice A n c, .slice A2 m c2]).run Try.prog w = .ok (.slice A' (n + m) c') w' ∧ OwnT w' base A' (n + m) c' (l ++ t) ∧ w.grownBy w' (ownB A) := by
  by_cases hm : m = 0
  · obtain ⟨e1, e2⟩ := h0 hm
    subst e1; subst e2; subst hm
    obtain ⟨i, hi, _⟩ := Option.map_eq_some_iff.1 tElt.info
    have ht : t = [] := List.eq_nil_of_length_eq_zero h2.1
    subst ht
    exact ⟨A, c, w, run_append_owned_none w base _ ty _ i 1 tElt.under hi _ n (cellsT l) h.2.2, by rw [List.append_nil]; exact h, grown_refl w _⟩
  · obtain ⟨g, rfl, hnews⟩ := ownT_addr h2 (by omega)
    obtain ⟨A', c', w', hr, ho, hg, _⟩ := run_append_elt_at tElt w ty base A n c (cellsT l) h.2 ⟨g, 0, none⟩ m c2 (cellsT t) (by rw [Nat.mul_one]; unfold cellsT; rw [List.length_map]; exact h2.1) hnews (one_cellT t) (by omega) (by omega) (by unfold maxLen; omega)
    exact ⟨A', c', w', hr, ownT_app h.1 h2.1 rfl ho, hg⟩
theorem wpList_append_run {w : World} {ops : Array Oper} {rest : List Oper} {o : Oper} {a : Act} {Q : Exit → Act → World → Prop} (hgd : o.guard = none) (s x : Operand) (t : TypeId)
    (ho : o.op = .call { callee := .builtin .append, args := #[s, x], argTypes := #[t, t] }) (v1 v2 : Value) (hs : a.eval s = v1) (hx : a.eval x = v2) (v : Value) (w' : World)
    (hr : (Builtin.append_ #[t, t] o.type #[v1, v2]).run Try.prog w = .ok v w') (h : wpList Try.prog ops Q rest (a.put o.dst v) w') : wpList Try.prog ops Q (o :: rest) a w := by
  refine wpList_plain hgd fun K hK => ?_
  unfold Oper.wp
  simp [execOp, ho, resolve, invoke, builtin, hs, hx, hr, Result.andThen]
  exact hK _ _ h
theorem lit_one (w : World) (x : TX) {base : Nat} (hb : base ≤ w.heap.size) : OwnT (w.alloc (.cells #[.string (T x)] 9)) base (some ⟨w.heap.size, 0, none⟩) 1 1 [x] :=
  ⟨rfl, by simp; omega, World.ownsRow_lit w #[.string (T x)] 1 hb (by decide) rfl⟩
/-- A text ahead of a list: 'append([]string{x}, row...)'. -/
theorem ahead_run {w : World} {base m c2 : Nat} {A2 : Option Addr} {t : List TX} (x : TX) (ty : TypeId) (h2 : OwnT w base A2 m c2 t) (h0 : m = 0 → A2 = none ∧ c2 = 0) (hb : m ≤ 10000) :
    ∃ A' c' w', (Builtin.append_ #[22, 22] ty #[.slice (some ⟨w.heap.size, 0, none⟩) 1 1, .slice A2 m c2]).run Try.prog (w.alloc (.cells #[.string (T x)] 9)) = .ok (.slice A' (m + 1) c') w' ∧ OwnT w' base A' (m + 1) c' (x :: t) ∧ Below base w w' ∧ ∀ (B : Nat) (D : Option Addr) (k d : Nat) (l : List TX), OwnT w B D k d l → OwnT w' B D k d l := by
  have hbw := h2.2.1
  obtain ⟨A', c', w', hr, ho, hg⟩ := app_run ty (lit_one w x hbw) (h2.alloc (.cells #[.string (T x)] 9)) h0 (by omega)
  rw [Nat.add_comm 1 m] at hr ho
  refine ⟨A', c', w', hr, ho, ((Below.refl base w).alloc hbw _).grown hg (by simp; omega) (fun k hk => by simp [ownB] at hk; omega), fun B D k d l hl => ⟨hl.1, OwnE.keptG (hl.2.alloc _) hg fun g hgd e => ?_⟩⟩
  have h1 := (Dc.OwnE.ltB hl.2 g hgd).2
  simp [ownB] at e
  omega
end Go.Proofs.Ytoplpnpimiboiaa.Qy

/-
  The walk of MatchBack.
-/
namespace Go.Proofs.Ytoplpnpimiboiaa.MatchBackW
open Go.ChangeShapes Go.WideShapes Go.ChangeAt Go.RowKit
open Bytes8 Blk8 Own8 OwnE Fa Fb Fc Fo Pr8 Pv8 Qa Qb Qc Qn Numb Rows2
open Qd (mtV same_any)
open Qm (compile_any Compd)
open Qp (comp_fine FW PW okW)
open Qq (words_any Worded ownT_snoc T_plus')
open Qr (first_any)
open Qs (compM_ok)
open Qv (RightP cnt bk right_comp comp_words words_all words_len rM_yes compM_bk bk_all bk_len wordsM rM)
open Qw (right_any)
open Qx (wordsm_any ownT_kept plus_lit)
open Qy (app_run ahead_run wpList_append_run)
set_option linter.unusedVariables false
set_option maxRecDepth 100000
set_option linter.unusedSimpArgs false

/-- Where the loop stands: k words are done. -/
structure At (w : World) (B : Nat) (d : Bool) (ws : List TX) (k : Nat) (Ab : Option Addr) (pb cb : Nat) (Ar : Option Addr) (pr cr : Nat) (b r : List TX) : Prop where
  goes : (if k ≤ ws.length then bk d (ws.drop k) b r else b) = bk d ws [] []
  size : b.length + r.length ≤ 2 * k
  back : OwnT w B Ab pb cb b
  row : OwnT w B Ar pr cr r
  nil : pr = 0 → Ar = none ∧ cr = 0
theorem drop_at {ws : List TX} {k : Nat} (h : k < ws.length) : ws.drop k = ws.getD k [] :: ws.drop (k + 1) := by
  rw [List.drop_eq_getElem_cons h, Qv.getD_at h]
theorem At.word {w w' : World} {B : Nat} {d : Bool} {ws : List TX} {k : Nat} {Ab : Option Addr} {pb cb : Nat} {Ar Ar' : Option Addr} {pr cr pr' cr' : Nat} {b r r' : List TX} (h : At w B d ws k Ab pb cb Ar pr cr b r) (hk : k < ws.length) (hx : ws.getD k [] ≠ [43]) (hr : r' = if d then ws.getD k [] :: ws.getD k [] :: r else ws.getD k [] :: r) (hb : OwnT w' B Ab pb cb b) (ho : OwnT w' B Ar' pr' cr' r') (hp : pr' ≠ 0) : At w' B d ws (k + 1) Ab pb cb Ar' pr' cr' b r' := by
  have hg := h.goes
  have hs := h.size
  rw [if_pos (by omega), drop_at hk, bk, if_neg hx] at hg
  refine ⟨by rw [if_pos (by omega), hr]; exact hg, ?_, hb, ho, fun e => absurd e hp⟩
  rw [hr]
  cases d <;> simp <;> omega
theorem At.plus {w w' : World} {B : Nat} {d : Bool} {ws : List TX} {k : Nat} {Ab Ab' : Option Addr} {pb cb pb' cb' : Nat} {Ar : Option Addr} {pr cr : Nat} {b r : List TX} (h : At w B d ws k Ab pb cb Ar pr cr b r) (hk : k < ws.length) (hx : ws.getD k [] = [43]) (hb : OwnT w' B Ab' pb' cb' (b ++ r ++ [[43]])) (hB : B ≤ w'.heap.size) : At w' B d ws (k + 1) Ab' pb' cb' none 0 0 (b ++ r ++ [[43]]) [] := by
  have hg := h.goes
  have hs := h.size
  rw [if_pos (by omega), drop_at hk, bk, if_pos hx] at hg
  exact ⟨by rw [if_pos (by omega)]; exact hg, by simp; omega, hb, ⟨rfl, OwnE.nil w' B hB⟩, fun _ => ⟨rfl, rfl⟩⟩
theorem At.last {w w' : World} {B : Nat} {d : Bool} {ws : List TX} {Ab Ab' : Option Addr} {pb cb pb' cb' : Nat} {Ar : Option Addr} {pr cr : Nat} {b r : List TX} (h : At w B d ws ws.length Ab pb cb Ar pr cr b r) (hb : OwnT w' B Ab' pb' cb' (b ++ r)) (hB : B ≤ w'.heap.size) : At w' B d ws (ws.length + 1) Ab' pb' cb' none 0 0 (b ++ r) [] := by
  have hg := h.goes
  have hs := h.size
  rw [if_pos (Nat.le_refl _), List.drop_length, bk] at hg
  exact ⟨by rw [if_neg (by omega)]; exact hg, by simp; omega, hb, ⟨rfl, OwnE.nil w' B hB⟩, fun _ => ⟨rfl, rfl⟩⟩

set_option maxHeartbeats 16000000 in
theorem walk (a0 : Option Addr) (len0 cap0 : Nat) (z0 : List Int) (tn : Int) (w : World) (w0 : IsRow .i64 w a0 len0 cap0 z0) (w1 : (Lit.int .i64 tn).wf = true) :
    Calls Try.prog 4 #[.slice a0 len0 cap0, .int .i64 tn] w fun e w' => e = .returned (.bool true) ∧ Below w.heap.size w w' := by
  obtain ⟨hI0, hc0, hm0⟩ := ints_in w0
  unfold maxLen at hm0
  have HW := Lib.hid fun (W : World) (h : Below w.heap.size w W) => show Calls Try.prog 20 #[.slice a0 len0 cap0, .int .i64 20] W (Worded 20 W) from words_any a0 len0 cap0 _ 20 W (hI0.below h) (by omega) (by decide)
  unfold Worded at HW
  clear w0 w1 hI0 hc0 hm0
  go_enter Try.func4, Try.ntmps4
  go_upto_region 5 with (first
    | (go_at_call 7; (with_reducible refine (first_any _).mono ?_); rintro e w1 ⟨rfl, hb⟩; have B1 := Lib.hid hb; clear hb)
    | (go_at_call 20; (with_reducible refine (HW.out _ B1.out).mono ?_); rintro e w2 ⟨ws, Aw, cw, rfl, ho, hf, hl20, hb⟩; have HT := Lib.hid ho.txts; have HF := Lib.hid hf; have B2 := Lib.hid (B1.out.trans (hb.mono B1.out.size)); clear ho hf hb))
  have he := comp_fine HF.out (by omega)
  obtain ⟨M, hM⟩ : ∃ M, compM ws = (0, M) := ⟨(compM ws).2, by rw [← he]⟩
  have HC := Lib.hid (compile_any Aw ws ws.length cw w2 HT.out rfl HF.out.1.all (by omega))
  have HOM := Lib.hid (compM_ok HF.out.1.all)
  unfold Compd at HC
  rw [hM] at HC HOM
  have HMd := Lib.hid hM
  obtain ⟨hrp, hcn⟩ := right_comp hM
  have HRP := Lib.hid hrp
  have HCN := Lib.hid hcn
  obtain ⟨m, hm⟩ : ∃ m, M.length = m := ⟨_, rfl⟩
  obtain ⟨nw, hnw⟩ : ∃ nw, ws.length = nw := ⟨_, rfl⟩
  have HML := Lib.hid hm
  have HWL := Lib.hid hnw
  dsimp only at HC HOM
  rw [hnw] at HC hl20 ⊢
  rw [hm] at HC
  clear he hM hrp hcn hm hnw HW B1
  go_upto_region 6 with (go_at_call 9; (with_reducible refine HC.out.mono ?_); rintro e w4 ⟨A, c, rfl, hmt, hb, hcap, -⟩; have HM4 := Lib.hid hmt; have HT4 := Lib.hid (HT.out.below hb); have B4 := Lib.hid (B2.out.trans (hb.mono B2.out.size)); clear hmt hb hcap)
  have b5 := (Below.refl w4.heap.size w4).alloc (Nat.le_refl _) (.cells #[.slice A m c] 25)
  have R5 := Lib.hid (Blk.new w4 [.slice A m c] 25)
  have HM5 := Lib.hid (HM4.out.below b5)
  have HT5 := Lib.hid (HT4.out.below b5)
  have B5 := Lib.hid (B4.out.trans (b5.mono B4.out.size))
  clear b5 HM4 HT4 HT B4 B2 HC
  change Hid (Blk (w4.alloc (.cells #[.slice A m c] 25)) _ _ _) at R5
  generalize w4.alloc (.cells #[.slice A m c] 25) = w5 at *
  generalize w4.heap.size = g5 at *
  have HRt := Lib.hid fun (W : World) (hW : Below w5.heap.size w5 W) => right_any M A c W (HM5.out.below hW) HOM.out (by have := HCN.out; omega)
  rw [rM_yes HRP.out HCN.out] at HRt
  have HWd := Lib.hid fun (W : World) (hW : Below w5.heap.size w5 W) => wordsm_any M A c W (HM5.out.below hW) HOM.out HRP.out HCN.out
  dsimp only [mtV] at HRt HWd
  rw [HML.out] at HRt HWd
  have r5 := R5.out.cell (i := 0) rfl
  go_upto_region 8 with (go_at_call 12; (with_reducible refine (HRt.out _ (Below.refl _ _)).mono ?_); rintro e w6 ⟨rfl, hb⟩; have B6 := Lib.hid hb; clear hb)
  clear r5 HRt
  have r6 := (R5.out.below B6.out R5.out.lt).cell (i := 0) rfl
  obtain ⟨nm, hnm⟩ : ∃ nm, (wordsM M).length = nm := ⟨_, rfl⟩
  have HNM := Lib.hid (show nm ≤ 33 by
    rw [← hnm]
    by_cases h : M = []
    · rw [h]; simp [wordsM]
    · have := words_len M h
      have := HCN.out
      omega)
  have HNm := Lib.hid hnm
  rw [hnm] at HWd
  clear hnm
  have HCw := Lib.hid fun (W : World) (A' : Option Addr) (c' : Nat) (h : Txts W A' (wordsM M)) => compile_any A' (wordsM M) nm c' W h HNm.out (words_all HRP.out HOM.out) (by have := HNM.out; omega)
  unfold Compd at HCw
  rw [comp_words HRP.out HCN.out] at HCw
  dsimp only at HCw
  rw [HML.out] at HCw
  go_upto_region 9 with (first
    | (go_at_call 15; (with_reducible refine (HWd.out _ B6.out).mono ?_); rintro e w7 ⟨A7, c7, rfl, ho7, hb7⟩; have T7 := Lib.hid ho7.txts; have B7 := Lib.hid (B6.out.trans (hb7.mono B6.out.size)); clear ho7 hb7)
    | (go_at_call 9; (with_reducible refine (HCw.out _ _ _ T7.out).mono ?_); rintro e w8 ⟨A8, c8, rfl, hmt, hb8, hcap, -⟩; have M8 := Lib.hid hmt; have B8 := Lib.hid (B7.out.trans (hb8.mono B7.out.size)); clear hmt hb8 hcap))
  have b9 := (Below.refl w8.heap.size w8).alloc (Nat.le_refl _) (.cells #[.slice A8 m c8] 25)
  have R9 := Lib.hid (Blk.new w8 [.slice A8 m c8] 25)
  have M9 := Lib.hid (M8.out.below b9)
  have B9 := Lib.hid (B8.out.trans (b9.mono B8.out.size))
  clear b9 M8 T7 B8 B7 B6 HCw HWd r6
  change Hid (Blk (w8.alloc (.cells #[.slice A8 m c8] 25)) _ _ _) at R9
  generalize w8.alloc (.cells #[.slice A8 m c8] 25) = w9 at *
  generalize w8.heap.size = g9 at *
  have R59 := Lib.hid (R5.out.below B9.out R5.out.lt)
  have M59 := Lib.hid (HM5.out.below B9.out)
  have T9 := Lib.hid (HT5.out.below B9.out)
  have BB9 := Lib.hid (B5.out.trans (B9.out.mono B5.out.size))
  clear R5 HM5 HT5 B5 B9
  obtain ⟨d, hd⟩ : ∃ d, (decide (nw ≤ 14) && decide (tn.tmod 3 = 0)) = d := ⟨_, rfl⟩
  have HD := Lib.hid hd
  have HBK := Lib.hid (show compM (bk d ws [] []) = (0, M) by
    rw [compM_bk HF.out, HMd.out]
    rw [HWL.out]
    cases d
    · simp; omega
    · have := hd
      simp at this ⊢
      omega)
  have HBA := Lib.hid (bk_all (d := d) (F := fun v => AllB v ∧ v.length ≤ 900000) ⟨(fun x hx => by simp at hx; subst hx; decide), by simp⟩ ws [] [] HF.out.1.all (fun _ h => by cases h) (fun _ h => by cases h))
  clear hd HMd HRP HCN HNM HNm
  go_wp2_with fail
  go_loopw [11, 12, 13] (fun vb vr vi wr => ∃ (k pb pr : Nat) (Ab Ar : Option Addr) (cb cr : Nat) (b r : List TX), k ≤ nw + 1 ∧ vi = .int .i64 (k : Int) ∧ vb = .slice Ab pb cb ∧ vr = .slice Ar pr cr ∧ Hid (At wr w9.heap.size d ws k Ab pb cb Ar pr cr b r) ∧ Hid (Below w9.heap.size w9 wr)) (fun _ _ i _ => nw + 2 - (intOf i).toNat)
  case atStart => exact ⟨0, 0, 0, none, none, 0, 0, [], [], by omega, rfl, rfl, rfl, Lib.hid ⟨by rw [if_pos (Nat.zero_le _)]; rfl, by simp, ⟨rfl, OwnE.nil w9 _ (Nat.le_refl _)⟩, ⟨rfl, OwnE.nil w9 _ (Nat.le_refl _)⟩, fun _ => ⟨rfl, rfl⟩⟩, Lib.hid (Below.refl _ _)⟩
  case round =>
    obtain ⟨k, pb, pr, Ab, Ar, cb, cr, b, r, hk, rfl, rfl, rfl, hA, hB⟩ := hrel
    have hbs := hB.out.size
    have hp42 : pb + pr ≤ 42 := by
      have h1 := hA.out.size
      have h2 := hA.out.back.1
      have h3 := hA.out.row.1
      omega
    rcases Nat.lt_or_ge nw k with hout | hin
    · have hz : ¬ ((k : Int) ≤ (nw : Int)) := by omega
      have hFb : b = bk d ws [] [] := by
        have h1 := hA.out.goes
        rw [if_neg (by have := HWL.out; omega)] at h1
        exact h1
      have hback := hA.out.back
      rw [hFb] at hback
      have hC3 := compile_any Ab (bk d ws [] []) pb cb wr hback.txts hback.1 HBA.out (by omega)
      unfold Compd at hC3
      rw [HBK.out] at hC3
      dsimp only at hC3
      rw [HML.out] at hC3
      have HC3 := Lib.hid hC3
      have R5a := Lib.hid (R59.out.below hB.out R59.out.lt)
      have R9a := Lib.hid (R9.out.below hB.out R9.out.lt)
      have M5a := Lib.hid (M59.out.below hB.out)
      have M9a := Lib.hid (M9.out.below hB.out)
      have BBa := Lib.hid (BB9.out.trans (hB.out.mono BB9.out.size))
      clear hC3 hback hFb hA hB hbs hp42 HBA HBK R59 R9 M59 M9 T9 BB9
      go_upto_region 22 with (go_at_call 9; (with_reducible refine HC3.out.mono ?_); rintro e w10 ⟨A10, c10, rfl, hmt, hb, hcap, -⟩; have M10 := Lib.hid hmt; have HB10 := Lib.hid hb; clear hmt hb hcap)
      have b11 := (Below.refl w10.heap.size w10).alloc (Nat.le_refl _) (.cells #[.slice A10 m c10] 25)
      have R11 := Lib.hid (Blk.new w10 [.slice A10 m c10] 25)
      have M11 := Lib.hid (M10.out.below b11)
      have hb := HB10.out.trans (b11.mono HB10.out.size)
      have R5b := Lib.hid (R5a.out.below hb R5a.out.lt)
      have R9b := Lib.hid (R9a.out.below hb R9a.out.lt)
      have M5b := Lib.hid (M5a.out.below hb)
      have M9b := Lib.hid (M9a.out.below hb)
      have BBb := Lib.hid (BBa.out.trans (hb.mono BBa.out.size))
      clear b11 hb M10 HB10 R5a R9a M5a M9a BBa HC3
      change Hid (Blk (w10.alloc (.cells #[.slice A10 m c10] 25)) _ _ _) at R11
      generalize w10.alloc (.cells #[.slice A10 m c10] 25) = w11 at *
      generalize w10.heap.size = g11 at *
      have HS1 := Lib.hid (same_any A8 A M M c8 c w11 M9b.out M5b.out HOM.out HOM.out)
      have HS2 := Lib.hid fun (W : World) (hW : Below w11.heap.size w11 W) => same_any A10 A M M c10 c W (M11.out.below hW) (M5b.out.below hW) HOM.out HOM.out
      rw [decide_eq_true rfl] at HS1 HS2
      dsimp only [mtV] at HS1 HS2
      rw [HML.out] at HS1 HS2
      have x5 := R5b.out.cell (i := 0) rfl
      have x9 := R9b.out.cell (i := 0) rfl
      have x11 := R11.out.cell (i := 0) rfl
      go_wp2_with (first
        | (go_at_call 19; (with_reducible refine HS1.out.mono ?_); rintro e w12 ⟨rfl, hb12⟩; have y5 := (R5b.out.below hb12 R5b.out.lt).cell (i := 0) rfl; have y11 := (R11.out.below hb12 R11.out.lt).cell (i := 0) rfl; have HB12 := Lib.hid hb12; clear hb12)
        | (go_at_call 19; (with_reducible refine (HS2.out _ HB12.out).mono ?_); rintro e w13 ⟨rfl, hb13⟩; have HB13 := Lib.hid hb13; clear hb13))
      go_ret
      exact ⟨rfl, BBb.out.trans ((HB12.out.trans (HB13.out.mono HB12.out.size)).mono BBb.out.size)⟩
    · have hki : (k : Int) ≤ (nw : Int) := by omega
      rcases Nat.lt_or_ge k nw with hlt | hge
      · have hli : (k : Int) < (nw : Int) := by omega
        have hlk : k < ws.length := by have := HWL.out; omega
        obtain ⟨b1, off1, rfl, hbl1, hc0w⟩ := T9.out k hlk
        have hc0 := (Below.cell (p := ⟨b1, off1 + k, none⟩) hB.out hbl1).trans hc0w
        clear hc0w
        have hxA := (HF.out.1.all (ws.getD k []) (getD_in hlk)).1
        have hx := T_plus' (ws.getD k []) hxA
        by_cases hl : ws.getD k [] = [43]
        · rw [decide_eq_true hl] at hx
          obtain ⟨A1, c1, w1, hr1, ho1, hg1⟩ := app_run 22 hA.out.back hA.out.row hA.out.nil (by omega)
          have hb1 : Below w9.heap.size wr w1 := (Below.refl w9.heap.size wr).grown hg1 hbs (fun z hz => (Dc.OwnE.ltB hA.out.back.2 z hz).1)
          have HR1 := Lib.hid hr1
          have HO1 := Lib.hid ho1
          have HB1 := Lib.hid hb1
          have HPl := Lib.hid fun (w' : World) (A' : Option Addr) (p' c' : Nat) (h : OwnT w' w9.heap.size A' p' c' (b ++ r ++ [[43]])) (h2 : w9.heap.size ≤ w'.heap.size) => hA.out.plus hlk hl h h2
          have hb1s := hb1.size
          have hb1n : w9.heap.size ≤ w1.heap.size := by omega
          clear hr1 ho1 hg1 hb1 hl hA hxA
          generalize T (ws.getD k []) = S at *
          go_wp2_with (first
            | ((with_reducible apply Qm.at_slot 80); refine wpList_append_run rfl (.tmp 78) (.tmp 79) 22 rfl _ _ rfl rfl _ _ HR1.out ?_)
            | ((with_reducible apply Qm.at_slot 87); refine wpList_append_elt tElt rfl (.tmp 85) (.tmp 86) rfl w9.heap.size A1 (pb + pr) c1 (cellsT (b ++ r)) rfl (HO1.out.2.alloc (.cells #[.string { data := #[43] }] 9)) ⟨w1.heap.size, 0, none⟩ 1 1 [.string { data := #[43] }] rfl rfl (Blk.news (Blk.new w1 [.string { data := #[43] }] 9)) (by intro u hu; simp at hu; subst hu; rfl) (by omega) (by omega) ?_; intro A2 c2 w2 ho2 hb2; have HO2 := Lib.hid (ownT_snoc (x := [43]) HO1.out.1 (show OwnE 9 1 w2 w9.heap.size A2 (pb + pr + 1) c2 (cellsT (b ++ r) ++ [.string (T [43])]) from by rw [← plus_lit]; exact ho2)); have HB2 := Lib.hid hb2; clear ho2 hb2))
          have HB3 := Lib.hid ((hB.out.trans (HB1.out.alloc hb1n _)).trans HB2.out)
          have HA3 := Lib.hid (HPl.out _ _ _ _ HO2.out HB3.out.size)
          go_round
          case rel => exact ⟨k + 1, pb + pr + 1, 0, A2, none, c2, 0, _, _, by omega, by go_num, by go_num, rfl, HA3, HB3⟩
          case measure => simp [intOf]; omega
        · rw [decide_eq_false hl] at hx
          have HWd := Lib.hid fun (w' : World) (A' : Option Addr) (p' c' : Nat) (r' : List TX) => hA.out.word (w' := w') (Ar' := A') (pr' := p') (cr' := c') (r' := r') hlk hl
          have HAh := Lib.hid fun (w' : World) (A' : Option Addr) (p' c' : Nat) (t : List TX) (h : OwnT w' w9.heap.size A' p' c' t) => ahead_run (ws.getD k []) 22 (c2 := c') h
          have HAt := Lib.hid hA.out
          obtain ⟨x, hxx⟩ : ∃ x, ws.getD k [] = x := ⟨_, rfl⟩
          rw [hxx] at hx hc0 HAh HWd
          obtain ⟨S, hS⟩ : ∃ S, T x = S := ⟨_, rfl⟩
          rw [hS] at hx hc0 HAh
          clear hS hxx hl hxA hA
          go_upto_region 14 with fail
          go_cut [63] from 56 to 62 (fun z wx => z = .bool d ∧ Hid (wr = wx))
          case first =>
            by_cases h14 : nw ≤ 14
            · have h14i : (nw : Int) ≤ 14 := by omega
              by_cases h3 : tn.tmod 3 = 0
              · have hE := Lib.hid (show d = true by rw [← HD.out, decide_eq_true h14, decide_eq_true h3]; rfl)
                clear h14
                go_wp2_with fail
                go_meet
                case rel => exact ⟨by rw [hE.out], Lib.hid rfl⟩
              · have hE := Lib.hid (show d = false by rw [← HD.out, decide_eq_false h3, Bool.and_false])
                have h3b : (tn.tmod 3 == 0) = false := by simpa using h3
                clear h14 h3
                go_wp2_with fail
                go_meet
                case rel => exact ⟨by rw [hE.out], Lib.hid rfl⟩
            · have h14i : ¬ (nw : Int) ≤ 14 := by omega
              have hE := Lib.hid (show d = false by rw [← HD.out, decide_eq_false h14, Bool.false_and])
              clear h14
              go_wp2_with fail
              go_meet
              case rel => exact ⟨by rw [hE.out], Lib.hid rfl⟩
          case rest =>
            obtain ⟨rfl, hwx⟩ := hcut
            obtain rfl := hwx.out
            clear hwx
            obtain ⟨A1, c1, w1, hr1, ho1, hb1, hkp1⟩ := HAh.out wr Ar pr cr r HAt.out.row HAt.out.nil (by omega)
            have HR1 := Lib.hid hr1
            have hb1s := hb1.size
            have hOb := Lib.hid (hkp1 _ _ _ _ _ HAt.out.back)
            have HB1 := Lib.hid (hB.out.trans hb1)
            cases d with
            | true =>
              obtain ⟨A2, c2, w2, hr2, ho2, hb2, hkp2⟩ := HAh.out w1 A1 (pr + 1) c1 (x :: r) ho1 (fun e => absurd e (by omega)) (by omega)
              have HR2 := Lib.hid hr2
              have hcx : w1.cell? ⟨b1, off1 + k, none⟩ = some (.string S) := (Below.cell (p := ⟨b1, off1 + k, none⟩) hb1 hbl1).trans hc0
              have HA2 := Lib.hid (HWd.out w2 A2 (pr + 1 + 1) c2 (x :: x :: r) rfl (hkp2 _ _ _ _ _ hOb.out) ho2 (by omega))
              have HB2 := Lib.hid (HB1.out.trans hb2)
              clear hr1 ho1 hb1 hkp1 hr2 ho2 hb2 hkp2 hOb HAt
              go_wp2_with (first
                | ((with_reducible apply Qm.at_slot 70); refine wpList_append_run rfl (.tmp 68) (.tmp 69) 22 rfl _ _ rfl rfl _ _ HR1.out ?_)
                | ((with_reducible apply Qm.at_slot 77); refine wpList_append_run rfl (.tmp 75) (.tmp 76) 22 rfl _ _ rfl rfl _ _ HR2.out ?_))
              go_round
              case rel => exact ⟨k + 1, pb, pr + 1 + 1, Ab, A2, cb, c2, b, _, by omega, by go_num, rfl, by go_num, HA2, HB2⟩
              case measure => simp [intOf]; omega
            | false =>
              have HA2 := Lib.hid (HWd.out w1 A1 (pr + 1) c1 (x :: r) rfl hOb.out ho1 (by omega))
              clear hr1 ho1 hb1 hkp1 hOb HAt
              go_wp2_with ((with_reducible apply Qm.at_slot 77); refine wpList_append_run rfl (.tmp 75) (.tmp 76) 22 rfl _ _ rfl rfl _ _ HR1.out ?_)
              go_round
              case rel => exact ⟨k + 1, pb, pr + 1, Ab, A1, cb, c1, b, _, by omega, by go_num, rfl, by go_num, HA2, HB1⟩
              case measure => simp [intOf]; omega
      · have hli : ¬ ((k : Int) < (nw : Int)) := by omega
        have hkl : k = ws.length := by have := HWL.out; omega
        obtain ⟨A1, c1, w1, hr1, ho1, hg1⟩ := app_run 22 hA.out.back hA.out.row hA.out.nil (by omega)
        have hb1 : Below w9.heap.size wr w1 := (Below.refl w9.heap.size wr).grown hg1 hbs (fun z hz => (Dc.OwnE.ltB hA.out.back.2 z hz).1)
        have HR1 := Lib.hid hr1
        have HB1 := Lib.hid (hB.out.trans hb1)
        have hA2 : At w1 w9.heap.size d ws (k + 1) A1 (pb + pr) c1 none 0 0 (b ++ r) [] := by
          have h := hA.out
          rw [hkl] at h ⊢
          exact h.last ho1 HB1.out.size
        have HA2 := Lib.hid hA2
        clear hr1 ho1 hg1 hb1 hA hkl hA2
        go_wp2_with ((with_reducible apply Qm.at_slot 80); refine wpList_append_run rfl (.tmp 78) (.tmp 79) 22 rfl _ _ rfl rfl _ _ HR1.out ?_)
        go_round
        case rel => exact ⟨k + 1, pb + pr, 0, A1, none, c1, 0, _, _, by omega, by go_num, by go_num, rfl, HA2, HB1⟩
        case measure => simp [intOf]; omega
end Go.Proofs.Ytoplpnpimiboiaa.MatchBackW
