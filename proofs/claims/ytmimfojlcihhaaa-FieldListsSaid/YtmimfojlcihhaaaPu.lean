/-
  Pairs each once: what unlike answers.
-/
import Derived.Test.YtmimfojlcihhaaaPa
namespace Go.Proofs.Ytmimfojlcihhaaa.Pu8
open Go.ChangeShapes Go.WideShapes Go.ChangeAt Go.RowKit
open Bytes8 Blk8 Own8 OwnE Fa Fb Fc Fo In8 Pr8 Pa8
set_option linter.unusedVariables false
set_option linter.unusedSimpArgs false

/-- What unlike tells: those each once, where they are not too many. -/
def Unlike (l : List PR) (w : World) (e : Ending) (w' : World) : Prop :=
  if (ded l).length ≤ 16 then ∃ A c, e = .returned (.tuple #[.slice A (ded l).length c, .bool true]) ∧ OwnP w' w.heap.size A (ded l).length c (ded l) ∧ Below w.heap.size w w'
  else e = .returned (.tuple #[.slice none 0 0, .bool false]) ∧ Below w.heap.size w w'

set_option maxHeartbeats 1000000 in
set_option maxRecDepth 100000 in
theorem unlike_any (a : Option Addr) (l : List PR) (len cap : Nat) (w : World) (hP : Prs w a l) (hL : l.length = len) (hmax : len ≤ 100000) :
    Calls Try.prog 36 #[.slice a len cap] w (Unlike l w) := by
  have HP := Lib.hid hP
  have HL := Lib.hid hL
  have HC := Lib.hid fun k w A (L : List PR) n c (h : Prs w A L) (hn : L.length = n) (hm : n ≤ 1000000) => contains_any A L n c (l.getD k nil2) w h hn hm (hP.1.at_ k)
  have HAll := Lib.hid hP.1
  clear hP hL
  go_enter Try.func36, Try.ntmps36
  go_wp2
  go_loopw [4, 9] (fun s i wr => ∃ (k n : Nat) (A : Option Addr) (c : Nat), k ≤ len ∧ i = .int .i64 (k : Int) ∧ s = .slice A n c ∧ n ≤ 16 ∧ Hid (OwnP wr w.heap.size A n c (ded (l.take k))) ∧ Hid (Below w.heap.size w wr)) (fun _ i _ => len - (intOf i).toNat)
  case atStart => exact ⟨0, 0, none, 0, by omega, rfl, rfl, by omega, Lib.hid (OwnP.nil w _ (Nat.le_refl _)), Lib.hid (Below.refl _ _)⟩
  case round =>
    obtain ⟨k, n, A, c, hk, rfl, rfl, hn, hO, hB⟩ := hrel
    rcases Nat.lt_or_ge k len with hlt | hge
    · obtain ⟨b, off, rfl, hbl, hc0, hc1⟩ := (HP.out.below hB.out).2 k (by have := HL.out; omega)
      have hin : (k : Int) < (len : Int) := by omega
      have HS := ded_step (l := l) (k := k) (by have := HL.out; omega)
      have hpk := HAll.out.at_ k
      have HLe := Lib.hid (ded_le l (k + 1))
      have HO2 := Lib.hid (hO.out.alloc (.cells #[.string (T (l.getD k nil2).1), .string (T (l.getD k nil2).2)] 24))
      have HB2 := Lib.hid (hB.out.alloc hB.out.size (.cells #[.string (T (l.getD k nil2).1), .string (T (l.getD k nil2).2)] 24))
      have HR2 := Lib.hid (Blk.new wr [.string (T (l.getD k nil2).1), .string (T (l.getD k nil2).2)] 24)
      have HCn := Lib.hid (HC.out k (wr.alloc (.cells #[.string (T (l.getD k nil2).1), .string (T (l.getD k nil2).2)] 24)) A (ded (l.take k)) n c HO2.out.prs HO2.out.2.1 (by omega))
      by_cases hm : l.getD k nil2 ∈ ded (l.take k)
      · have HD2 : Hid (ded (l.take (k + 1)) = ded (l.take k)) := Lib.hid (by rw [HS]; unfold addU; rw [if_pos hm])
        rw [decide_eq_true hm] at HCn
        clear hm HS
        generalize T (l.getD k nil2).1 = E1 at *
        generalize T (l.getD k nil2).2 = E2 at *
        go_wp2_with (go_at_call 44; (with_reducible refine HCn.out.mono ?_); rintro e w2 ⟨rfl, hb⟩; have HO3 := Lib.hid (HO2.out.kept hb (Nat.le_refl _)); have HB3 := Lib.hid (HB2.out.trans (hb.mono HB2.out.size)); clear hb)
        go_round
        case rel => exact ⟨k + 1, n, A, c, by omega, by go_num, rfl, hn, by rw [HD2.out]; exact HO3, HB3⟩
        case measure => simp [intOf]; omega
      · have HD2 : Hid (ded (l.take (k + 1)) = ded (l.take k) ++ [l.getD k nil2]) := Lib.hid (by rw [HS]; unfold addU; rw [if_neg hm])
        rw [decide_eq_false hm] at HCn
        clear hm HS
        have HPk := Lib.hid hpk
        have hcell : cellsP [l.getD k nil2] = [.string (T (l.getD k nil2).1), .string (T (l.getD k nil2).2)] := rfl
        have HCe := Lib.hid hcell
        clear hcell hpk
        generalize T (l.getD k nil2).1 = E1 at *
        generalize T (l.getD k nil2).2 = E2 at *
        by_cases h16 : n = 16
        · have hbig : ¬ (ded l).length ≤ 16 := by
            have h1 := HLe.out
            have h2 := hO.out.2.1
            rw [HD2.out, List.length_append] at h1
            simp at h1; omega
          have HBig := Lib.hid hbig
          subst h16
          clear hbig
          go_wp2_with (go_at_call 44; (with_reducible refine HCn.out.mono ?_); rintro e w2 ⟨rfl, hb⟩; have HB3 := Lib.hid (HB2.out.trans (hb.mono HB2.out.size)); clear hb)
          go_ret2
          unfold Unlike
          rw [if_neg HBig.out]
          exact ⟨rfl, HB3.out⟩
        · have h16b : ((n : Int) == 16) = false := by simp; omega
          have hn15 : n ≤ 15 := by omega
          clear h16
          go_wp2_with (first
            | (go_at_call 44; (with_reducible refine HCn.out.mono ?_); rintro e w2 ⟨rfl, hb⟩; have HO3 := Lib.hid (HO2.out.kept hb (Nat.le_refl _)); have HB3 := Lib.hid (HB2.out.trans (hb.mono HB2.out.size)); have HR3 := Lib.hid (HR2.out.below hb HR2.out.lt); obtain ⟨r0, r1⟩ := two_cells HR3.out; clear hb)
            | (at_builtin; refine wpList_append_elt pairElt rfl (.tmp 19) (.tmp 21) rfl w.heap.size A n c (cellsP (ded (l.take k))) rfl (HO3.out.2.2.alloc (.cells #[.string E1, .string E2] 24)) ⟨w2.heap.size, 0, none⟩ 1 1 [.string E1, .string E2] rfl rfl (Blk.news (Blk.new w2 [.string E1, .string E2] 24)) (by intro u hu; simp at hu; rcases hu with rfl | rfl <;> rfl) (by omega) (by omega) ?_; intro A2 c2 w3 ho2 hbel2; have HO4 := Lib.hid ho2; have HB4 := Lib.hid ((HB3.out.alloc HB3.out.size (.cells #[.string E1, .string E2] 24)).trans hbel2); clear ho2 hbel2))
          go_round
          case rel =>
            refine ⟨k + 1, n + 1, A2, c2, by omega, by go_num, rfl, by omega, ?_, HB4⟩
            rw [HD2.out]
            refine Lib.hid ⟨?_, ?_, ?_⟩
            · intro q hq
              rcases List.mem_append.1 hq with h | h
              · exact hO.out.1 q h
              · simp at h; subst h; exact HPk.out
            · rw [List.length_append, hO.out.2.1]; rfl
            · rw [cellsP_app, HCe.out]; exact HO4.out
          case measure => simp [intOf]; omega
    · obtain rfl : k = len := by omega
      have ht : l.take k = l := List.take_of_length_le (by have := HL.out; omega)
      rw [ht] at hO
      clear ht
      go_wp2
      go_ret2
      have hlen := hO.out.2.1
      unfold Unlike
      rw [if_pos (by omega)]
      exact ⟨A, c, by rw [hlen]; rfl, by rw [hlen]; exact hO.out, hB.out⟩
end Go.Proofs.Ytmimfojlcihhaaa.Pu8
