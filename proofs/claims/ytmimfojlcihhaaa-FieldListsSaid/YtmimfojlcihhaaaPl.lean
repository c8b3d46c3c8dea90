/-
  What List answers.
-/
import Derived.Test.YtmimfojlcihhaaaPs
namespace Go.Proofs.Ytmimfojlcihhaaa.Pl8
open Go.ChangeShapes Go.WideShapes Go.ChangeAt Go.RowKit
open Bytes8 Blk8 Own8 OwnE Fa Fb Fc Fo In8 Pr8 Pa8 Pu8 Ps8
set_option linter.unusedVariables false
set_option linter.unusedSimpArgs false

/-- The code of the first pair that has one. -/
def codeL : List PR → Int
  | [] => 0
  | p :: r => if flawI p.1 p.2 = 0 then codeL r else flawI p.1 p.2
theorem codeL_at : ∀ (l : List PR) (k : Nat), k < l.length → (∀ j, j < k → flawI (l.getD j nil2).1 (l.getD j nil2).2 = 0) → flawI (l.getD k nil2).1 (l.getD k nil2).2 ≠ 0 → codeL l = flawI (l.getD k nil2).1 (l.getD k nil2).2
  | p :: l, 0, _, _, h => by
    unfold codeL; rw [if_neg (by simpa using h)]; rfl
  | p :: l, k + 1, hk, hj, h => by
    unfold codeL
    rw [if_pos (by simpa using hj 0 (by omega))]
    exact codeL_at l k (by simpa using hk) (fun j hjk => by simpa using hj (j + 1) (by omega)) (by simpa using h)
theorem codeL_zero : ∀ (l : List PR), (∀ p ∈ l, flawI p.1 p.2 = 0) → codeL l = 0
  | [], _ => rfl
  | p :: l, h => by unfold codeL; rw [if_pos (h p (by simp))]; exact codeL_zero l fun q hq => h q (by simp [hq])
def listE (l : List PR) : Int := if l = [] then 16 else if codeL l = 0 then (if (ded l).length ≤ 16 then 0 else 21) else codeL l
def listL (l : List PR) : List PR := if listE l = 0 then sortP (ded l) else []
def Listed (l : List PR) (w : World) (e : Ending) (w' : World) : Prop := ∃ A c, e = .returned (.tuple #[.slice A (listL l).length c, .int .i64 (listE l)]) ∧ Prs w' A (listL l) ∧ Below w.heap.size w w'
theorem listed_none {l : List PR} {w w' : World} {x : Int} (h : listE l = x) (hx : x ≠ 0) (hb : Below w.heap.size w w') : Listed l w (.returned (.tuple #[.slice none 0 0, .int .i64 x])) w' := by
  have hL : listL l = [] := if_neg (by rw [h]; exact hx)
  unfold Listed
  rw [hL, h]
  exact ⟨none, 0, rfl, Prs.nil _ _, hb⟩
theorem own_some {w : World} {base n c : Nat} {A : Option Addr} {l : List PR} (h : OwnP w base A n c l) (hn : 0 < n) : ∃ g, A = some ⟨g, 0, none⟩ := by
  rcases h.2.2.2.2 with ⟨he, h0⟩ | ⟨g', cap, cur, he, _⟩
  · omega
  · injection he with e1 e2 e3
    exact ⟨g', e1⟩

theorem unlike_small (a : Option Addr) (l : List PR) (len cap : Nat) (w : World) (hP : Prs w a l) (hL : l.length = len) (hmax : len ≤ 100000) (h : (ded l).length ≤ 16) :
    Calls Try.prog 36 #[.slice a len cap] w fun e w' => ∃ A c, e = .returned (.tuple #[.slice A (ded l).length c, .bool true]) ∧ OwnP w' w.heap.size A (ded l).length c (ded l) ∧ Below w.heap.size w w' :=
  (unlike_any a l len cap w hP hL hmax).mono fun e w' k => by unfold Unlike at k; rwa [if_pos h] at k
theorem unlike_big (a : Option Addr) (l : List PR) (len cap : Nat) (w : World) (hP : Prs w a l) (hL : l.length = len) (hmax : len ≤ 100000) (h : ¬ (ded l).length ≤ 16) :
    Calls Try.prog 36 #[.slice a len cap] w fun e w' => e = .returned (.tuple #[.slice none 0 0, .bool false]) ∧ Below w.heap.size w w' :=
  (unlike_any a l len cap w hP hL hmax).mono fun e w' k => by unfold Unlike at k; rwa [if_neg h] at k

set_option maxHeartbeats 2000000 in
set_option maxRecDepth 100000 in
theorem list_any (a : Option Addr) (l : List PR) (len cap : Nat) (w : World) (hP : Prs w a l) (hL : l.length = len) (hmax : len ≤ 100000) :
    Calls Try.prog 20 #[.slice a len cap] w (Listed l w) := by
  by_cases h0 : len = 0
  · subst h0
    have he : listE l = 16 := by unfold listE; rw [if_pos (List.eq_nil_of_length_eq_zero hL)]
    have HE := Lib.hid he
    clear he hP hL
    go_enter Try.func20, Try.ntmps20
    go_wp2
    go_ret2
    exact listed_none HE.out (by decide) (Below.refl _ _)
  have h0b : ((len : Int) == 0) = false := by simp; omega
  have hne : l ≠ [] := fun e => h0 (by rw [← hL, e]; rfl)
  have HP := Lib.hid hP
  have HL := Lib.hid hL
  have HF := Lib.hid fun k w => flaw_any (l.getD k nil2).1 (l.getD k nil2).2 (hP.1.at_ k).1 (hP.1.at_ k).2.1 w
  have HU := Lib.hid fun w (h : Prs w a l) => unlike_small a l len cap w h hL hmax
  have HV := Lib.hid fun w (h : Prs w a l) => unlike_big a l len cap w h hL hmax
  have HAt := Lib.hid fun k h1 h2 h3 => (by
    have e := codeL_at l k h1 h2 h3
    unfold listE
    rw [if_neg hne, if_neg (by rw [e]; exact h3), e] : listE l = flawI (l.getD k nil2).1 (l.getD k nil2).2)
  have HAll := Lib.hid (fun (h : ∀ j, j < len → flawI (l.getD j nil2).1 (l.getD j nil2).2 = 0) => (by
    have hf : ∀ p ∈ l, flawI p.1 p.2 = 0 := fun p hp => by
      obtain ⟨i, hi, rfl⟩ := mem_getD hp
      exact h i (by omega)
    refine ⟨?_, fun p hp => ⟨(hP.1 p hp).1, (hP.1 p hp).2.1, hf p hp⟩⟩
    unfold listE
    rw [if_neg hne, codeL_zero l hf, if_pos rfl] : listE l = (if (ded l).length ≤ 16 then 0 else 21) ∧ ∀ p ∈ l, okR p))
  have HNe := Lib.hid (show 0 < (ded l).length by
    rcases l with _ | ⟨p, r⟩
    · exact absurd rfl hne
    · exact List.length_pos_of_mem ((ded_mem (p :: r) p).2 (by simp)))
  dsimp only [pv, box] at HF
  clear hP hL h0 hne
  go_enter Try.func20, Try.ntmps20
  go_wp2
  go_loopw [14] (fun i wr => ∃ k : Nat, k ≤ len ∧ i = .int .i64 (k : Int) ∧ Hid (∀ j, j < k → flawI (l.getD j nil2).1 (l.getD j nil2).2 = 0) ∧ Hid (Below w.heap.size w wr)) (fun i _ => len - (intOf i).toNat)
  case atStart => exact ⟨0, by omega, rfl, Lib.hid fun j hj => absurd hj (by omega), Lib.hid (Below.refl _ _)⟩
  case round =>
    obtain ⟨k, hk, rfl, hall, hB⟩ := hrel
    rcases Nat.lt_or_ge k len with hlt | hge
    · obtain ⟨b, off, rfl, hbl, hc0, hc1⟩ := (HP.out.below hB.out).2 k (by have := HL.out; omega)
      have hin : (k : Int) < (len : Int) := by omega
      have HFk := Lib.hid (HF.out k)
      by_cases hf : flawI (l.getD k nil2).1 (l.getD k nil2).2 = 0
      · have hall2 := Lib.hid (fun j (hj : j < k + 1) => (by
          rcases Nat.lt_or_ge j k with h1 | h1
          · exact hall.out j h1
          · obtain rfl : j = k := by omega
            exact hf : flawI (l.getD j nil2).1 (l.getD j nil2).2 = 0))
        rw [hf] at HFk
        clear hf hall
        generalize T (l.getD k nil2).1 = E1 at *
        generalize T (l.getD k nil2).2 = E2 at *
        go_wp2_with (go_at_call 31; (with_reducible refine (HFk.out _).mono ?_); rintro e w' ⟨rfl, rfl⟩)
        go_round
        case rel => exact ⟨k + 1, by omega, by go_num, hall2, Lib.hid ((hB.out.alloc hB.out.size _).alloc (by have := hB.out.size; simp; omega) _)⟩
        case measure => simp [intOf]; omega
      · have HR := Lib.hid (HAt.out k (by have := HL.out; omega) hall.out hf)
        have hfb : (flawI (l.getD k nil2).1 (l.getD k nil2).2 != 0) = true := by simpa using hf
        have hf0 := hf
        clear hall hf
        generalize T (l.getD k nil2).1 = E1 at *
        generalize T (l.getD k nil2).2 = E2 at *
        generalize flawI (l.getD k nil2).1 (l.getD k nil2).2 = F at *
        have HF0 := Lib.hid hf0
        clear hf0
        go_wp2_with (go_at_call 31; (with_reducible refine (HFk.out _).mono ?_); rintro e w' ⟨rfl, rfl⟩)
        go_ret2
        exact listed_none HR.out HF0.out ((hB.out.alloc hB.out.size _).alloc (by have := hB.out.size; simp; omega) _)
    · obtain rfl : k = len := by omega
      obtain ⟨hE, hR⟩ := HAll.out hall.out
      have HR := Lib.hid hR
      clear hall hR
      by_cases h16 : (ded l).length ≤ 16
      · rw [if_pos h16] at hE
        have HUw := Lib.hid (HU.out wr (HP.out.below hB.out) h16)
        have HE := Lib.hid hE
        have HLs := Lib.hid (show listL l = sortP (ded l) from if_pos hE)
        have h16b : (ded l).length ≤ 100000 := by omega
        have HDR := Lib.hid (fun p hp => HR.out p ((ded_mem l p).1 hp) : ∀ p ∈ ded l, okR p)
        have hsl := sortP_len (ded l)
        clear hE
        go_wp2_with (first
          | (go_at_call 36; (with_reducible refine HUw.out.mono ?_); rintro e w2 ⟨A, c, rfl, hO, hb⟩; obtain ⟨g, rfl⟩ := own_some hO HNe.out; have HO := Lib.hid hO; have HB2 := Lib.hid (hB.out.trans (hb.mono hB.out.size)); have HS := Lib.hid (sort_any g (ded l).length c wr.heap.size (ded l) w2 hO HDR.out h16b); have HBw := Lib.hid hB.out.size; clear hO hb)
          | (go_at_call 37; (with_reducible refine HS.out.mono ?_); rintro e w3 ⟨rfl, hPs, hb⟩; have HP3 := Lib.hid hPs; have HB3 := Lib.hid (HB2.out.trans (hb.mono HBw.out)); clear hPs hb))
        go_ret2
        unfold Listed
        rw [HLs.out, HE.out, hsl]
        exact ⟨_, _, rfl, HP3.out, HB3.out⟩
      · rw [if_neg h16] at hE
        have HUw := Lib.hid (HV.out wr (HP.out.below hB.out) h16)
        have HE := Lib.hid hE
        clear hE
        go_wp2_with (go_at_call 36; (with_reducible refine HUw.out.mono ?_); rintro e w2 ⟨rfl, hb⟩; have HB2 := Lib.hid (hB.out.trans (hb.mono hB.out.size)); clear hb)
        go_ret2
        exact listed_none HE.out (by decide) HB2.out
end Go.Proofs.Ytmimfojlcihhaaa.Pl8
