/-
  What the document's own 'Put' makes.
-/
import Derived.Test.YtfofjnnjlnggjaaRefB
namespace Go.Proofs.Ytfofjnnjlnggjaa.RefC
open Go.ChangeShapes Go.WideShapes Go.ChangeAt Go.RowKit
open Bytes8 Own8 LeA LeNum LeB LeC LeP RefA RefB
set_option linter.unusedVariables false

/-- Bytes of the call's own, and true. -/
def MadeTrue (m : List Int) (n : Nat) (w : World) (e : Ending) (w' : World) : Prop := ∃ A c, e = .returned (.tuple #[.slice A n c, .bool true]) ∧ Bytes w' A m ∧ Below w.heap.size w w'

theorem rput_no (a : Option Addr) (len cap : Nat) (at1 n v : Int) (w : World) (hl : len ≤ 9223372036854775807) (hat : -9223372036854775808 ≤ at1) (hf : fits len at1 n = false) :
    Calls Try.prog 11 #[.slice a len cap, .int .i64 at1, .int .i64 n, .int .u64 v] w fun e w' => e = .returned (.tuple #[.slice none 0 0, .bool false]) ∧ w = w' := by
  go_enter Try.func11, Try.ntmps11
  go_wp2_with (go_at_call 9; refine (rget_no _ _ _ _ _ _ hl hat hf).mono ?_; rintro e w' ⟨rfl, rfl⟩)
  go_ret2
  exact ⟨rfl, rfl⟩

set_option maxHeartbeats 2000000 in
theorem rput_in (b off cap at1 n : Nat) (l : List Int) (v : Int) (w : World) (hl : l.length ≤ 1000000) (hcap : l.length ≤ cap) (hcap2 : cap ≤ maxLen) (hf : fits l.length at1 n = true) (h0 : 0 ≤ v) (h1 : v ≤ 18446744073709551615) (hb : Bytes w (some ⟨b, off, none⟩) l) :
    Calls Try.prog 11 #[.slice (some ⟨b, off, none⟩) l.length cap, .int .i64 at1, .int .i64 n, .int .u64 v] w (MadeTrue (over l at1 (lowB v n)) l.length w) := by
  obtain ⟨n1, n8, h3, h4⟩ := fits_parts hf
  have HLow := Lib.hid fun w => rlow_any v n w h0 h1 (by omega)
  have HG := Lib.hid (rget_yes (some ⟨b, off, none⟩) l cap at1 n w (by omega) hf hb)
  have HT := Lib.hid (show (l.take at1).length = at1 by simp; omega)
  have HT2 := Lib.hid (show (l.take at1 ++ lowB v n).length = at1 + n by rw [List.length_append, lowB_len, HT.out])
  have HD := Lib.hid (show (l.drop (at1 + n)).length = l.length - (at1 + n) by simp)
  have HK := Lib.hid fun W (hW : Below w.heap.size w W) => (show Bytes W (some ⟨b, off, none⟩) (l.take at1) by
    have h := (hb.below hW (Nat.le_refl _)).part 0 at1 (some ⟨b, off, none⟩) (fun b' off' e _ _ => by rw [e]; rfl)
    rw [List.drop_zero] at h; exact h)
  have HBt := Lib.hid fun W (hW : Below w.heap.size w W) => (show Bytes W (if cap = at1 + n then some ⟨b, off, none⟩ else some ⟨b, off + (at1 + n), none⟩) (l.drop (at1 + n)) by
    split
    · rw [List.drop_of_length_le (by omega)]; exact Bytes.nil _ _
    · have h := (hb.below hW (Nat.le_refl _)).part (at1 + n) (l.length - (at1 + n)) (some ⟨b, off + (at1 + n), none⟩) (fun b' off' e _ _ => by simp at e; obtain ⟨rfl, rfl⟩ := e; rfl)
      rw [List.take_of_length_le (by simp)] at h; exact h)
  have HE := Lib.hid (show (l.take at1 ++ lowB v n) ++ l.drop (at1 + n) = over l at1 (lowB v n) by unfold over; rw [lowB_len])
  unfold maxLen at hcap2
  clear hb hf
  generalize hL : l.length = len at *
  have HL := Lib.hid hL
  clear hL
  have hsum : IntKind.i64.wrap ((at1 : Int) + n) = (at1 : Int) + n := IntWalk.i64_in _ (by omega)
  have hsum0 : (0 : Int) ≤ (at1 : Int) + n := by omega
  have hsum1 : ((at1 : Int) + n).toNat = at1 + n := by omega
  go_enter Try.func11, Try.ntmps11
  go_wp2_with (first | (go_at_call 9; (with_reducible refine HG.out.mono ?_); rintro e w' ⟨rfl, rfl⟩) | (at_builtin; refine wpList_append_bytes rfl (.tmp 22) (.tmp 25) rfl w.heap.size _ 0 0 [] rfl (Own.made w _ (Nat.le_refl _)) (some ⟨b, off, none⟩) at1 cap (l.take at1) rfl (HK.out _ ((Below.refl _ _).alloc (Nat.le_refl _) _)) HT.out (by omega) ?_; intro A2 c2 w2 ho2 hbel2; rw [Nat.zero_add, List.nil_append] at ho2; rw [Nat.zero_add]; have HO2 := Lib.hid ho2; clear ho2; have hb2 := ((Below.refl w.heap.size w).alloc (Nat.le_refl _) _).trans hbel2))
  go_region_law (first | (refine step_append_bytes (o := ⟨some 31, _, _, _, _, _⟩) rfl (.tmp 27) (.tmp 30) rfl w.heap.size A2 at1 c2 (l.take at1) rfl (HO2.out.drew.kept hbel3 (Nat.le_refl _)) A3 n c3 (lowB v n) rfl HO3.out.bytes (lowB_len v n) (by omega) ?_; intro A4 c4 w4 ho4 hbel4; have HO4 := Lib.hid ho4; clear ho4; have hb4 := (hb2.drew.trans (hbel3.mono hb2.size)).trans hbel4) | (refine step_append_bytes (o := ⟨some 37, _, _, _, _, _⟩) rfl (.tmp 31) (.tmp 36) rfl w.heap.size A4 (at1 + n) c4 (l.take at1 ++ lowB v n) rfl HO4.out _ (len - (at1 + n)) _ (l.drop (at1 + n)) rfl (HBt.out _ hb4) HD.out (by omega) ?_; intro A5 c5 w5 ho5 hbel5; have HO5 := Lib.hid ho5; clear ho5; have hb5 := hb4.trans hbel5) | (go_simp; go_at_call 22; (with_reducible refine (HLow.out _).mono ?_); rintro e w3 ⟨A3, c3, rfl, ho3, hbel3⟩; have HO3 := Lib.hid ho3; clear ho3))
  all_goals
    go_wp2
    all_goals
      go_ret2
      refine ⟨A5, c5, ret_slice_bool (by omega), ?_, hb5⟩
      rw [← HE.out]; exact HO5.out.bytes

theorem rput_some (a : Option Addr) (l : List Int) (cap at1 n : Nat) (v : Int) (w : World) (hl : l.length ≤ 1000000) (hcap : l.length ≤ cap) (hcap2 : cap ≤ maxLen) (hf : fits l.length at1 n = true) (h0 : 0 ≤ v) (h1 : v ≤ 18446744073709551615) (hb : Bytes w a l) :
    Calls Try.prog 11 #[.slice a l.length cap, .int .i64 at1, .int .i64 n, .int .u64 v] w fun e w' => ∃ A c, e = .returned (.tuple #[.slice A l.length c, .bool true]) ∧ Bytes w' A (over l at1 (lowB v n)) ∧ Below w.heap.size w w' := by
  obtain ⟨n1, n8, h3, h4⟩ := fits_parts hf
  obtain ⟨b, off, rfl, _, _⟩ := hb.spot (by omega)
  exact rput_in b off cap at1 n l v w hl hcap hcap2 hf h0 h1 hb

end Go.Proofs.Ytfofjnnjlnggjaa.RefC
