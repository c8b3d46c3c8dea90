/-
  What 'Get' answers at bytes that can be read: the number, or that there is none.
-/
import Derived.Test.YtfofjnnjlnggjaaLeA
import Derived.Test.YtfofjnnjlnggjaaLeNum
namespace Go.Proofs.Ytfofjnnjlnggjaa.LeB
open Go.ChangeShapes Go.WideShapes Go.ChangeAt Go.RowKit
open Bytes8 LeA LeNum

/-- WHAT THE WALK IS TOLD OF A SLICE OF INTEGERS THAT CAME IN, as the guide's shell hands it. -/
def IsRow (k : IntKind) (w : World) (a : Option Addr) (len cap : Nat) (zs : List Int) : Prop :=
  (a = none ∧ len = 0 ∧ cap = 0 ∧ zs = []) ∨
  ∃ x, a = some x ∧ len ≤ cap ∧ cap ≤ maxLen ∧ zs.length = cap ∧ (∀ i, i < zs.length → w.cell? (x.add i) = some (.int k (zs.getD i 0))) ∧ ∀ n ∈ zs, (Lit.int k n).wf = true

theorem bounds_of_cell {w : World} {p : Addr} {v : Value} (h : w.cell? p = some v) : p.block < w.heap.size := by
  rcases Nat.lt_or_ge p.block w.heap.size with hlt | hge
  · exact hlt
  · simp [World.cell?, Array.getElem?_eq_none hge] at h

theorem IsRow.bytes {w : World} {a : Option Addr} {len cap : Nat} {zs : List Int} (h : IsRow .u8 w a len cap zs) :
    Bytes w a (zs.take len) ∧ (zs.take len).length = len ∧ len ≤ cap ∧ cap ≤ maxLen ∧ (a = none → cap = 0) := by
  rcases h with ⟨rfl, rfl, rfl, rfl⟩ | ⟨x, rfl, hl, hm, hz, hcell, hwz⟩
  · exact ⟨Bytes.nil _ _, rfl, Nat.le_refl _, by decide, fun _ => rfl⟩
  · have hlen : (zs.take len).length = len := by simp; omega
    have hAll : AllB zs := fun n hn => by
      have := bounds_u8 (hwz n hn)
      omega
    refine ⟨⟨hAll.take len, fun i hi => ?_⟩, hlen, hl, hm, fun h => by cases h⟩
    rw [hlen] at hi
    have hc := hcell i (by omega)
    obtain ⟨b, off, spot⟩ := x
    have hspot : spot = none := by
      have h0 := hcell 0 (by omega)
      simpa [Addr.add] using World.cell?_spot h0
    subst hspot
    have hb := bounds_of_cell hc
    have e : (⟨b, off, none⟩ : Addr).add i = ⟨b, off + i, none⟩ := by
      unfold Addr.add
      split <;> simp_all
    rw [e] at hc hb
    refine ⟨b, off, rfl, hb, ?_⟩
    rw [hc]
    simp [hi]

theorem get_no (a : Option Addr) (len cap : Nat) (at1 n : Int) (w : World) (hl : len ≤ 9223372036854775807) (hf : fits len at1 n = false) :
    Calls Try.prog 8 #[.slice a len cap, .int .i64 at1, .int .i64 n] w fun e w' => e = .returned (.tuple #[.int .u64 0, .bool false]) ∧ w = w' := by
  go_enter Try.func8, Try.ntmps8
  go_wp2_with (go_at_call 19; refine (within_any _ _ _ _ _ _ hl).mono ?_; rintro e w' ⟨rfl, rfl⟩)
  go_ret2
  exact ⟨rfl, rfl⟩

theorem get_yes (a : Option Addr) (l : List Int) (cap : Nat) (at1 n : Nat) (w : World) (hl : l.length ≤ 9223372036854775807) (hf : fits l.length at1 n = true) (hb : Bytes w a l) (h8 : n ≤ 8) (h1 : 1 ≤ n) (hle : at1 + n ≤ l.length):
    Calls Try.prog 8 #[.slice a l.length cap, .int .i64 at1, .int .i64 n] w fun e w' => e = .returned (.tuple #[.int .u64 (leNum ((l.drop at1).take n)), .bool true]) ∧ w = w' := by
  obtain ⟨b, off, rfl, hlt, hc⟩ := hb.spot (by omega)
  have hA : AllB l := hb.1
  generalize hL : l.length = len at *
  have HL := Lib.hid hL
  clear hL hb
  have HC := Lib.hid hc
  have HA := Lib.hid hA
  clear hc hA
  go_enter Try.func8, Try.ntmps8
  go_wp2_with (go_at_call 19; refine (within_any _ _ _ _ _ _ hl).mono ?_; rintro e w' ⟨rfl, rfl⟩)
  go_loop [8, 16] (fun v i => ∃ k : Nat, k ≤ n ∧ i = .int .i64 k ∧ v = .int .u64 (leNum ((l.drop at1).take k))) (fun _ i => n - (intOf i).toNat)
  case atStart => exact ⟨0, Nat.zero_le _, rfl, rfl⟩
  case round =>
    obtain ⟨k, hk, rfl, rfl⟩ := hrel
    by_cases hlt : k < n
    · have hcell := HC.out (at1 + k) (by omega)
      have hs := get_step l at1 k (by omega) (by have := HL.out; omega) HA.out
      have HS := Lib.hid hs
      obtain ⟨hc0, hc1⟩ := HA.out.at_ (at1 + k)
      clear hs
      go_wp2
      go_round
      case rel => exact ⟨k + 1, by omega, by go_num, by rw [HS.out]⟩
      case measure => simp [intOf]; omega
    · go_wp2
      go_ret2
      obtain rfl : k = n := by omega
      exact ⟨rfl, rfl⟩
end Go.Proofs.Ytfofjnnjlnggjaa.LeB
