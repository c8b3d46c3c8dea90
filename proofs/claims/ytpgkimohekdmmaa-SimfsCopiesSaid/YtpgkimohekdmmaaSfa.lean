/-
  Small functions of a file of sectors: filling up with 0, the number of sectors, one sector, bytes held against each other, a copy of bytes.
-/
import Derived.Test.YtpgkimohekdmmaaKf
import Derived.Test.YtpgkimohekdmmaaTa
import Derived.Test.YtpgkimohekdmmaaSB
import Derived.Lib.SliceRun
namespace Go.Proofs.Ytpgkimohekdmmaa.Sfa
open Go.ChangeShapes Go.WideShapes Go.ChangeAt Go.RowKit
open Bytes8 Blk8 Own8 OwnM OwnA OwnE Kf Ta Fa
set_option linter.unusedVariables false
set_option maxRecDepth 100000
set_option linter.unusedSimpArgs false

theorem wpList_append_zeros {w : World} {ops : Array Oper} {rest : List Oper} {o : Oper} {a : Act} {Q : Exit → Act → World → Prop} (hgd : o.guard = none) (s x : Operand)
    (hop : o.op = .call { callee := .builtin .append, args := #[s, x], argTypes := #[32, 3] })
    (base : Nat) (A : Option Addr) (n c : Nat) (l : List Int) (hs : a.eval s = .slice A n c) (ho : Own w base A n c l) (m : Nat) (M : Int) (hx : a.eval x = .int .i64 M) (hM : M = (m : Int)) (hm : 0 < m) (hsz : n + m ≤ 70368744177664)
    (h : ∀ A' c' w', Own w' base A' (n + m) c' (l ++ List.replicate m 0) → w.grownBy w' (ownB A) → (ownB A' = ownB A ∨ ownB A' = some w.heap.size) → wpList Try.prog ops Q rest (a.put o.dst (.slice A' (n + m) c')) w') : wpList Try.prog ops Q (o :: rest) a w :=
  wpList_plain hgd fun K hK => by
    subst hM
    obtain ⟨A', c', w', hr, h1, h2, h3⟩ := run_append_zeros w o.type base A n c l ho m hm hsz
    unfold Oper.wp execOp
    simp only [hop, resolve, invoke, builtin, Sem.run_bind, Sem.run_pure, Result.andThen_ok, List.map_toArray, List.map_cons, List.map_nil, hs, hx, hr]
    exact hK _ _ (h A' c' w' h1 h2 h3)

/-- What 'append' onto bytes of the call's own leaves. -/
def Filled (base : Nat) (w : World) (A : Option Addr) (m : Nat) (l : List Int) (e : Ending) (w' : World) : Prop :=
  ∃ A' c', e = .returned (.slice A' m c') ∧ Own w' base A' m c' l ∧ w.grownBy w' (ownB A) ∧ (ownB A' = ownB A ∨ ownB A' = some w.heap.size)

theorem filled_any (base : Nat) (A : Option Addr) (n c N : Nat) (l : List Int) (w : World) (ho : Own w base A n c l) (hN : N ≤ 1000000) (hn : n ≤ 1000000) :
    Calls Try.prog 53 #[.slice A n c, .int .i64 (N : Int)] w (Filled base w A (max n N) (pad l N)) := by
  have hL := ho.2.1
  by_cases h : N ≤ n
  · have e : pad l N = l := pad_same (by omega)
    have e2 : max n N = n := by omega
    rw [e, e2]
    have HO := Lib.hid ho
    clear ho e e2 hL
    go_enter Try.func53, Try.ntmps53
    go_wp2
    go_ret
    exact ⟨A, c, rfl, HO.out, World.grownBy.refl _ _, .inl rfl⟩
  · obtain ⟨m, rfl⟩ : ∃ m, N = n + m := ⟨N - n, by omega⟩
    have e : pad l (n + m) = l ++ List.replicate m 0 := by unfold pad; rw [hL]; congr 2; omega
    have e2 : max n (n + m) = n + m := by omega
    have e3 : ((n + m : Nat) : Int) - (n : Int) = (m : Int) := by omega
    rw [e, e2]
    have HO := Lib.hid ho
    clear ho e e2 hL
    go_enter Try.func53, Try.ntmps53
    go_wp2_with (at_builtin; refine wpList_append_zeros rfl (.tmp 10) (.tmp 14) rfl base A n c l rfl HO.out m _ rfl (by omega) (by omega) (by omega) ?_; intro A2 c2 w2 h1 h2 h3; have H1 := Lib.hid h1; clear h1)
    go_ret
    exact ⟨A2, c2, rfl, H1.out, h2, h3⟩

set_option maxRecDepth 100000 in
theorem sectors_any (A : Option Addr) (n c : Nat) (w : World) (hn : n ≤ 1000000) :
    Calls Try.prog 58 #[.slice A n c] w fun e w' => e = .returned (.int .i64 (secs n : Nat)) ∧ w = w' := by
  have e : ((n : Int) + 512 - 1) / 512 = ((secs n : Nat) : Int) := by unfold secs; omega
  generalize secs n = s at *
  have HE := Lib.hid e
  clear e
  go_enter Try.func58, Try.ntmps58
  go_wp2
  go_ret
  exact ⟨ret_int HE.out, rfl⟩

/-- Where the sector i lies, and how long it is. -/
def secV (A : Option Addr) (n c i : Nat) : Value := .slice (cutA A c (min (512 * i) n)) (min 512 (n - 512 * i)) (c - min (512 * i) n)
theorem sec_bytes {A : Option Addr} {n c i : Nat} {l : List Int} {w : World} (hb : Bytes w A l) (hL : l.length = n) (hc : n ≤ c) : Bytes w (cutA A c (min (512 * i) n)) (sec l i) ∧ (sec l i).length = min 512 (n - 512 * i) := by
  have h := Bytes.cut hb c (min (512 * i) n) 512 (by omega)
  have e : (l.drop (min (512 * i) n)).take 512 = sec l i := by
    unfold sec
    rcases Nat.le_total (512 * i) n with h1 | h1
    · rw [Nat.min_eq_left h1]
    · rw [Nat.min_eq_right h1, List.drop_of_length_le (by omega), List.drop_of_length_le (by omega)]
  rw [e] at h
  exact ⟨h, by rw [sec_length, hL]⟩

set_option maxRecDepth 100000 in
set_option maxHeartbeats 1000000 in
theorem sector_any (A : Option Addr) (n c i : Nat) (w : World) (hn : n ≤ 1000000) (hi : i ≤ 1000000) (hc : n ≤ c) (hc2 : c ≤ maxLen) :
    Calls Try.prog 60 #[.slice A n c, .int .i64 (i : Int)] w fun e w' => e = .returned (secV A n c i) ∧ w = w' := by
  obtain ⟨k, hk⟩ : ∃ k, k = i * 512 := ⟨_, rfl⟩
  have e3 : ((i : Int) * 512) = (k : Int) := by omega
  have hkb : k ≤ 600000000 := by omega
  have hV : secV A n c i = .slice (cutA A c (min k n)) (min 512 (n - k)) (c - min k n) := by unfold secV; rw [show 512 * i = k by omega]
  rw [hV]
  clear hV hk hi
  by_cases h : n ≤ k
  · rw [Nat.min_eq_right h, show min 512 (n - k) = 0 by omega]
    unfold cutA
    rcases Nat.lt_or_ge n k with h1 | h1
    · have h2 : (n : Int) < (k : Int) := by omega
      have h4 : (n : Int) < (n : Int) + 512 := by omega
      by_cases hcn : c = n
      · subst hcn
        go_enter Try.func60, Try.ntmps60
        go_wp2
        go_ret
        exact ⟨rfl, rfl⟩
      · rw [if_neg hcn]
        go_enter Try.func60, Try.ntmps60
        go_wp2
        go_ret
        exact ⟨rfl, rfl⟩
    · obtain rfl : n = k := by omega
      have h4 : (n : Int) < (n : Int) + 512 := by omega
      by_cases hcn : c = n
      · subst hcn
        go_enter Try.func60, Try.ntmps60
        go_wp2
        go_ret
        exact ⟨rfl, rfl⟩
      · rw [if_neg hcn]
        go_enter Try.func60, Try.ntmps60
        go_wp2
        go_ret
        exact ⟨rfl, rfl⟩
  · have hck : ¬ (c = k) := by omega
    have hkm : k ≤ 1000000 := by omega
    have h2 : ¬ ((n : Int) < (k : Int)) := by omega
    rw [Nat.min_eq_left (by omega)]
    unfold cutA
    rw [if_neg hck]
    rcases Nat.lt_or_ge n (k + 512) with h3 | h3
    · rw [show min 512 (n - k) = n - k by omega]
      have h4 : (n : Int) < (k : Int) + 512 := by omega
      go_enter Try.func60, Try.ntmps60
      go_wp2
      go_ret
      exact ⟨rfl, rfl⟩
    · rw [show min 512 (n - k) = 512 by omega]
      have h4 : (k : Int) + 512 ≤ (n : Int) := by omega
      have h5 : k + 512 ≤ c := by omega
      go_enter Try.func60, Try.ntmps60
      go_wp2
      go_ret
      exact ⟨rfl, rfl⟩

theorem equal_any (a b : Option Addr) (l m : List Int) (n c k d : Nat) (w : World) (ha : Bytes w a l) (hb : Bytes w b m) (hn : l.length = n) (hm : m.length = k) :
    Calls Try.prog 69 #[.slice a n c, .slice b k d] w fun e w' => e = .returned (.bool (decide (l = m))) ∧ w = w' := by
  have h1 := ha.string c n hn
  have h2 := hb.string d k hm
  have h3 := T_beq ha.1 hb.1
  generalize decide (l = m) = z at *
  dsimp only [T] at h3
  generalize strOfNums l = S at *
  generalize strOfNums m = S2 at *
  clear ha hb hn hm
  go_enter Try.func69, Try.ntmps69
  go_wp2
  go_ret
  exact ⟨rfl, rfl⟩

/-- Bytes of the call's own, all new. -/
def Fresh (l : List Int) (n : Nat) (w : World) (e : Ending) (w' : World) : Prop := ∃ A c, e = .returned (.slice A n c) ∧ Own w' w.heap.size A n c l ∧ Below w.heap.size w w'

theorem clone_own (A : Option Addr) (l : List Int) (len cap : Nat) (w : World) (hb : Bytes w A l) (hL : l.length = len) (hmax : len ≤ 1000000) :
    Calls Try.prog 61 #[.slice A len cap] w (Fresh l len w) := by
  have q22 : ∀ (w : World) (a : Option Addr) (n c n' c' : Nat), (binOp .eql 32 (.slice a n c) (.slice none n' c')).run Try.prog w = .ok (.bool a.isNone) w := fun w a n c n' c' => Lib.run_eql_slice_nil w _ _ a n c n' c' Try.underlying32
  cases A with
  | none =>
    have h0 : l = [] := by
      rcases l with _ | ⟨x, r⟩
      · rfl
      · obtain ⟨b, off, e, _⟩ := hb.2 0 (by simp)
        cases e
    subst h0
    obtain rfl : len = 0 := by simpa using hL.symm
    clear hb hL
    go_enter Try.func61, Try.ntmps61
    go_wp2
    go_ret
    exact ⟨none, 0, rfl, Own.nil _ _ (Nat.le_refl _), Below.refl _ _⟩
  | some a =>
    have HB := Lib.hid (hb.below ((Below.refl w.heap.size w).alloc (Nat.le_refl _) (.cells #[] 5)) (Nat.le_refl _))
    have HL := Lib.hid hL
    clear hb hL
    go_enter Try.func61, Try.ntmps61
    go_wp2_with (at_builtin; refine wpList_append_bytes rfl (.tmp 5) (.tmp 6) rfl w.heap.size _ 0 0 [] rfl (Own.made w _ (Nat.le_refl _)) (some a) len cap l rfl HB.out HL.out (by omega) ?_; intro A2 c2 w2 ho2 hbel2; rw [Nat.zero_add, List.nil_append] at ho2; rw [Nat.zero_add]; have HO2 := Lib.hid ho2; clear ho2)
    go_ret
    exact ⟨A2, c2, rfl, HO2.out, ((Below.refl _ _).alloc (Nat.le_refl _) _).trans hbel2⟩
end Go.Proofs.Ytpgkimohekdmmaa.Sfa
