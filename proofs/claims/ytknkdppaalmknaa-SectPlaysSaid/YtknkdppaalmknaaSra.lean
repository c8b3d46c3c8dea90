/-
  A file of sectors, the document's own: what is known of it; Read, Sync, Copy, one sector as a text.
-/
import Derived.Test.YtknkdppaalmknaaSfb
import Derived.Test.YtknkdppaalmknaaOwnS
import Derived.BigQuiet
namespace Go.Proofs.Ytknkdppaalmknaa.Sra
open Go.ChangeShapes Go.WideShapes Go.ChangeAt Go.RowKit
open Bytes8 Blk8 Own8 OwnM OwnA OwnE Kf Ta Fa Sfa Sfb
set_option linter.unusedVariables false
set_option linter.unusedSimpArgs false

/-- The document's file at the block g: its bytes, those that are safe; what it reaches is in G. -/
def FileR (w : World) (G : Nat → Prop) (g : Nat) (now safe : List Int) : Prop :=
  ∃ A n c B m d, (∃ v : Int, Blk w g [.slice A n c, .slice B m d, .int .i64 v] 29) ∧ Bytes w A now ∧ now.length = n ∧ n ≤ c ∧ c ≤ maxLen ∧ Bytes w B safe ∧ safe.length = m ∧ m ≤ d ∧ d ≤ maxLen ∧
    (∀ b off, A = some ⟨b, off, none⟩ → 0 < now.length → b ≠ g ∧ G b) ∧ (∀ b off, B = some ⟨b, off, none⟩ → 0 < safe.length → b ≠ g ∧ G b) ∧ G g ∧ Foot w G ∧ safe.length ≤ now.length ∧ now.length ≤ 32768

theorem FileR.foot {w : World} {G : Nat → Prop} {g : Nat} {now safe : List Int} (h : FileR w G g now safe) : Foot w G := by
  obtain ⟨A, n, c, B, m, d, _, _, _, _, _, _, _, _, _, _, _, _, h, _⟩ := h
  exact h
theorem FileR.len {w : World} {G : Nat → Prop} {g : Nat} {now safe : List Int} (h : FileR w G g now safe) : safe.length ≤ now.length ∧ now.length ≤ 32768 := by
  obtain ⟨A, n, c, B, m, d, _, _, _, _, _, _, _, _, _, _, _, _, _, h⟩ := h
  exact h
theorem FileR.keptF {w w' : World} {F G : Nat → Prop} {g : Nat} {now safe : List Int} (h : FileR w G g now safe) (hk : KeptF F w w') (hoff : Off G F) : FileR w' G g now safe := by
  obtain ⟨A, n, c, B, m, d, ⟨v, hB⟩, h1, h2, h3, h4, h5, h6, h7, h8, h9, h10, h11, h12, h13⟩ := h
  exact ⟨A, n, c, B, m, d, ⟨v, Kf.Blk.keptF hB hk (hoff _ h11)⟩, Kf.Bytes.keptF h1 hk (fun b off e h0 => hoff _ (h9 b off e h0).2), h2, h3, h4, Kf.Bytes.keptF h5 hk (fun b off e h0 => hoff _ (h10 b off e h0).2), h6, h7, h8, h9, h10, h11, h12.kept hk.size, h13⟩
theorem FileR.below {w w' : World} {G : Nat → Prop} {g : Nat} {now safe : List Int} (h : FileR w G g now safe) (hb : Below w.heap.size w w') : FileR w' G g now safe :=
  h.keptF (F := None') (KeptF.of_below hb) fun _ _ h => h
theorem FileR.more {w : World} {F G : Nat → Prop} {g : Nat} {now safe : List Int} (h : FileR w F g now safe) (hF : ∀ k, F k → G k) (hG : Foot w G) : FileR w G g now safe := by
  obtain ⟨A, n, c, B, m, d, hB, h1, h2, h3, h4, h5, h6, h7, h8, h9, h10, h11, h12, h13⟩ := h
  exact ⟨A, n, c, B, m, d, hB, h1, h2, h3, h4, h5, h6, h7, h8, fun b off e h0 => ⟨(h9 b off e h0).1, hF _ (h9 b off e h0).2⟩, fun b off e h0 => ⟨(h10 b off e h0).1, hF _ (h10 b off e h0).2⟩, hF _ h11, hG, h13⟩
/-- A new one. -/
theorem FileR.new (w : World) : FileR (w.alloc (.cells #[.slice none 0 0, .slice none 0 0, .int .i64 0] 29)) (Ext None' w (w.alloc (.cells #[.slice none 0 0, .slice none 0 0, .int .i64 0] 29))) w.heap.size [] [] :=
  ⟨none, 0, 0, none, 0, 0, ⟨0, Blk.new w [.slice none 0 0, .slice none 0 0, .int .i64 0] _⟩, Bytes.nil _ _, rfl, by omega, by decide, Bytes.nil _ _, rfl, by omega, by decide, (fun b off e _ => by cases e), (fun b off e _ => by cases e), .inr ⟨Nat.le_refl _, by simp⟩, Ext.foot (fun k h => h.elim) (by simp), by simp, by simp⟩

theorem rsync_any (w : World) (G : Nat → Prop) (g : Nat) (now safe : List Int) (h : FileR w G g now safe) :
    Calls Try.prog 12 #[.pointer (some ⟨g, 0, none⟩)] w fun e w' => e = .returned (.tuple #[]) ∧ FileR w' G g now now ∧ KeptF (One g) w w' := by
  obtain ⟨A, n, c, B, m, d, ⟨v, hB⟩, h1, h2, h3, h4, h5, h6, h7, h8, h9, h10, h11, h12, h13⟩ := h
  have HB := Lib.hid hB
  have c0 := hB.cell (i := 0) rfl
  have c1 := hB.cell (i := 1) rfl
  have f1 := hB.frozen 1
  clear hB
  go_enter Try.func12, Try.ntmps12
  go_wp2
  go_end0
  have K := KeptF.set1 w g 1 (.slice A n c)
  have b1 := Kf.Bytes.keptF h1 K (fun b off e h0 hf => (h9 b off e h0).1 hf)
  exact ⟨rfl, ⟨A, n, c, A, n, c, ⟨v, HB.out.set_ 1 _⟩, b1, h2, h3, h4, b1, h2, h3, h4, h9, h9, h11, h12.kept (by simp), Nat.le_refl _, h13.2⟩, K⟩

theorem rread_any (w : World) (G : Nat → Prop) (g : Nat) (now safe : List Int) (p n : Int) (h : FileR w G g now safe) (hp : -9223372036854775808 ≤ p) (hp2 : p ≤ 9223372036854775807) (hn : -9223372036854775808 ≤ n) (hn2 : n ≤ 9223372036854775807) :
    Calls Try.prog 18 #[.pointer (some ⟨g, 0, none⟩), .int .i64 p, .int .i64 n] w (Got (rdL now p n) (rdE now.length p n) w) := by
  obtain ⟨A, L, c, B, m, d, ⟨v, hB⟩, h1, hL, h3, h4, _, _, _, _, _, _, _, _, _, h13⟩ := h
  have c0 := hB.cell (i := 0) rfl
  have hLb : L ≤ 32768 := by omega
  have c0a : ∀ o, (w.alloc o).cell? ⟨g, 0, none⟩ = some (.slice A L c) := fun o => (hB.alloc o).cell (i := 0) rfl
  unfold rdL rdE
  rw [hL]
  clear hB
  by_cases h0 : p < 0 ∨ n < 0
  · rw [if_pos h0, if_pos h0]
    clear h1 hL h13
    by_cases hp0 : p < 0
    · go_enter Try.func18, Try.ntmps18
      go_wp2
      go_ret2
      exact ⟨none, 0, rfl, Bytes.nil _ _, Below.refl _ _⟩
    · have hn0 : n < 0 := by omega
      clear h0
      go_enter Try.func18, Try.ntmps18
      go_wp2
      go_ret2
      exact ⟨none, 0, rfl, Bytes.nil _ _, Below.refl _ _⟩
  · rw [if_neg h0, if_neg h0]
    have hp0 : 0 ≤ p := by omega
    have hn0 : 0 ≤ n := by omega
    obtain ⟨p, rfl⟩ := Int.eq_ofNat_of_zero_le hp0
    obtain ⟨n, rfl⟩ := Int.eq_ofNat_of_zero_le hn0
    by_cases h3' : (L : Int) - (p : Int) < (n : Int)
    · rw [if_pos h3', if_pos h3']
      clear h1 hL h0 h13
      by_cases hpl : (L : Int) < (p : Int)
      · have hd1 : decide ((L : Int) < (p : Int)) = true := by simp; omega
        go_enter Try.func18, Try.ntmps18
        go_wp2
        go_ret2
        exact ⟨none, 0, rfl, Bytes.nil _ _, Below.refl _ _⟩
      · have hd1 : decide ((L : Int) < (p : Int)) = false := by simp; omega
        go_enter Try.func18, Try.ntmps18
        go_wp2
        go_ret2
        exact ⟨none, 0, rfl, Bytes.nil _ _, Below.refl _ _⟩
    · rw [if_neg h3', if_neg h3']
      have hpn : p + n ≤ L := by omega
      have HL := Lib.hid (show ((now.drop p).take n).length = n by simp; omega)
      have HL2 := Lib.hid (show ((now.drop (p : Int).toNat).take (n : Int).toNat) = (now.drop p).take n from rfl)
      rw [HL2.out]
      obtain ⟨q, hq⟩ : ∃ q, q = p + n := ⟨_, rfl⟩
      have e1 : (p : Int) + (n : Int) = (q : Int) := by omega
      have hpq : p ≤ q := by omega
      have hqc : q ≤ c := by omega
      have hqp : q - p = n := by omega
      have hqL : q ≤ 32768 := by omega
      have hd1 : decide ((L : Int) < (p : Int)) = false := by simp; omega
      have hd2 : decide ((L : Int) - (p : Int) < (n : Int)) = false := by simp; omega
      have HA := Lib.hid fun (X : Option Addr) (hX : Bytes w X ((now.drop p).take n)) => hX.below ((Below.refl w.heap.size w).alloc (Nat.le_refl _) (.cells #[] 5)) (Nat.le_refl _)
      by_cases hcp : c = p
      · obtain rfl : n = 0 := by omega
        obtain rfl : q = p := by omega
        subst hcp
        clear h1 hL h0 hq HL HL2 h13 HA
        go_enter Try.func18, Try.ntmps18
        go_wp2_with (at_builtin; refine wpList_append_bytes rfl (.tmp 32) (.tmp 41) rfl w.heap.size _ 0 0 [] rfl (Own.made w _ (Nat.le_refl _)) A 0 0 [] rfl (Bytes.nil _ _) rfl (by omega) ?_; intro A2 c2 w2 ho2 hbel2; have HO2 := Lib.hid ho2; clear ho2)
        go_ret2
        exact ⟨A2, c2, rfl, HO2.out.bytes, ((Below.refl _ _).alloc (Nat.le_refl _) _).trans hbel2⟩
      · have hB := Bytes.cut h1 c p n (by omega)
        rw [cutA, if_neg hcp] at hB
        have HX := Lib.hid (HA.out _ hB)
        clear h1 hL h0 hB hq HL2 HA h13
        generalize ((now.drop p).take n) = R at *
        go_enter Try.func18, Try.ntmps18
        go_wp2_with (at_builtin; refine wpList_append_bytes rfl (.tmp 32) (.tmp 41) rfl w.heap.size _ 0 0 [] rfl (Own.made w _ (Nat.le_refl _)) (A.map (·.add p)) n (c - p) R rfl HX.out HL.out (by omega) ?_; intro A2 c2 w2 ho2 hbel2; rw [Nat.zero_add, List.nil_append] at ho2; rw [Nat.zero_add]; have HO2 := Lib.hid ho2; clear ho2)
        go_ret2
        exact ⟨A2, c2, by rw [HL.out]; rfl, HO2.out.bytes, ((Below.refl _ _).alloc (Nat.le_refl _) _).trans hbel2⟩

theorem T_eq {l m : List Int} : T l = T l := rfl

set_option maxRecDepth 100000 in
set_option maxHeartbeats 1000000 in
theorem part_any (A : Option Addr) (n c i : Nat) (l : List Int) (w : World) (hb : Bytes w A l) (hL : l.length = n) (hn : n ≤ 1000000) (hi : i ≤ 1000000) (hc : n ≤ c) (hc2 : c ≤ maxLen) :
    Calls Try.prog 32 #[.slice A n c, .int .i64 (i : Int)] w fun e w' => e = .returned (.string (T (sec l i))) ∧ w = w' := by
  obtain ⟨k, hk⟩ : ∃ k, k = i * 512 := ⟨_, rfl⟩
  have e3 : ((i : Int) * 512) = (k : Int) := by omega
  have hkb : k ≤ 600000000 := by omega
  by_cases h : n ≤ k
  · have h2 : (n : Int) ≤ (k : Int) := by omega
    have hs : T (sec l i) = { data := #[] } := by rw [sec_none (by omega)]; rfl
    rw [hs]
    clear hb hk hs
    go_enter Try.func32, Try.ntmps32
    go_wp2
    go_ret
    exact ⟨rfl, rfl⟩
  · obtain ⟨b1, l1⟩ := sec_bytes (i := i) hb hL hc
    have hck : ¬ (c = k) := by omega
    have hkm : k ≤ 1000000 := by omega
    have h2 : ¬ ((n : Int) ≤ (k : Int)) := by omega
    rw [show 512 * i = k by omega, Nat.min_eq_left (by omega), cutA, if_neg hck] at b1
    rw [show 512 * i = k by omega] at l1
    have hs := fun cap m hm => b1.string cap m hm
    obtain ⟨S, hS⟩ : ∃ S, T (sec l i) = S := ⟨_, rfl⟩
    rw [hS]
    have hS2 : strOfNums (sec l i) = S := hS
    rw [hS2] at hs
    rcases Nat.lt_or_ge n (k + 512) with h3 | h3
    · have hs2 := fun cap => hs cap (n - k) (by omega)
      have h4 : (n : Int) < (k : Int) + 512 := by omega
      clear hb hk hs b1 l1 hL hS hS2
      go_enter Try.func32, Try.ntmps32
      go_wp2
      go_ret
      exact ⟨rfl, rfl⟩
    · have hs2 := fun cap => hs cap 512 (by omega)
      have h4 : (k : Int) + 512 ≤ (n : Int) := by omega
      have h5 : k + 512 ≤ c := by omega
      clear hb hk hs b1 l1 hL hS hS2
      go_enter Try.func32, Try.ntmps32
      go_wp2
      go_ret
      exact ⟨rfl, rfl⟩
end Go.Proofs.Ytknkdppaalmknaa.Sra
