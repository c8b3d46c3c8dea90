/-
  A file of sectors, the program's: what is known of it, and what its calls that only read, and New, Copy, answer.
-/
import Derived.Test.YtpgkimohekdmmaaSfa
import Derived.BigQuiet
namespace Go.Proofs.Ytpgkimohekdmmaa.Sfb
open Go.ChangeShapes Go.WideShapes Go.ChangeAt Go.RowKit
open Bytes8 Blk8 Own8 OwnM OwnA OwnE Kf Ta Fa Sfa
set_option linter.unusedVariables false
set_option maxRecDepth 100000
set_option linter.unusedSimpArgs false

/-- The file at the block g has these bytes, and those that are safe; its blocks are in F. -/
def FileP (w : World) (F : Nat → Prop) (g : Nat) (now safe : List Int) : Prop :=
  ∃ A n c B m d, Blk w g [.slice A n c, .slice B m d] 87 ∧ Own w 0 A n c now ∧ Own w 0 B m d safe ∧ Apart A B ∧ (∀ k, ownB A = some k → k ≠ g ∧ F k) ∧ (∀ k, ownB B = some k → k ≠ g ∧ F k) ∧ F g ∧ Foot w F ∧ safe.length ≤ now.length ∧ now.length ≤ 32768

/-- .. while what is safe may be more. -/
def FileW (w : World) (F : Nat → Prop) (g : Nat) (now safe : List Int) : Prop :=
  ∃ A n c B m d, Blk w g [.slice A n c, .slice B m d] 87 ∧ Own w 0 A n c now ∧ Own w 0 B m d safe ∧ Apart A B ∧ (∀ k, ownB A = some k → k ≠ g ∧ F k) ∧ (∀ k, ownB B = some k → k ≠ g ∧ F k) ∧ F g ∧ Foot w F ∧ now.length ≤ 32768
theorem FileP.wide {w : World} {F : Nat → Prop} {g : Nat} {now safe : List Int} (h : FileP w F g now safe) : FileW w F g now safe := by
  obtain ⟨A, n, c, B, m, d, h1, h2, h3, h4, h5, h6, h7, h8, h9, h10⟩ := h
  exact ⟨A, n, c, B, m, d, h1, h2, h3, h4, h5, h6, h7, h8, h10⟩

theorem FileP.foot {w : World} {F : Nat → Prop} {g : Nat} {now safe : List Int} (h : FileP w F g now safe) : Foot w F := by
  obtain ⟨A, n, c, B, m, d, _, _, _, _, _, _, _, h, _⟩ := h
  exact h
theorem FileP.len {w : World} {F : Nat → Prop} {g : Nat} {now safe : List Int} (h : FileP w F g now safe) : safe.length ≤ now.length ∧ now.length ≤ 32768 ∧ AllB now ∧ AllB safe := by
  obtain ⟨A, n, c, B, m, d, _, h1, h2, _, _, _, _, _, h3, h4⟩ := h
  exact ⟨h3, h4, h1.1, h2.1⟩
theorem FileP.keptF {w w' : World} {F G : Nat → Prop} {g : Nat} {now safe : List Int} (h : FileP w F g now safe) (hk : KeptF G w w') (hoff : Off F G) : FileP w' F g now safe := by
  obtain ⟨A, n, c, B, m, d, h1, h2, h3, h4, h5, h6, h7, h8, h9⟩ := h
  exact ⟨A, n, c, B, m, d, Kf.Blk.keptF h1 hk (hoff _ h7), Kf.Own.keptF h2 hk (fun k hk => hoff _ (h5 k hk).2), Kf.Own.keptF h3 hk (fun k hk => hoff _ (h6 k hk).2), h4, h5, h6, h7, h8.kept hk.size, h9⟩
theorem FileP.below {w w' : World} {F : Nat → Prop} {g : Nat} {now safe : List Int} (h : FileP w F g now safe) (hb : Below w.heap.size w w') : FileP w' F g now safe :=
  h.keptF (G := None') (KeptF.of_below hb) fun _ _ h => h
theorem FileP.drewN {w : World} {F : Nat → Prop} {g : Nat} {now safe : List Int} (h : FileP w F g now safe) (n : Nat) : FileP (w.drewN n) F g now safe := h.below (below_drewN (Below.refl _ _) n)
theorem FileP.more {w : World} {F G : Nat → Prop} {g : Nat} {now safe : List Int} (h : FileP w F g now safe) (hF : ∀ k, F k → G k) (hG : Foot w G) : FileP w G g now safe := by
  obtain ⟨A, n, c, B, m, d, h1, h2, h3, h4, h5, h6, h7, h8, h9⟩ := h
  exact ⟨A, n, c, B, m, d, h1, h2, h3, h4, fun k hk => ⟨(h5 k hk).1, hF _ (h5 k hk).2⟩, fun k hk => ⟨(h6 k hk).1, hF _ (h6 k hk).2⟩, hF _ h7, hG, h9⟩

set_option maxRecDepth 100000 in
theorem new_any (w : World) : Calls Try.prog 31 #[] w fun e w' => e = .returned (.pointer (some ⟨w.heap.size, 0, none⟩)) ∧ FileP w' (Ext None' w w') w.heap.size [] [] ∧ Below w.heap.size w w' := by
  go_enter Try.func31, Try.ntmps31
  go_wp2
  go_ret
  refine ⟨rfl, ⟨none, 0, 0, none, 0, 0, Blk.new w [.slice none 0 0, .slice none 0 0] _, Own.nil _ _ (Nat.zero_le _), Own.nil _ _ (Nat.zero_le _), Apart.none _, (fun k h => by cases h), (fun k h => by cases h), .inr ⟨Nat.le_refl _, by simp⟩, Ext.foot (fun k h => h.elim) (by simp), by simp, by simp⟩, (Below.refl _ _).alloc (Nat.le_refl _) _⟩

theorem len_any (w : World) (F : Nat → Prop) (g : Nat) (now safe : List Int) (h : FileP w F g now safe) :
    Calls Try.prog 28 #[.pointer (some ⟨g, 0, none⟩)] w fun e w' => e = .returned (.int .i64 (now.length : Nat)) ∧ w = w' := by
  obtain ⟨A, n, c, B, m, d, h1, h2, _⟩ := h
  have c0 := h1.cell (i := 0) rfl
  rw [h2.2.1]
  clear h1 h2
  go_enter Try.func28, Try.ntmps28
  go_wp2
  go_ret
  exact ⟨rfl, rfl⟩

theorem all_any (w : World) (F : Nat → Prop) (g : Nat) (now safe : List Int) (h : FileP w F g now safe) :
    Calls Try.prog 45 #[.pointer (some ⟨g, 0, none⟩)] w (Fresh now now.length w) := by
  obtain ⟨A, n, c, B, m, d, h1, h2, _, _, _, _, _, _, _, h9⟩ := h
  have c0 := h1.cell (i := 0) rfl
  have hL := h2.2.1
  rw [hL]
  have HC := Lib.hid (clone_own A now n c w h2.bytes hL (by omega))
  clear h1 h2 hL h9
  go_enter Try.func45, Try.ntmps45
  go_wp2_with (go_at_call 61; (with_reducible refine HC.out.mono ?_); rintro e w2 ⟨A2, c2, rfl, ho, hbel⟩; have HO := Lib.hid ho; clear ho)
  go_ret
  exact ⟨A2, c2, rfl, HO.out, hbel⟩
theorem safe_any (w : World) (F : Nat → Prop) (g : Nat) (now safe : List Int) (h : FileP w F g now safe) :
    Calls Try.prog 62 #[.pointer (some ⟨g, 0, none⟩)] w (Fresh safe safe.length w) := by
  obtain ⟨A, n, c, B, m, d, h1, _, h2, _, _, _, _, _, h8, h9⟩ := h
  have c0 := h1.cell (i := 1) rfl
  have hL := h2.2.1
  have h10 : m ≤ 32768 := by omega
  rw [hL]
  have HC := Lib.hid (clone_own B safe m d w h2.bytes hL (by omega))
  clear h1 h2 hL h9 h8
  go_enter Try.func62, Try.ntmps62
  go_wp2_with (go_at_call 61; (with_reducible refine HC.out.mono ?_); rintro e w2 ⟨A2, c2, rfl, ho, hbel⟩; have HO := Lib.hid ho; clear ho)
  go_ret
  exact ⟨A2, c2, rfl, HO.out, hbel⟩

/-- What Read answers: the bytes, and the code. -/
def rdE (L : Nat) (p n : Int) : Int := if p < 0 ∨ n < 0 then 1 else if (L : Int) - p < n then 2 else 0
def rdL (l : List Int) (p n : Int) : List Int := if p < 0 ∨ n < 0 then [] else if (l.length : Int) - p < n then [] else (l.drop p.toNat).take n.toNat
def Got (l : List Int) (c : Int) (w : World) (e : Ending) (w' : World) : Prop := ∃ A m, e = .returned (.tuple #[.slice A l.length m, .int .i64 c]) ∧ Bytes w' A l ∧ Below w.heap.size w w'

set_option maxRecDepth 100000 in
theorem copy_any (w : World) (F : Nat → Prop) (g : Nat) (now safe : List Int) (h : FileP w F g now safe) :
    Calls Try.prog 46 #[.pointer (some ⟨g, 0, none⟩)] w fun e w' => ∃ g', e = .returned (.pointer (some ⟨g', 0, none⟩)) ∧ FileP w' (Ext None' w w') g' now safe ∧ Below w.heap.size w w' := by
  have HA := Lib.hid (all_any w F g now safe h)
  have HS := Lib.hid fun (w' : World) (hb : Below w.heap.size w w') => safe_any w' F g now safe (h.below hb)
  have HL := Lib.hid h.len
  clear h
  go_enter Try.func46, Try.ntmps46
  go_wp2_with (first
    | (go_at_call 45; (with_reducible refine HA.out.mono ?_); rintro e w2 ⟨A2, c2, rfl, ho, hbel⟩; have HO := Lib.hid ho; clear ho)
    | (go_at_call 62; (with_reducible refine (HS.out _ hbel).mono ?_); rintro e w3 ⟨A3, c3, rfl, ho3, hbel3⟩; have HO3 := Lib.hid ho3; clear ho3))
  go_ret
  have hs1 := hbel.size
  have hs2 := hbel3.size
  have hsz : w.heap.size ≤ (w3.alloc (.cells #[.slice A2 now.length c2, .slice A3 safe.length c3] 87)).heap.size := by simp; omega
  have b0 := (Below.refl w3.heap.size w3).alloc (Nat.le_refl _) (.cells #[.slice A2 now.length c2, .slice A3 safe.length c3] 87)
  have o2 := (HO.out.kept hbel3 (Nat.le_refl _))
  have o3 := HO3.out
  refine ⟨_, rfl, ⟨A2, _, c2, A3, _, c3, Blk.new w3 [.slice A2 now.length c2, .slice A3 safe.length c3] _, Own.lower (o2.kept b0 (Nat.le_refl _)) (Nat.zero_le _), Own.lower (o3.kept b0 (Nat.le_refl _)) (Nat.zero_le _), ?_, ?_, ?_, .inr ⟨by omega, by simp⟩, Ext.foot (fun k h => h.elim) hsz, HL.out.1, HL.out.2.1⟩, (hbel.trans (hbel3.mono hs1)).trans (b0.mono (by omega))⟩
  · intro k hk hk2
    have h1 := Kf.Own.block HO.out hk
    have h2 := Kf.Own.block o3 hk2
    omega
  · intro k hk
    have h1 := Kf.Own.block HO.out hk
    exact ⟨by omega, .inr ⟨h1.1, by simp; omega⟩⟩
  · intro k hk
    have h1 := Kf.Own.block o3 hk
    exact ⟨by omega, .inr ⟨by omega, by simp; omega⟩⟩
end Go.Proofs.Ytpgkimohekdmmaa.Sfb
