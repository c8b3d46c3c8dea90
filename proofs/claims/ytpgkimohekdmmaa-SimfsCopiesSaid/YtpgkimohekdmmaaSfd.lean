/-
  A file of sectors, the program's: which sectors are dirty, and what Crash leaves.
-/
import Derived.Test.YtpgkimohekdmmaaSfc
import Derived.Test.YtpgkimohekdmmaaRows2
import Derived.Test.YtpgkimohekdmmaaDo
import Derived.Lib.SliceRun
namespace Go.Proofs.Ytpgkimohekdmmaa.Sfd
open Go.ChangeShapes Go.WideShapes Go.ChangeAt Go.RowKit
open Bytes8 Blk8 Own8 OwnM OwnA OwnE Kf Ta Fa Sfa Sfb Sfc Rows2 Do8
set_option linter.unusedVariables false
set_option maxRecDepth 100000
set_option linter.unusedSimpArgs false

/-- What is told, where nothing but draws is left. -/
def Drawn (v : Value) (w : World) (e : Ending) (w' : World) : Prop := e = .returned v ∧ ∃ m, w' = w.drewN m

set_option maxRecDepth 100000 in
set_option maxHeartbeats 1000000 in
theorem isDirty_any (w : World) (F : Nat → Prop) (g : Nat) (now safe : List Int) (i : Nat) (h : FileP w F g now safe) (hi : i ≤ 1000000) :
    Calls Try.prog 59 #[.pointer (some ⟨g, 0, none⟩), .int .i64 (i : Int)] w (Drawn (.bool (dirt now safe i)) w) := by
  obtain ⟨A, n, c, B, m, d, hB, ho, hs, _, _, _, _, _, hle, hmax⟩ := h
  have c0 := hB.cell (i := 0) rfl
  have c1 := hB.cell (i := 1) rfl
  have hcA := own_cap ho
  have hcB := own_cap hs
  have hL := ho.2.1
  have hL2 := hs.2.1
  have hn : n ≤ 32768 := by omega
  have hm : m ≤ 32768 := by omega
  have H1 := Lib.hid fun w => sector_any A n c i w (by omega) hi hcA.1 hcA.2
  have H2 := Lib.hid fun w => sector_any B m d i w (by omega) hi hcB.1 hcB.2
  obtain ⟨b1, l1⟩ := sec_bytes (i := i) ho.bytes hL hcA.1
  obtain ⟨b2, l2⟩ := sec_bytes (i := i) hs.bytes hL2 hcB.1
  have HE := Lib.hid fun k => equal_any _ _ _ _ _ (c - min (512 * i) n) _ (d - min (512 * i) m) (w.drewN k) (b1.drewN k) (b2.drewN k) l1 l2
  have HD := Lib.hid (show dirt now safe i = !(decide (sec now i = sec safe i)) by unfold dirt; simp)
  unfold secV at H1 H2
  clear hB ho hs hle hmax hL hL2 hn hm b1 b2 l1 l2 hcA hcB
  generalize cutA A c (min (512 * i) n) = A1 at *
  generalize cutA B d (min (512 * i) m) = A2 at *
  generalize min 512 (n - 512 * i) = n1 at *
  generalize min 512 (m - 512 * i) = n2 at *
  generalize c - min (512 * i) n = c1' at *
  generalize d - min (512 * i) m = c2' at *
  generalize decide (sec now i = sec safe i) = z at *
  go_enter Try.func59, Try.ntmps59
  go_wp2_with fail
  go_quiet (first
    | (go_at_call 60; with_reducible exact quiet_kept (H1.out _))
    | (go_at_call 60; with_reducible exact quiet_kept (H2.out _))
    | (go_at_call 69; with_reducible exact quiet_kept (HE.out _)))
  go_wp2
  go_ret
  exact ⟨by rw [HD.out]; rfl, _, rfl⟩

/-! ## rows of places -/
theorem intElt : Elt 3 75 1 8 (.int .i64 0) := ⟨Try.underlying75, by kernel_rfl, rfl, by decide⟩
def intsV (l : List Nat) : List Value := l.map fun (k : Nat) => Value.int .i64 (k : Int)
/-- Places gathered by append. -/
def OwnI (w : World) (base : Nat) (A : Option Addr) (n c : Nat) (l : List Nat) : Prop := l.length = n ∧ OwnE 3 1 w base A n c (intsV l)
theorem OwnI.ints {w : World} {base n c : Nat} {A : Option Addr} {l : List Nat} (h : OwnI w base A n c l) (hl : ∀ x ∈ l, x ≤ 1000000) : InInts .i64 w A n (fun i => ((l.getD i 0 : Nat) : Int)) := fun i hi => by
  have hil : i < l.length := by rw [h.1]; exact hi
  obtain ⟨g, rfl, _, hlt, hc⟩ := h.2.cell (i := i) (by unfold intsV; rw [List.length_map]; exact hil)
  have e : l.getD i 0 = l[i] := by rw [List.getD_eq_getElem?_getD, List.getElem?_eq_getElem hil]; rfl
  refine ⟨g, 0, rfl, hlt, ?_, ?_⟩
  · rw [Nat.zero_add, hc]
    simp only [e]
    unfold intsV
    rw [List.getElem?_map, List.getElem?_eq_getElem hil]; rfl
  · have := hl _ (List.getElem_mem hil)
    simp only [e]
    have : Lit.wf (.int .i64 ((l[i] : Nat) : Int)) = true := Go.WalkArith.wf_i64 (by omega)
    exact this

/-- What Dirty answers. -/
def Places (l : List Nat) (w : World) (e : Ending) (w' : World) : Prop := ∃ A c, e = .returned (.slice A l.length c) ∧ OwnI w' w.heap.size A l.length c l ∧ Below w.heap.size w w'

set_option maxRecDepth 100000 in
set_option maxHeartbeats 1000000 in
theorem dirty_any (w : World) (F : Nat → Prop) (g : Nat) (now safe : List Int) (h : FileP w F g now safe) :
    Calls Try.prog 43 #[.pointer (some ⟨g, 0, none⟩)] w (Places (dirty now safe) w) := by
  have hlen := h.len
  have HF := Lib.hid h
  obtain ⟨A, n, c, B, m, d, hB, ho, _⟩ := h
  have c0 := hB.cell (i := 0) rfl
  have hL := ho.2.1
  have hn : n ≤ 32768 := by omega
  have HD := Lib.hid (show dirty now safe = dirtyTo now safe (secs n) by unfold dirty; rw [hL]; congr 2; omega)
  have HSc := Lib.hid fun w => sectors_any A n c w (by omega)
  have hsn : secs n ≤ 64 := by unfold secs; omega
  unfold Places
  rw [HD.out]
  clear hB ho hL hlen
  generalize secs n = N at *
  go_enter Try.func43, Try.ntmps43
  go_wp2_with (go_at_call 58; (with_reducible refine (HSc.out _).mono ?_); rintro e w' ⟨rfl, rfl⟩)
  go_loopw [3, 10] (fun s i wr => ∃ (k n : Nat) (A : Option Addr) (c : Nat), k ≤ N ∧ i = .int .i64 (k : Int) ∧ s = .slice A n c ∧ n ≤ k ∧ Hid (OwnI wr w.heap.size A n c (dirtyTo now safe k)) ∧ Hid (Below w.heap.size w wr)) (fun _ i _ => N - (intOf i).toNat)
  case atStart => exact ⟨0, 0, none, 0, by omega, rfl, rfl, by omega, Lib.hid (show OwnI w w.heap.size none 0 0 [] from ⟨rfl, OwnE.nil w _ (Nat.le_refl _)⟩), Lib.hid (Below.refl _ _)⟩
  case round =>
    obtain ⟨k, nn, A1, c1, hk, rfl, rfl, hnk, hO, hBl⟩ := hrel
    rcases Nat.lt_or_ge k N with hlt | hge
    · have hin : (k : Int) < (N : Int) := by omega
      have HI := Lib.hid (isDirty_any wr F g now safe k (HF.out.below hBl.out) (by omega))
      cases hd : dirt now safe k with
      | true =>
        rw [hd] at HI
        have HS := Lib.hid (dirtyTo_yes hd)
        clear hd
        go_wp2_with (first
          | (go_at_call 59; (with_reducible refine HI.out.mono ?_); rintro e w2 ⟨rfl, q, rfl⟩)
          | (at_builtin; refine wpList_append_elt intElt rfl (.tmp 16) (.tmp 18) rfl w.heap.size A1 nn c1 (intsV (dirtyTo now safe k)) rfl (hO.out.2.kept ((below_drewN (Below.refl wr.heap.size wr) q).alloc (Nat.le_refl _) (.cells #[.int .i64 (k : Int)] 3)) (Nat.le_refl _)) ⟨wr.heap.size, 0, none⟩ 1 1 [.int .i64 (k : Int)] rfl rfl (Blk.news (Blk.new (wr.drewN q) [.int .i64 (k : Int)] 3)) (by intro u hu; simp at hu; subst hu; rfl) (by omega) (by omega) ?_; intro A2 c2 w2 ho2 hbel2; have HO2 := Lib.hid ho2; have HN2 := Lib.hid (((below_drewN hBl.out q).alloc hBl.out.size (.cells #[.int .i64 (k : Int)] 3)).trans hbel2); clear ho2))
        go_round
        case rel =>
          refine ⟨k + 1, nn + 1, A2, c2, by omega, by go_num, rfl, by omega, Lib.hid ⟨?_, ?_⟩, HN2⟩
          · rw [HS.out, List.length_append, hO.out.1]; rfl
          · have := HO2.out
            rw [HS.out]; unfold intsV at this ⊢
            rw [List.map_append, List.map_cons, List.map_nil]
            exact this
        case measure => simp [intOf]; omega
      | false =>
        rw [hd] at HI
        have HS := Lib.hid (dirtyTo_no hd)
        clear hd
        go_wp2_with (go_at_call 59; (with_reducible refine HI.out.mono ?_); rintro e w2 ⟨rfl, q, rfl⟩)
        go_round
        case rel => exact ⟨k + 1, nn, A1, c1, by omega, by go_num, rfl, by omega, Lib.hid (by rw [HS.out]; exact ⟨hO.out.1, hO.out.2.kept (below_drewN (Below.refl wr.heap.size wr) q) (Nat.le_refl _)⟩), Lib.hid (below_drewN hBl.out q)⟩
        case measure => simp [intOf]; omega
    · obtain rfl : k = N := by omega
      go_wp2
      go_ret
      exact ⟨A1, c1, by rw [hO.out.1]; rfl, by rw [hO.out.1]; exact hO.out, hBl.out⟩
end Go.Proofs.Ytpgkimohekdmmaa.Sfd
