/-
  Two rows of bytes held against each other; the chapter's examples.
-/
import Derived.Test.YtmimfojlcihhaaaFe
namespace Go.Proofs.Ytmimfojlcihhaaa.Ff
open Go.ChangeShapes Go.WideShapes Go.ChangeAt Go.RowKit
open Bytes8 Blk8 Fa Fb Fc Fsp Fe
set_option linter.unusedVariables false
set_option linter.unusedSimpArgs false

theorem same_any (a b : Option Addr) (l m : List Int) (n c k d : Nat) (w : World) (ha : Bytes w a l) (hb : Bytes w b m) (hn : l.length = n) (hm : m.length = k) :
    Calls Try.prog 13 #[.slice a n c, .slice b k d] w fun e w' => e = .returned (.bool (decide (l = m))) ∧ w = w' := by
  have h1 := ha.string c n hn
  have h2 := hb.string d k hm
  have h3 := T_beq ha.1 hb.1
  generalize decide (l = m) = z at *
  dsimp only [T] at h3
  generalize strOfNums l = S at *
  generalize strOfNums m = S2 at *
  clear ha hb hn hm
  go_enter Try.func13, Try.ntmps13
  go_wp2
  go_ret
  exact ⟨rfl, rfl⟩

theorem const_bytes (l : List Int) (hA : AllB l) (w : World) (M : Nat × Nat) : Bytes (w.alloc (.cells (l.map (Value.int .u8)).toArray 5 M)) (some ⟨w.heap.size, 0, none⟩) l := by
  refine ⟨hA, fun i hi => ⟨w.heap.size, 0, rfl, by simp, ?_⟩⟩
  rw [Nat.zero_add, World.cell?_alloc_mark, List.getElem?_toArray, List.getElem?_map, List.getElem?_eq_getElem hi]
  simp [List.getElem?_eq_getElem hi]
theorem small_all {l : List Int} (h : l.all (fun x => decide (0 ≤ x) && decide (x < 256)) = true) : AllB l := fun n hn => by
  have := List.all_eq_true.1 h n hn
  simpa using this

abbrev cA : List Int := [65, 61, 98, 61, 99]
abbrev ca : List Int := [97, 61, 98]

set_option maxRecDepth 100000 in
theorem first_any (w : World) :
    Calls Try.prog 8 #[] w fun e w' => e = .returned (.bool true) ∧ Below w.heap.size w w' := by
  have kc := fun (w : World) (C : Array Value) (n c : Nat) => Lib.run_convert_bytes_const (P := Try.prog) w 22 5 C n c Try.underlying22 Try.underlying5
  have aA : AllB cA := small_all rfl
  have aa : AllB ca := small_all rfl
  have p1 : T (splitN cA) = { data := #[65] } := by decide
  have p2 : T (splitV cA) = { data := #[98, 61, 99] } := by decide
  have p3 : splitE cA = 0 := by decide
  have p4 : T (splitN ca) = { data := #[] } := by decide
  have p5 : T (splitV ca) = { data := #[] } := by decide
  have p6 : splitE ca = 20 := by decide
  have H1 : Hid (∀ w : World, Calls Try.prog 9 #[.slice (some ⟨w.heap.size, 0, none⟩) 5 5] (w.alloc (.cells #[.int .u8 65, .int .u8 61, .int .u8 98, .int .u8 61, .int .u8 99] 5 (5, 6))) fun e w' =>
      e = .returned (.tuple #[.agg #[.string { data := #[65] }, .string { data := #[98, 61, 99] }], .int .i64 0]) ∧ Below (w.heap.size + 1) (w.alloc (.cells #[.int .u8 65, .int .u8 61, .int .u8 98, .int .u8 61, .int .u8 99] 5 (5, 6))) w') := Lib.hid fun w => by
    have := split_any (some ⟨w.heap.size, 0, none⟩) cA 5 5 (w.alloc (.cells (cA.map (Value.int .u8)).toArray 5 (5, 6))) (const_bytes cA aA w (5, 6)) rfl (by decide)
    unfold Splitted at this
    dsimp only [pv] at this
    rw [p1, p2, p3] at this
    refine this.mono fun e w' h => ⟨h.1, ?_⟩
    have h2 := h.2
    simp only [World.size_alloc] at h2
    exact h2
  have H2 : Hid (∀ (w : World) (g : Nat), w.heap.size = g → Calls Try.prog 9 #[.slice (some ⟨g, 0, none⟩) 3 3] (w.alloc (.cells #[.int .u8 97, .int .u8 61, .int .u8 98] 5 (3, 4))) fun e w' =>
      e = .returned (.tuple #[.agg #[.string { data := #[] }, .string { data := #[] }], .int .i64 20]) ∧ Below (w.heap.size + 1) (w.alloc (.cells #[.int .u8 97, .int .u8 61, .int .u8 98] 5 (3, 4))) w') := Lib.hid fun w g hg => by
    subst hg
    have := split_any (some ⟨w.heap.size, 0, none⟩) ca 3 3 (w.alloc (.cells (ca.map (Value.int .u8)).toArray 5 (3, 4))) (const_bytes ca aa w (3, 4)) rfl (by decide)
    unfold Splitted at this
    dsimp only [pv] at this
    rw [p4, p5, p6] at this
    refine this.mono fun e w' h => ⟨h.1, ?_⟩
    have h2 := h.2
    simp only [World.size_alloc] at h2
    exact h2
  have eq1 : ∀ w, (binOp .eql 24 (.agg #[.string { data := #[65] }, .string { data := #[98, 61, 99] }]) (.agg #[.string { data := #[65] }, .string { data := #[98, 61, 99] }])).run Try.prog w = .ok (.bool true) w := fun w => by
    have := eql_pair (n := [65]) (v := [98, 61, 99]) (m := [65]) (u := [98, 61, 99]) (small_all rfl) (small_all rfl) (small_all rfl) (small_all rfl) w
    rw [decide_eq_true (by exact ⟨rfl, rfl⟩)] at this
    exact this
  clear p1 p2 p3 p4 p5 p6 aA aa
  have kc2 : ∀ (w : World) (o : Obj) (C : Array Value) (n c : Nat), (convert 22 22 (.slice (some ⟨w.heap.size + 1, 0, none⟩) n c)).run Try.prog ((w.alloc o).alloc (.cells C 5)) = .ok (.slice (some ⟨w.heap.size + 1, 0, none⟩) n c) ((w.alloc o).alloc (.cells C 5 (C.size, C.size + 1))) := fun w o C n c => by
    have := kc (w.alloc o) C n c
    rw [World.size_alloc] at this
    exact this
  go_enter Try.func8, Try.ntmps8
  go_wp2_with (first
    | (go_at_call 9; (with_reducible refine (H1.out _).mono ?_); rintro e w2 ⟨rfl, hG⟩; have HG := Lib.hid (((Below.refl w.heap.size w).alloc (Nat.le_refl _) _).trans (hG.mono (Nat.le_succ _))); clear hG H1)
    | (go_at_call 9; (with_reducible refine (H2.out _ _ (World.size_alloc _ _)).mono ?_); rintro e w4 ⟨rfl, hG4⟩; have HG4 := Lib.hid (((HG.out.alloc HG.out.size _).alloc (by simp; have := HG.out.size; omega) _).trans (hG4.mono (by simp; have := HG.out.size; omega))); have R4 := Lib.hid (((Blk.new w2 [.string { data := #[65] }, .string { data := #[98, 61, 99] }] 24).alloc (.cells #[.int .u8 97, .int .u8 61, .int .u8 98] 5 (3, 4))).below hG4 (by simp; omega)); have c0 := fun o => (R4.out.alloc o).cell (i := 0) rfl; have c1 := fun o => (R4.out.alloc o).cell (i := 1) rfl; clear hG4 H2))
  go_ret
  exact ⟨rfl, HG4.out.alloc HG4.out.size _⟩
end Go.Proofs.Ytmimfojlcihhaaa.Ff
