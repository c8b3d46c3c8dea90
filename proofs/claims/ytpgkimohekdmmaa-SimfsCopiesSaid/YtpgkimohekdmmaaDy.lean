/-
  Three directories apart from each other: what is done to one of them the others do not see.
-/
import Derived.Test.YtpgkimohekdmmaaDv
import Derived.Test.YtpgkimohekdmmaaDz
import Derived.Test.YtpgkimohekdmmaaStx
namespace Go.Proofs.Ytpgkimohekdmmaa.Dy
open Go.ChangeShapes Go.WideShapes Go.ChangeAt Go.RowKit
open Bytes8 Blk8 Own8 OwnA OwnM OwnE Fa Fo Ta Ua Kf Dm Dp Da Db Dc Dd Ds Dk Dl Df Dg Dn Dx Dh Di Dj Dw Du Dv Sfa Sfb Pv8 Do8 Keep8 Go.Maps
set_option linter.unusedVariables false
set_option linter.unusedSimpArgs false
set_option maxRecDepth 100000

theorem ownE_txts {w : World} {A : Option Addr} {n c : Nat} {vs : List (List Int)} (h : OwnE 9 1 w 0 A n c (cellsT vs)) : Txts w A vs := fun i hi => by
  have hl : i < (cellsT vs).length := by simpa [cellsT] using hi
  obtain ⟨g, e, _, e2, e3⟩ := h.cell hl
  refine ⟨g, 0, e, e2, ?_⟩
  rw [Nat.zero_add, e3]
  simp [cellsT, hi, List.getD]
def Apart (o1 o2 : Nat → Nat) : Prop := (∀ k, Mine o1 k → o2 k = 0) ∧ (∀ k, Mine o2 k → o1 k = 0)
theorem Apart.symm {o1 o2 : Nat → Nat} (h : Apart o1 o2) : Apart o2 o1 := ⟨h.2, h.1⟩
theorem Apart.off {o1 o2 : Nat → Nat} (h : Apart o1 o2) : ∀ k, o2 k ≠ 0 → ¬ Mine o1 k := fun k h0 hm => h0 (h.1 k hm)
theorem Apart.did {o1 o2 o1' : Nat → Nat} {n : Nat} (h : Apart o1 o2) (hf : ∀ k, o2 k ≠ 0 → k < n) (he : ∀ k, k < n → o1' k = o1 k) : Apart o1' o2 := by
  refine ⟨fun k hm => ?_, fun k hm => ?_⟩
  · rcases Nat.lt_or_ge k n with h1 | h1
    · refine h.1 k ?_
      unfold Mine at hm ⊢
      rwa [he k h1] at hm
    · rcases Nat.eq_zero_or_pos (o2 k) with e | e
      · exact e
      · have := hf k (by omega); omega
  · have h1 : k < n := hf k (by unfold Mine at hm; omega)
    rw [he k h1]; exact h.2 k hm

def Tri (B : Nat) (w : World) (g1 g2 g3 : Nat) (d1 d2 d3 : Dir) : Prop :=
  B ≤ w.heap.size ∧ ∃ o1 o2 o3, DirP w o1 g1 d1 ∧ DirP w o2 g2 d2 ∧ DirP w o3 g3 d3 ∧ Apart o1 o2 ∧ Apart o1 o3 ∧ Apart o2 o3 ∧ ∀ k, k < B → o1 k = 0 ∧ o2 k = 0 ∧ o3 k = 0
theorem Tri.rot {B : Nat} {w : World} {g1 g2 g3 : Nat} {d1 d2 d3 : Dir} (h : Tri B w g1 g2 g3 d1 d2 d3) : Tri B w g2 g3 g1 d2 d3 d1 := by
  obtain ⟨hB, o1, o2, o3, h1, h2, h3, h4, h5, h6, h7⟩ := h
  exact ⟨hB, o2, o3, o1, h2, h3, h1, h6, h4.symm, h5.symm, fun k hk => ⟨(h7 k hk).2.1, (h7 k hk).2.2, (h7 k hk).1⟩⟩
theorem Tri.below {B : Nat} {w w' : World} {g1 g2 g3 : Nat} {d1 d2 d3 : Dir} (h : Tri B w g1 g2 g3 d1 d2 d3) (hb : Below w.heap.size w w') : Tri B w' g1 g2 g3 d1 d2 d3 := by
  obtain ⟨hB, o1, o2, o3, h1, h2, h3, h4⟩ := h
  exact ⟨Nat.le_trans hB hb.size, o1, o2, o3, h1.below hb, h2.below hb, h3.below hb, h4⟩
theorem Tri.did {B : Nat} {w w' : World} {g1 g2 g3 : Nat} {d2 d3 d1' : Dir} {o1 o2 o3 : Nat → Nat} (hB : B ≤ w.heap.size) (h2 : DirP w o2 g2 d2) (h3 : DirP w o3 g3 d3) (h4 : Apart o1 o2) (h5 : Apart o1 o3) (h6 : Apart o2 o3) (h7 : ∀ k, k < B → o1 k = 0 ∧ o2 k = 0 ∧ o3 k = 0) (h : Did w o1 g1 d1' w') : Tri B w' g1 g2 g3 d1' d2 d3 ∧ Below B w w' := by
  obtain ⟨o1', h8, h9, h10⟩ := h
  refine ⟨⟨Nat.le_trans hB h9.size, o1', o2, o3, h8, h2.keptF h9 h4.off, h3.keptF h9 h5.off, h4.did h2.foot h10, h5.did h3.foot h10, h6, fun k hk => ⟨by rw [h10 k (by omega)]; exact (h7 k hk).1, (h7 k hk).2⟩⟩, h9.below hB fun k hm => ?_⟩
  rcases Nat.lt_or_ge k B with h11 | h11
  · have := (h7 k h11).1
    unfold Mine at hm; omega
  · exact h11
/-- A call on the first one. -/
theorem Tri.call {B : Nat} {w : World} {g1 g2 g3 : Nat} {d1 d2 d3 d1' : Dir} {f : FuncId} {args : Array Value} {v : Value} (h : Tri B w g1 g2 g3 d1 d2 d3) (hc : ∀ own, DirP w own g1 d1 → (∀ k, k < B → own k = 0) → Calls Try.prog f args w fun e w' => e = .returned v ∧ Did w own g1 d1' w') :
    Calls Try.prog f args w fun e w' => e = .returned v ∧ Tri B w' g1 g2 g3 d1' d2 d3 ∧ Below B w w' := by
  obtain ⟨hB, o1, o2, o3, h1, h2, h3, h4, h5, h6, h7⟩ := h
  exact (hc o1 h1 fun k hk => (h7 k hk).1).mono fun e w' ⟨he, hd⟩ => ⟨he, Tri.did hB h2 h3 h4 h5 h6 h7 hd⟩

theorem drop_t (w : World) (B g1 g2 g3 : Nat) (d1 d2 d3 : Dir) (h : Tri B w g1 g2 g3 d1 d2 d3) (n : List Int) (hA : AllB n) (hl : n.length ≤ 1000) (hp : d1.past.length < 1000000) :
    Calls Try.prog 13 #[.pointer (some ⟨g1, 0, none⟩), .string (T n)] w fun e w' => e = .returned (.int .i64 (d1.drop n).1) ∧ Tri B w' g1 g2 g3 (d1.drop n).2 d2 d3 ∧ Below B w w' :=
  h.call fun own h1 _ => drop_any w own g1 d1 h1 n hA (by unfold maxLen; omega) hp
theorem rename_t (w : World) (B g1 g2 g3 : Nat) (d1 d2 d3 : Dir) (h : Tri B w g1 g2 g3 d1 d2 d3) (o n : List Int) (hA : AllB o) (hl : o.length ≤ 1000) (hA2 : AllB n) (hl2 : n.length ≤ 1000) (hp : d1.past.length < 1000000) :
    Calls Try.prog 19 #[.pointer (some ⟨g1, 0, none⟩), .string (T o), .string (T n)] w fun e w' => e = .returned (.int .i64 (d1.rename o n).1) ∧ Tri B w' g1 g2 g3 (d1.rename o n).2 d2 d3 ∧ Below B w w' :=
  h.call fun own h1 _ => rename_any w own g1 d1 h1 o n hA (by unfold maxLen; omega) hA2 (by unfold maxLen; omega) hp
theorem write_t (w0 w : World) (B g1 g2 g3 : Nat) (d1 d2 d3 : Dir) (h : Tri B w0 g1 g2 g3 d1 d2 d3) (hb0 : Below w0.heap.size w0 w) (n : List Int) (hA : AllB n) (hl : n.length ≤ 1000) (p : Int) (A : Option Addr) (m cb : Nat) (b : List Int) (hb : Bytes w A b) (hm : b.length = m) (hmx : m ≤ maxLen) (hwh : ∀ k off, A = some ⟨k, off, none⟩ → 0 < b.length → k < B ∨ w0.heap.size ≤ k) (hp1 : -9223372036854775808 ≤ p) (hp2 : p ≤ 9223372036854775807) :
    Calls Try.prog 15 #[.pointer (some ⟨g1, 0, none⟩), .string (T n), .int .i64 p, .slice A m cb] w fun e w' => e = .returned (.int .i64 (d1.write n p b).1) ∧ Tri B w' g1 g2 g3 (d1.write n p b).2 d2 d3 ∧ Below B w w' := by
  obtain ⟨hB, o1, o2, o3, h1, h2, h3, h4, h5, h6, h7⟩ := h
  have hs := hb0.size
  refine (write_any w o1 g1 d1 (h1.below hb0) n hA (by unfold maxLen; omega) p A m cb b hb hm hmx (fun k off e h0 hmn => ?_) hp1 hp2).mono fun e w' ⟨he, hd⟩ => ⟨he, Tri.did (Nat.le_trans hB hs) (h2.below hb0) (h3.below hb0) h4 h5 h6 h7 hd⟩
  unfold Mine at hmn
  rcases hwh k off e h0 with h8 | h8
  · have := (h7 k h8).1; omega
  · have := own_fresh h1.foot h8; omega
theorem crash_nil_t (w : World) (B g1 g2 g3 : Nat) (d1 d2 d3 : Dir) (h : Tri B w g1 g2 g3 d1 d2 d3) (dirs : Int) (hd1 : -9223372036854775808 ≤ dirs) (hd2 : dirs ≤ 9223372036854775807) :
    Calls Try.prog 20 #[.pointer (some ⟨g1, 0, none⟩), .slice none 0 0, .int .i64 dirs] w fun e w' => e = .returned (.tuple #[]) ∧ Tri B w' g1 g2 g3 (d1.crash 0 (fun _ => false) dirs) d2 d3 ∧ Below B w w' :=
  h.call fun own h1 _ => Dx.crash_any w own g1 d1 h1 none 0 0 _ (fun i hi => absurd hi (by omega)) (Nat.le_refl _) (Nat.zero_le _) (fun b off e => by cases e) dirs hd1 hd2
theorem crash_keep_t (w0 w : World) (B g1 g2 g3 : Nat) (d1 d2 d3 : Dir) (h : Tri B w0 g1 g2 g3 d1 d2 d3) (hb0 : Below w0.heap.size w0 w) (n : Nat) (A : Option Addr) (c : Nat) (ho : OwnE 4 1 w w0.heap.size A 64 c (bitsV n 64)) (dirs : Int) (hd1 : -9223372036854775808 ≤ dirs) (hd2 : dirs ≤ 9223372036854775807) :
    Calls Try.prog 20 #[.pointer (some ⟨g1, 0, none⟩), .slice A 64 c, .int .i64 dirs] w fun e w' => e = .returned (.tuple #[]) ∧ Tri B w' g1 g2 g3 (d1.crash 64 (fun i => n.testBit i) dirs) d2 d3 ∧ Below B w w' := by
  obtain ⟨hB, o1, o2, o3, h1, h2, h3, h4, h5, h6, h7⟩ := h
  have hs := hb0.size
  refine (Dx.crash_any w o1 g1 d1 (h1.below hb0) A 64 c _ (keep_bools ho) (ownE_cap ho) (ownE_max ho) (fun b off e hmn => ?_) dirs hd1 hd2).mono fun e w' ⟨he, hd⟩ => ⟨he, Tri.did (Nat.le_trans hB hs) (h2.below hb0) (h3.below hb0) h4 h5 h6 h7 hd⟩
  have h8 := (OwnE.blk ho (by rw [e]; rfl : ownB A = some b)).1
  have := own_fresh h1.foot h8
  unfold Mine at hmn
  omega
theorem all_t (w : World) (B g1 g2 g3 : Nat) (d1 d2 d3 : Dir) (h : Tri B w g1 g2 g3 d1 d2 d3) (n : List Int) (hA : AllB n) (hl : n.length ≤ 1000) :
    Calls Try.prog 22 #[.pointer (some ⟨g1, 0, none⟩), .string (T n)] w fun e w' => ∃ A m, e = .returned (.tuple #[.slice A (d1.all n).2.length m, .int .i64 (d1.all n).1]) ∧ Bytes w' A (d1.all n).2 ∧ Tri B w' g1 g2 g3 d1 d2 d3 ∧ Below w.heap.size w w' := by
  have h' := h
  obtain ⟨hB, o1, o2, o3, h1, _⟩ := h
  exact (all_any w o1 g1 d1 h1 n hA (by unfold maxLen; omega)).mono fun e w' ⟨A, m, h3, h4, _, h5⟩ => ⟨A, m, h3, h4, h'.below h5, h5⟩
theorem names_t (w : World) (B g1 g2 g3 : Nat) (d1 d2 d3 : Dir) (h : Tri B w g1 g2 g3 d1 d2 d3) :
    Calls Try.prog 14 #[.pointer (some ⟨g1, 0, none⟩)] w fun e w' => ∃ A c, e = .returned (.slice A d1.names.length c) ∧ Txts w' A d1.names ∧ Tri B w' g1 g2 g3 d1 d2 d3 ∧ Below w.heap.size w w' := by
  have h' := h
  obtain ⟨hB, o1, o2, o3, h1, _⟩ := h
  exact (names_any w o1 g1 d1 h1).mono fun e w' ⟨A, c, h5, h6, _, h8⟩ => ⟨A, c, h5, ownE_txts h6, h'.below h8, h8⟩
theorem Tri.good {B : Nat} {w : World} {g1 g2 g3 : Nat} {d1 d2 d3 : Dir} (h : Tri B w g1 g2 g3 d1 d2 d3) : Ua.Good d1 := by
  obtain ⟨hB, o1, o2, o3, h1, _⟩ := h
  exact h1.good
/-- Two copies of one directory. -/
theorem copies_tri {w w2 w3 : World} {B gf ga gb : Nat} {d : Dir} {own oa ob : Nat → Nat} (hB : B ≤ w.heap.size) (h0 : ∀ k, k < B → own k = 0) (hf : DirP w own gf d) (b2 : Below w.heap.size w w2) (ha : DirP w2 oa ga d) (ea : ∀ k, oa k ≠ 0 → w.heap.size ≤ k ∨ (oa k = 2 ∧ own k = 2)) (b3 : Below w2.heap.size w2 w3) (hb : DirP w3 ob gb d) (eb : ∀ k, ob k ≠ 0 → w2.heap.size ≤ k ∨ (ob k = 2 ∧ own k = 2)) :
    Tri B w3 ga gb gf d d d := by
  have ff := hf.foot
  have fa := ha.foot
  have s2 := b2.size
  have s3 := b3.size
  have hapf : Apart oa own := ⟨fun k hm => by
    unfold Mine at hm
    rcases ea k (by omega) with h | h
    · exact own_fresh ff h
    · omega, fun k hm => by
    unfold Mine at hm
    have := ff k (by omega)
    rcases Nat.eq_zero_or_pos (oa k) with e | e
    · exact e
    · rcases ea k (by omega) with h | h <;> omega⟩
  have hapb : Apart oa ob := ⟨fun k hm => by
    unfold Mine at hm
    have h1 := fa k (by omega)
    rcases Nat.eq_zero_or_pos (ob k) with e | e
    · exact e
    · rcases eb k (by omega) with h | h
      · omega
      · have := ff k (by omega)
        rcases ea k (by omega) with h2 | h2 <;> omega, fun k hm => by
    unfold Mine at hm
    rcases eb k (by omega) with h | h
    · exact own_fresh fa h
    · omega⟩
  have hbf : Apart ob own := ⟨fun k hm => by
    unfold Mine at hm
    rcases eb k (by omega) with h | h
    · exact own_fresh ff (by omega)
    · omega, fun k hm => by
    unfold Mine at hm
    have := ff k (by omega)
    rcases Nat.eq_zero_or_pos (ob k) with e | e
    · exact e
    · rcases eb k (by omega) with h | h <;> omega⟩
  refine ⟨by omega, oa, ob, own, ha.below b3, hb, (hf.below b2).below b3, hapb, hapf, hbf, fun k hk => ⟨?_, ?_, h0 k hk⟩⟩
  · rcases Nat.eq_zero_or_pos (oa k) with e | e
    · exact e
    · have := h0 k hk
      rcases ea k (by omega) with h | h <;> omega
  · rcases Nat.eq_zero_or_pos (ob k) with e | e
    · exact e
    · have := h0 k hk
      rcases eb k (by omega) with h | h <;> omega
end Go.Proofs.Ytpgkimohekdmmaa.Dy
