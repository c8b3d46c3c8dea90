/-
  The program's directory, all of its blocks new since the law began; the law's example.
-/
import Derived.Test.YtpgkimohekdmmaaDg
import Derived.Test.YtpgkimohekdmmaaDn
import Derived.Test.YtpgkimohekdmmaaDx
import Derived.Test.YtpgkimohekdmmaaUc
namespace Go.Proofs.Ytpgkimohekdmmaa.Dh
open Go.ChangeShapes Go.WideShapes Go.ChangeAt Go.RowKit
open Bytes8 Blk8 Own8 OwnA OwnM OwnE Fa Fo Ta Ua Kf Dm Dp Da Db Dc Dd Ds Dk Dl Df Dg Dn Dx Sfa Sfb Pv8 Do8 Go.Maps
set_option linter.unusedVariables false
set_option linter.unusedSimpArgs false
set_option maxRecDepth 100000

def DirB (B : Nat) (w : World) (g : Nat) (d : Dir) : Prop := B ≤ w.heap.size ∧ ∃ own, DirP w own g d ∧ ∀ k, k < B → own k = 0
theorem DirB.did {B : Nat} {w w' : World} {g : Nat} {d' : Dir} {own : Nat → Nat} (hB : B ≤ w.heap.size) (h0 : ∀ k, k < B → own k = 0) (h : Did w own g d' w') : DirB B w' g d' ∧ Below B w w' := by
  obtain ⟨own', h1, h2, h3⟩ := h
  have hm : ∀ k, Mine own k → B ≤ k := fun k e => by
    rcases Nat.lt_or_ge k B with h4 | h4
    · have := h0 k h4
      unfold Mine at e; omega
    · exact h4
  exact ⟨⟨Nat.le_trans hB h2.size, own', h1, fun k hk => by rw [h3 k (by omega)]; exact h0 k hk⟩, h2.below hB hm⟩
theorem DirB.below {B : Nat} {w w' : World} {g : Nat} {d : Dir} (h : DirB B w g d) (hb : Below w.heap.size w w') : DirB B w' g d := by
  obtain ⟨h1, own, h2, h3⟩ := h
  exact ⟨Nat.le_trans h1 hb.size, own, h2.below hb, h3⟩

theorem new_b (w : World) (B : Nat) (hB : B ≤ w.heap.size) (room : Nat) (h1 : 4096 ≤ room) (h2 : room ≤ 1048576) :
    Calls Try.prog 9 #[.int .i64 (room : Int)] w fun e w' => ∃ g, e = .returned (.tuple #[.pointer (some ⟨g, 0, none⟩), .int .i64 0]) ∧ DirB B w' g (Dir.new room) ∧ Below B w w' := by
  refine (new_any w (room : Int)).mono fun e w' h => ?_
  rw [if_neg (by omega)] at h
  obtain ⟨g, he, own, h3, h4, h5⟩ := h
  exact ⟨g, he, ⟨Nat.le_trans hB h5.size, own, h3, fun k hk => h4 k (by omega)⟩, h5.mono hB⟩
theorem make_b (w : World) (B : Nat) (g : Nat) (d : Dir) (h : DirB B w g d) (n : List Int) (hA : AllB n) (hl : n.length ≤ 1000) (hm : d.made < 1000000) (hp : d.past.length < 1000000) :
    Calls Try.prog 12 #[.pointer (some ⟨g, 0, none⟩), .string (T n)] w fun e w' => e = .returned (.int .i64 (d.make n).1) ∧ DirB B w' g (d.make n).2 ∧ Below B w w' := by
  obtain ⟨hB, own, h1, h2⟩ := h
  exact (make_any w own g d h1 n hA (by unfold maxLen; omega) hm hp).mono fun e w' ⟨h3, h4⟩ => ⟨h3, DirB.did hB h2 h4⟩
theorem drop_b (w : World) (B : Nat) (g : Nat) (d : Dir) (h : DirB B w g d) (n : List Int) (hA : AllB n) (hl : n.length ≤ 1000) (hp : d.past.length < 1000000) :
    Calls Try.prog 13 #[.pointer (some ⟨g, 0, none⟩), .string (T n)] w fun e w' => e = .returned (.int .i64 (d.drop n).1) ∧ DirB B w' g (d.drop n).2 ∧ Below B w w' := by
  obtain ⟨hB, own, h1, h2⟩ := h
  exact (drop_any w own g d h1 n hA (by unfold maxLen; omega) hp).mono fun e w' ⟨h3, h4⟩ => ⟨h3, DirB.did hB h2 h4⟩
theorem syncDir_b (w : World) (B : Nat) (g : Nat) (d : Dir) (h : DirB B w g d) :
    Calls Try.prog 17 #[.pointer (some ⟨g, 0, none⟩)] w fun e w' => e = .returned (.int .i64 d.syncDir.1) ∧ DirB B w' g d.syncDir.2 ∧ Below B w w' := by
  obtain ⟨hB, own, h1, h2⟩ := h
  exact (syncDir_any w own g d h1).mono fun e w' ⟨h3, h4⟩ => ⟨h3, DirB.did hB h2 h4⟩
theorem fuse_b (w : World) (B : Nat) (g : Nat) (d : Dir) (h : DirB B w g d) (n : Int) (h1 : -9223372036854775808 ≤ n) (h2 : n ≤ 9223372036854775807) :
    Calls Try.prog 24 #[.pointer (some ⟨g, 0, none⟩), .int .i64 n] w fun e w' => e = .returned (.tuple #[]) ∧ DirB B w' g (d.setFuse n) ∧ Below B w w' := by
  obtain ⟨hB, own, h3, h4⟩ := h
  exact (fuse_any w own g d h3 n h1 h2).mono fun e w' ⟨h5, h6⟩ => ⟨h5, DirB.did hB h4 h6⟩
theorem off_b (w : World) (B : Nat) (g : Nat) (d : Dir) (h : DirB B w g d) :
    Calls Try.prog 25 #[.pointer (some ⟨g, 0, none⟩)] w fun e w' => e = .returned (.bool d.off) ∧ w = w' := by
  obtain ⟨hB, own, h3, h4⟩ := h
  exact off_any w own g d h3
theorem free_b (w : World) (B : Nat) (g : Nat) (d : Dir) (h : DirB B w g d) :
    Calls Try.prog 10 #[.pointer (some ⟨g, 0, none⟩)] w fun e w' => e = .returned (.int .i64 (d.free : Nat)) ∧ DirB B w' g d ∧ Below B w w' := by
  have h' := h
  obtain ⟨hB, own, h3, h4⟩ := h
  exact (free_any w own g d h3).mono fun e w' ⟨h5, h6⟩ => ⟨h5, h'.below h6, h6.mono hB⟩
theorem names_b (w : World) (B : Nat) (g : Nat) (d : Dir) (h : DirB B w g d) :
    Calls Try.prog 14 #[.pointer (some ⟨g, 0, none⟩)] w fun e w' => ∃ A c, e = .returned (.slice A d.names.length c) ∧ OwnE 9 1 w' 0 A d.names.length c (cellsT d.names) ∧ DirB B w' g d ∧ Below B w w' := by
  have h' := h
  obtain ⟨hB, own, h3, h4⟩ := h
  exact (names_any w own g d h3).mono fun e w' ⟨A, c, h5, h6, _, h8⟩ => ⟨A, c, h5, h6, h'.below h8, h8.mono hB⟩
theorem crash_b (w : World) (B : Nat) (g : Nat) (d : Dir) (h : DirB B w g d) (a : Option Addr) (L cL : Nat) (K : Nat → Bool) (hK : InBools w a L K) (hL : L ≤ cL) (hL2 : cL ≤ maxLen) (hoff : ∀ own b off, DirP w own g d → a = some ⟨b, off, none⟩ → ¬ Mine own b) (dirs : Int) (hd1 : -9223372036854775808 ≤ dirs) (hd2 : dirs ≤ 9223372036854775807) :
    Calls Try.prog 20 #[.pointer (some ⟨g, 0, none⟩), .slice a L cL, .int .i64 dirs] w fun e w' => e = .returned (.tuple #[]) ∧ DirB B w' g (d.crash L K dirs) ∧ Below B w w' := by
  obtain ⟨hB, own, h1, h2⟩ := h
  exact (Dx.crash_any w own g d h1 a L cL K hK hL hL2 (fun b off e => hoff own b off h1 e) dirs hd1 hd2).mono fun e w' ⟨h3, h4⟩ => ⟨h3, DirB.did hB h2 h4⟩
theorem crash_nil (w : World) (B : Nat) (g : Nat) (d : Dir) (h : DirB B w g d) (dirs : Int) (hd1 : -9223372036854775808 ≤ dirs) (hd2 : dirs ≤ 9223372036854775807) :
    Calls Try.prog 20 #[.pointer (some ⟨g, 0, none⟩), .slice none 0 0, .int .i64 dirs] w fun e w' => e = .returned (.tuple #[]) ∧ DirB B w' g (d.crash 0 (fun _ => false) dirs) ∧ Below B w w' :=
  crash_b w B g d h none 0 0 _ (fun i hi => absurd hi (by omega)) (Nat.le_refl _) (Nat.zero_le _) (fun own b off _ e => by cases e) dirs hd1 hd2

theorem T_a : ({ data := #[97] } : ByteArray) = T [97] := by decide
theorem nm_a : nmOk [97] = true := by decide
theorem all_a : AllB [97] := by unfold AllB; decide

theorem first_plain : ((Dir.new 4096).make [97]).1 = 0 ∧ ((Dir.new 4096).make [97]).2.names.length = 1 ∧ (((Dir.new 4096).make [97]).2.crash 0 (fun _ => false) 0).names.length = 0 := by
  obtain ⟨h1, h2, _⟩ := made_make (made_new 4096) (by decide) nm_a rfl
  exact ⟨h1, names_on h2, by rw [made_crash h2]; rfl⟩

set_option maxHeartbeats 1000000 in
theorem first_any (w : World) :
    Calls Try.prog 8 #[] w fun e w' => e = .returned (.bool true) ∧ Below w.heap.size w w' := by
  obtain ⟨p1, p2, p3⟩ := first_plain
  have HT := Lib.hid T_a
  have HN := Lib.hid fun w1 (h : w.heap.size ≤ w1.heap.size) => new_b w1 w.heap.size h 4096 (by omega) (by omega)
  have HM := Lib.hid fun w1 g (h : DirB w.heap.size w1 g (Dir.new 4096)) => make_b w1 w.heap.size g _ h [97] all_a (by decide) (by show 0 < _; omega) (by show 0 < _; omega)
  rw [p1] at HM
  rw [← T_a] at HM
  have HNm := Lib.hid fun w1 g (h : DirB w.heap.size w1 g ((Dir.new 4096).make [97]).2) => names_b w1 w.heap.size g _ h
  rw [p2] at HNm
  have HC := Lib.hid fun w1 g (h : DirB w.heap.size w1 g ((Dir.new 4096).make [97]).2) => crash_nil w1 w.heap.size g _ h 0 (by omega) (by omega)
  have HNc := Lib.hid fun w1 g (h : DirB w.heap.size w1 g (((Dir.new 4096).make [97]).2.crash 0 (fun _ => false) 0)) => names_b w1 w.heap.size g _ h
  rw [p3] at HNc
  clear p1 p2 p3
  have e46 : ((4096 : Nat) : Int) = 4096 := rfl
  rw [e46] at HN
  clear e46
  go_enter Try.func8, Try.ntmps8
  go_wp2_with (first
    | (go_at_call 9; (with_reducible refine (HN.out w (Nat.le_refl _)).mono ?_); rintro e w1 ⟨g, rfl, hD1, hb1⟩; have HD1 := Lib.hid hD1; clear hD1)
    | (go_at_call 12; (with_reducible refine (HM.out w1 g HD1.out).mono ?_); rintro e w2 ⟨rfl, hD2, hb2⟩; have HD2 := Lib.hid hD2; clear hD2)
    | (go_at_call 14; (with_reducible refine (HNm.out w2 g HD2.out).mono ?_); rintro e w3 ⟨A3, c3, rfl, _, hD3, hb3⟩; have HD3 := Lib.hid hD3; clear hD3)
    | (go_at_call 20; (with_reducible refine (HC.out w3 g HD3.out).mono ?_); rintro e w4 ⟨rfl, hD4, hb4⟩; have HD4 := Lib.hid hD4; clear hD4)
    | (go_at_call 14; (with_reducible refine (HNc.out w4 g HD4.out).mono ?_); rintro e w5 ⟨A5, c5, rfl, _, hD5, hb5⟩))
  go_ret
  exact ⟨rfl, (((hb1.trans hb2).trans hb3).trans hb4).trans hb5⟩
end Go.Proofs.Ytpgkimohekdmmaa.Dh
