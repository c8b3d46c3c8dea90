/-
  What 'Put' lays: an object's bytes; the program's.
-/
import Derived.Test.YtekmbgcijkdkfaaOc
namespace Go.Proofs.Ytekmbgcijkdkfaa.Od
open Go.ChangeShapes Go.WideShapes Go.ChangeAt Go.RowKit
open Bytes8 Blk8 Own8 OwnM OwnE LeA LeAl LeNum LeB LeP RefA RefB Ob Oc
set_option linter.unusedVariables false
set_option maxRecDepth 100000
set_option linter.unusedSimpArgs false

/-- Bytes of the call's own. -/
def Owned (m : List Int) (n : Nat) (w : World) (e : Ending) (w' : World) : Prop := ∃ A c, e = .returned (.slice A n c) ∧ Own w' w.heap.size A n c m ∧ Below w.heap.size w w'

theorem Own.base {w : World} {b b2 n c : Nat} {A : Option Addr} {l : List Int} (h : Own w b A n c l) (hb : b2 ≤ b) : Own w b2 A n c l := by
  obtain ⟨h1, h2, h3, h4, h5⟩ := h
  refine ⟨h1, h2, Nat.le_trans hb h3, h4, ?_⟩
  rcases h5 with h | ⟨g, cap, cur, e, h6, h7⟩
  · exact .inl h
  · exact .inr ⟨g, cap, cur, e, Nat.le_trans hb h6, h7⟩
theorem numbers2 (k s : Int) (w : World) (hk : 0 ≤ k ∧ k ≤ 18446744073709551615) (hs : 0 ≤ s ∧ s ≤ 18446744073709551615) :
    Calls Try.prog 50 #[.slice (some ⟨w.heap.size, 0, none⟩) 2 2] (w.alloc (.cells #[.int .u64 k, .int .u64 s] 22)) fun e w' => ∃ g2, e = .returned (.slice (some ⟨g2, 0, none⟩) 16 16) ∧ w.heap.size < g2 ∧ Row w' g2 (lowB k 8 ++ lowB s 8) ∧ Below w.heap.size w w' := by
  have h := numbers_any w.heap.size 2 2 [k, s] 22 (w.alloc (.cells #[.int .u64 k, .int .u64 s] 22)) (Blk.new w _ _) (fun v hv => by simp at hv; omega) rfl (by decide) (by decide)
  refine h.mono fun e w' ⟨g2, h1, h2, h3, h4⟩ => ⟨g2, h1, by simp at h2; omega, ?_, ((Below.refl w.heap.size w).alloc (Nat.le_refl _) _).trans (h4.mono (by simp))⟩
  rw [nums_cons, nums_one] at h3
  exact h3

/-- 'copy' of bytes into a row. -/
theorem wpList_copy_row {w : World} {ops : Array Oper} {rest : List Oper} {o : Oper} {a : Act} {Q : Exit → Act → World → Prop} (hgd : o.guard = none) (d s : Operand)
    (hop : o.op = .call { callee := .builtin .copy, args := #[d, s], argTypes := #[35, 35] })
    (g off : Nat) (cur : List Int) (D : Option Addr) (dLen dCap : Nat) (hd : a.eval d = .slice D dLen dCap) (S : Option Addr) (m c2 : Nat) (sl : List Int) (hs : a.eval s = .slice S m c2) (hb : Bytes w S sl) (hm : sl.length = m) (hD : 0 < m → D = some ⟨g, off, none⟩) (hfit : off + m ≤ cur.length) (hdl : m ≤ dLen) (hg : Row w g cur) (B : Nat) (w0 : World) (hbel : Below B w0 w) (hB : B ≤ g)
    (h : ∀ w', Row w' g (over cur off sl) → Below B w0 w' → wpList Try.prog ops Q rest (a.put o.dst (goInt m)) w') : wpList Try.prog ops Q (o :: rest) a w := by
  refine wpList_copy_splice hgd d s 35 35 hop 5 Try.underlying35 size8 D S dLen dCap m c2 hd hs g off (cur.map (Value.int .u8)) 5 hg (sl.map (Value.int .u8)) ?_ ?_ ?_ ?_ B w0 hbel hB ?_
  · rw [List.length_map, hm]; exact (Nat.min_eq_left hdl).symm
  · intro h0
    rw [List.length_map] at h0
    refine ⟨hD (by omega), ?_⟩
    obtain ⟨ad, e, hsrc⟩ := hb.source w (Below.refl _ _) h0
    refine ⟨ad, e, fun j v hj => ?_⟩
    rw [List.getElem?_map] at hj
    obtain ⟨x, hx, rfl⟩ := Option.map_eq_some_iff.1 hj
    exact hsrc j x hx
  · simp; omega
  · intro v hv; obtain ⟨x, _, rfl⟩ := List.mem_map.1 hv; rfl
  · intro w' h1 h2
    rw [List.length_map, hm]
    refine h w' ?_ h2
    have h1' := h1.out
    have e : splice (cur.map (Value.int .u8)) off (sl.map (Value.int .u8)) = (over cur off sl).map (Value.int .u8) := by simp [splice, over]
    rw [e] at h1'
    exact h1'

theorem put_laid (k : Int) (l : List Int) (m : Nat) (h0 : 1 ≤ k) (h1 : k ≤ 7) (hm : m = 16 + l.length + padN l.length) : over (over (List.replicate m 0) 0 (lowB k 8 ++ lowB (16 + (l.length : Int)) 8)) 16 l = objB k l := by
  subst hm
  have e1 : ((16 + l.length : Nat) : Int) = 16 + (l.length : Int) := by omega
  have hf : front k l.length = lowB k 8 ++ lowB (16 + (l.length : Int)) 8 := by unfold front; rw [low_kind k h0 h1, e1]
  have hfl := front_len k l.length
  rw [← hf]
  unfold objB
  generalize front k l.length = f at *
  unfold over
  rw [hfl, List.take_zero, List.nil_append, List.drop_replicate, List.take_append_of_le_length (by omega), List.take_of_length_le (by omega), List.drop_append, List.drop_of_length_le (by omega), hfl, List.drop_replicate, List.nil_append, List.append_assoc]
  congr 3
  omega
theorem put_no (k : Int) (A : Option Addr) (n cap : Nat) (w : World) (h : ¬ (1 ≤ k ∧ k ≤ 7)) :
    Calls Try.prog 30 #[.int .i64 k, .slice A n cap] w fun e w' => e = .returned (.slice none 0 0) ∧ w = w' := by
  have HK := Lib.hid (isKind_any k w)
  have hd : (decide (1 ≤ k) && decide (k ≤ 7)) = false := by simp; omega
  rw [hd] at HK
  clear hd
  go_enter Try.func30, Try.ntmps30
  go_wp2_with (go_at_call 48; (with_reducible refine HK.out.mono ?_); rintro e w' ⟨rfl, rfl⟩)
  go_ret
  exact ⟨rfl, rfl⟩

theorem align_at (z : Int) (n : Nat) (w : World) (hz : z = ((16 + n : Nat) : Int)) (hn : n ≤ 1000000) :
    Calls Try.prog 49 #[.int .u64 z] w fun e w' => e = .returned (.tuple #[.int .u64 ((16 + n + padN n : Nat) : Int), .bool true]) ∧ w = w' := by
  subst hz
  rw [← align_pad]
  exact align_yes _ w (by omega) (by omega)

set_option maxHeartbeats 2000000 in
theorem put_yes (k : Int) (A : Option Addr) (l : List Int) (n cap : Nat) (w : World) (h : 1 ≤ k ∧ k ≤ 7) (hb : Bytes w A l) (hL : l.length = n) (hn : n ≤ 1000000) :
    Calls Try.prog 30 #[.int .i64 k, .slice A n cap] w (Owned (objB k l) (16 + n + padN n) w) := by
  have HK := Lib.hid (isKind_any k w)
  have hd : (decide (1 ≤ k) && decide (k ≤ 7)) = true := by simp; omega
  rw [hd] at HK
  clear hd
  have HA := Lib.hid fun (z : Int) (hz : z = ((16 + n : Nat) : Int)) => align_at z n w hz hn
  have HL := Lib.hid hL
  have HN := Lib.hid fun (s : Int) (W : World) (hs : 0 ≤ s ∧ s ≤ 18446744073709551615) => numbers2 k s W (by omega) hs
  have hp := padN_le n
  obtain ⟨k1, k7⟩ := h
  obtain ⟨m, hm⟩ : ∃ m, m = 16 + n + padN n := ⟨_, rfl⟩
  have HM := Lib.hid hm
  rw [← hm] at HA ⊢
  have hm1 : 16 + n ≤ m ∧ m ≤ 1000100 := by omega
  have HP := Lib.hid (put_laid k l m k1 k7 (by rw [hL]; exact hm))
  rw [hL] at HP
  have HAll := Lib.hid (objB_all k1 k7 hb.1)
  have HLen := Lib.hid (show (objB k l).length = m by rw [objB_len, hL, hm])
  have HBy := Lib.hid hb
  have hcut : ∀ W : World, (Instr.slice 35 (.slice (some ⟨w.heap.size, 0, none⟩) m m) (some (.int .i64 16)) none none).run Try.prog W = .ok (.slice (cutA (some ⟨w.heap.size, 0, none⟩) m 16) (m - 16) (m - 16)) W := fun W : World => cut_l (some ⟨w.heap.size, 0, none⟩) m m 16 (by omega) W
  have HC := Lib.hid (show 0 < n → cutA (some ⟨w.heap.size, 0, none⟩) m 16 = some ⟨w.heap.size, 16, none⟩ from fun h => by rw [cutA_some, if_neg (by omega), Nat.zero_add])
  generalize cutA (some ⟨w.heap.size, 0, none⟩) m 16 = C at *
  have HO := Lib.hid (show (over (List.replicate m 0) 0 (lowB k 8 ++ lowB (16 + (n : Int)) 8)).length = m by rw [over_len _ _ _ (by simp [lowB_len]; omega)]; simp)
  clear hb hL hm hp
  go_enter Try.func30, Try.ntmps30
  go_wp2_with (first
    | (go_at_call 48; (with_reducible refine HK.out.mono ?_); rintro e w' ⟨rfl, rfl⟩)
    | (go_at_call 49; (with_reducible refine (HA.out _ (by omega)).mono ?_); rintro e w' ⟨rfl, rfl⟩)
    | (refine wpList_make_bytes _ rfl (.tmp 21) (.tmp 21) rfl .u64 .u64 m _ _ rfl rfl rfl rfl (by omega) ?_; intro w2 hrow hbel2; have HR := Lib.hid hrow; have HB2 := Lib.hid hbel2; clear hrow hbel2)
    | (go_at_call 50; (with_reducible refine (HN.out _ _ (by omega)).mono ?_); rintro e w3 ⟨g3, rfl, hg3, hrow3, hbel3⟩; have HR3 := Lib.hid hrow3; have HB3 := Lib.hid hbel3; clear hrow3 hbel3)
    | (refine wpList_copy_row rfl (.tmp 23) (.tmp 28) rfl w.heap.size 0 (List.replicate m 0) _ m m rfl _ 16 16 _ rfl (HR3.out.bytes ((lowB_all _ _).app (lowB_all _ _))) (by simp [lowB_len]) (fun _ => rfl) (by simp; omega) (by omega) (HR.out.below HB3.out HR.out.lt) w.heap.size w (HB2.out.trans (HB3.out.mono HB2.out.size)) (Nat.le_refl _) ?_; intro w4 hrow4 hbel4; have HR4 := Lib.hid hrow4; have HB4 := Lib.hid hbel4; clear hrow4 hbel4)
    | (refine wpList_copy_row rfl (.tmp 31) (.tmp 32) rfl w.heap.size 16 _ _ (m - 16) (m - 16) rfl A n cap l rfl (HBy.out.below HB4.out (Nat.le_refl _)) HL.out (fun h => HC.out h) (by rw [HO.out]; omega) (by omega) HR4.out w.heap.size w HB4.out (Nat.le_refl _) ?_; intro w5 hrow5 hbel5; have HR5 := Lib.hid hrow5; have HB5 := Lib.hid hbel5; clear hrow5 hbel5))
  go_ret
  have hx := HP.out
  have hy := HR5.out
  rw [hx] at hy
  exact ⟨some ⟨w.heap.size, 0, none⟩, m, rfl, own_row hy HAll.out (Nat.le_refl _) HLen.out (by unfold maxLen; omega), HB5.out⟩
end Go.Proofs.Ytekmbgcijkdkfaa.Od
