/-
  The order of pairs: plain; what Less and compare answer.
-/
import Derived.Test.YtmimfojlcihhaaaFf
import Derived.Lib.Bytealg
import Derived.Shelf.SlSortCmp.QuietGrown
namespace Go.Proofs.Ytmimfojlcihhaaa.Fo
open Go.ChangeShapes Go.WideShapes Go.ChangeAt Go.RowKit
open Bytes8 Blk8 Fa Fb Fc
set_option linter.unusedVariables false
set_option linter.unusedSimpArgs false

/-- Numbers one by one: which row is ahead. -/
def ltL : List Int → List Int → Bool
  | _, [] => false
  | [], _ :: _ => true
  | a :: r, b :: q => if a < b then true else if b < a then false else ltL r q
theorem ltL_irrefl : ∀ l, ltL l l = false
  | [] => rfl
  | a :: l => by simp [ltL, ltL_irrefl l]
theorem ltL_trans : ∀ a b c, ltL a b = true → ltL b c = true → ltL a c = true
  | [], [], _, h, _ => by simp [ltL] at h
  | _ :: _, [], _, h, _ => by simp [ltL] at h
  | _, _ :: _, [], _, h => by simp [ltL] at h
  | [], _ :: _, _ :: _, _, _ => rfl
  | x :: a, y :: b, z :: c, h, k => by
    unfold ltL at h k ⊢
    by_cases h1 : x < y
    · by_cases k1 : y < z
      · rw [if_pos (by omega)]
      · rw [if_neg k1] at k
        by_cases k2 : z < y
        · rw [if_pos k2] at k; cases k
        · rw [if_pos (by omega)]
    · rw [if_neg h1] at h
      by_cases h2 : y < x
      · rw [if_pos h2] at h; cases h
      · rw [if_neg h2] at h
        by_cases k1 : y < z
        · rw [if_pos (by omega)]
        · rw [if_neg k1] at k
          by_cases k2 : z < y
          · rw [if_pos k2] at k; cases k
          · rw [if_neg k2] at k
            rw [if_neg (by omega), if_neg (by omega)]
            exact ltL_trans a b c h k
theorem ltL_total : ∀ a b, ltL a b = false → ltL b a = false → a = b
  | [], [], _, _ => rfl
  | [], _ :: _, h, _ => by simp [ltL] at h
  | _ :: _, [], _, k => by simp [ltL] at k
  | x :: a, y :: b, h, k => by
    unfold ltL at h k
    by_cases h1 : x < y
    · rw [if_pos h1] at h; cases h
    · by_cases h2 : y < x
      · rw [if_pos h2] at k; cases k
      · rw [if_neg h1, if_neg h2] at h
        rw [if_neg h2, if_neg h1] at k
        have : x = y := by omega
        rw [this, ltL_total a b h k]
theorem ltL_asymm (a b : List Int) (h : ltL a b = true) : ltL b a = false := by
  cases k : ltL b a with
  | false => rfl
  | true => rw [← ltL_irrefl a, ltL_trans a b a h k]
theorem u8_lt {x y : Int} (hx : 0 ≤ x ∧ x < 256) (hy : 0 ≤ y ∧ y < 256) : (x.toNat.toUInt8 < y.toNat.toUInt8) = (x < y) := by
  rw [UInt8.lt_iff_toNat_lt]
  simp
  omega
theorem u8_eq {x y : Int} (hx : 0 ≤ x ∧ x < 256) (hy : 0 ≤ y ∧ y < 256) : (x.toNat.toUInt8 == y.toNat.toUInt8) = decide (x = y) := by
  by_cases h : x = y
  · simp [h]
  · have : x.toNat.toUInt8 ≠ y.toNat.toUInt8 := fun e => h (by
      have := congrArg UInt8.toNat e
      simp at this
      omega)
    simp only [beq_eq_false_iff_ne.2 this, h, decide_false]
theorem less_nums : ∀ l m, AllB l → AllB m → Op.bytesLess (l.map fun n => n.toNat.toUInt8) (m.map fun n => n.toNat.toUInt8) = ltL l m
  | [], [], _, _ => rfl
  | [], _ :: _, _, _ => rfl
  | _ :: _, [], _, _ => rfl
  | x :: l, y :: m, hl, hm => by
    have ih := less_nums l m (fun n hn => hl n (by simp [hn])) (fun n hn => hm n (by simp [hn]))
    have hx := hl x (by simp)
    have hy := hm y (by simp)
    simp only [List.map_cons, Op.bytesLess, ltL, u8_lt hx hy, u8_eq hx hy, ih]
    by_cases h1 : x < y
    · simp [h1]
    · by_cases h2 : y < x
      · have h3 : ¬ x = y := by omega
        simp [h1, h2, h3]
      · have h3 : x = y := by omega
        simp [h3]
theorem comp_nums : ∀ l m, AllB l → AllB m → decide (Lib.compareBytes (l.map fun n => n.toNat.toUInt8) (m.map fun n => n.toNat.toUInt8) < 0) = ltL l m
  | [], [], _, _ => rfl
  | [], _ :: _, _, _ => rfl
  | _ :: _, [], _, _ => rfl
  | x :: l, y :: m, hl, hm => by
    have ih := comp_nums l m (fun n hn => hl n (by simp [hn])) (fun n hn => hm n (by simp [hn]))
    have hx := hl x (by simp)
    have hy := hm y (by simp)
    simp only [List.map_cons, Lib.compareBytes, ltL, u8_lt hx hy, u8_lt hy hx]
    by_cases h1 : x < y
    · simp [h1]
    · by_cases h2 : y < x
      · simp [h1, h2]
      · simp only [if_neg h1, if_neg h2]; exact ih
def lessP (n v m u : List Int) : Bool := ltL (pay n v) (pay m u)
/-- What compare answers. -/
def cmpI (n v m u : List Int) : Int := Lib.compareBytes (T (pay n v)).data.toList (T (pay m u)).data.toList
theorem cmpI_lt {n v m u : List Int} (hn : AllB n) (hv : AllB v) (hm : AllB m) (hu : AllB u) : decide (cmpI n v m u < 0) = lessP n v m u := by
  unfold cmpI lessP
  rw [← ByteArray.toList_eq, ← ByteArray.toList_eq, T_toList, T_toList]
  exact comp_nums _ _ (pay_all hn hv) (pay_all hm hu)
theorem bytesLess_T {l m : List Int} (hl : AllB l) (hm : AllB m) : Op.bytesLess (T l).toList (T m).toList = ltL l m := by
  rw [T_toList, T_toList]; exact less_nums l m hl hm

theorem blcompare_any (s t : ByteArray) (w : World) :
    Calls Try.prog 49 #[.string s, .string t] w fun e w' => e = .returned (.int .i64 (Lib.compareBytes s.data.toList t.data.toList)) ∧ w = w' := by
  go_enter Try.func49, Try.ntmps49
  go_wp2
  rw [run_callFunc_extern Try.func65 (by kernel_rfl) (by kernel_rfl) (by kernel_rfl) (e := Extern.BytealgCompare.compare) (by kernel_rfl), Lib.run_compareString]
  simp only [Result.andThen]
  rw [Oper.upon_value]
  go_wp2
  go_ret
  exact ⟨rfl, rfl⟩
theorem scompare_any (s t : ByteArray) (w : World) :
    Calls Try.prog 43 #[.string s, .string t] w fun e w' => e = .returned (.int .i64 (Lib.compareBytes s.data.toList t.data.toList)) ∧ w = w' := by
  have HC := Lib.hid fun w => blcompare_any s t w
  generalize Lib.compareBytes s.data.toList t.data.toList = c at *
  go_enter Try.func43, Try.ntmps43
  go_wp2_with (go_at_call 49; (with_reducible refine (HC.out _).mono ?_); rintro e w' ⟨rfl, rfl⟩)
  go_ret
  exact ⟨rfl, rfl⟩

theorem scompare_grew (s t : ByteArray) (w : World) :
    Calls Try.prog 43 #[.string s, .string t] w fun e w' => e = .returned (.int .i64 (Lib.compareBytes s.data.toList t.data.toList)) ∧ Grew w w' :=
  (scompare_any s t w).mono (by rintro e w' ⟨rfl, rfl⟩; exact ⟨rfl, Grew.refl _⟩)
theorem payload_grew (n v : List Int) (h : n.length + v.length ≤ 900000) (w : World) :
    Calls Try.prog 32 #[pv n v] w fun e w' => e = .returned (.string (T (pay n v))) ∧ Grew w w' :=
  (payload_any n v h w).mono (by rintro e w' ⟨rfl, rfl⟩; exact ⟨rfl, Grew.boxed _ _⟩)
theorem rpayload_grew (n v : List Int) (h : n.length + v.length ≤ 900000) (w : World) :
    Calls Try.prog 19 #[pv n v] w fun e w' => e = .returned (.string (T (pay n v))) ∧ Grew w w' :=
  (rpayload_any n v h w).mono (by rintro e w' ⟨rfl, rfl⟩; exact ⟨rfl, Grew.boxed _ _⟩)

set_option maxRecDepth 100000 in
theorem compare_any (n v m u : List Int) (h1 : n.length + v.length ≤ 900000) (h2 : m.length + u.length ≤ 900000) (w : World) :
    Calls Try.prog 35 #[pv n v, pv m u] w fun e w' => e = .returned (.int .i64 (cmpI n v m u)) ∧ Grew w w' := by
  have HP1 := Lib.hid fun w => payload_grew n v h1 w
  have HP2 := Lib.hid fun w => payload_grew m u h2 w
  have HC : Hid (∀ w, Calls Try.prog 43 #[.string (T (pay n v)), .string (T (pay m u))] w fun e w' => e = .returned (.int .i64 (cmpI n v m u)) ∧ Grew w w') := Lib.hid fun w => scompare_grew (T (pay n v)) (T (pay m u)) w
  have HG := Lib.hid ((Grew.boxed w (box n v)).alloc (box m u))
  have B1 := Lib.hid ((Blk.new w [.string (T n), .string (T v)] 24).alloc (box m u))
  have B2 := Lib.hid (Blk.new_at (w.alloc (box n v)) [.string (T m), .string (T u)] 24 (w.heap.size + 1) (by simp))
  dsimp only [pv, box] at *
  generalize cmpI n v m u = C at *
  generalize T (pay n v) = S1 at *
  generalize T (pay m u) = S2 at *
  generalize T n = SN at *
  generalize T v = SV at *
  generalize T m = SM at *
  generalize T u = SU at *
  have hm : Try.prog.follows .mixedOrders = true := by kernel_rfl
  go_enter Try.func35, Try.ntmps35
  go_wp2_with fail
  generalize hW : (w.alloc (.cells #[.string SN, .string SV] 24)).alloc (.cells #[.string SM, .string SU] 24) = W at *
  have c0 := cell_grown B1.out.lt (B1.out.cell (i := 0) rfl)
  have c1 := cell_grown B1.out.lt (B1.out.cell (i := 1) rfl)
  have d0 := cell_grown B2.out.lt (B2.out.cell (i := 0) rfl)
  have d1 := cell_grown B2.out.lt (B2.out.cell (i := 1) rfl)
  have HW := Lib.hid hW
  clear hW
  have K1 : Hid (∀ k os, Calls Try.prog 32 #[.agg #[.string SN, .string SV]] (Sort.grow (W.drewN k) os) fun e w' => e = .returned (.string S1) ∧ ∃ q os', w' = Sort.grow ((Sort.grow (W.drewN k) os).drewN q) os') := Lib.hid fun k os => HP1.out _
  have K2 : Hid (∀ k os, Calls Try.prog 32 #[.agg #[.string SM, .string SU]] (Sort.grow (W.drewN k) os) fun e w' => e = .returned (.string S2) ∧ ∃ q os', w' = Sort.grow ((Sort.grow (W.drewN k) os).drewN q) os') := Lib.hid fun k os => HP2.out _
  have K3 : Hid (∀ k os, Calls Try.prog 43 #[.string S1, .string S2] (Sort.grow (W.drewN k) os) fun e w' => e = .returned (.int .i64 C) ∧ ∃ q os', w' = Sort.grow ((Sort.grow (W.drewN k) os).drewN q) os') := Lib.hid fun k os => HC.out _
  clear HP1 HP2 HC
  go_quiet_grown (first | (go_at_call 32; with_reducible refine Calls.grown_of (K1.out _ _)) | (go_at_call 32; with_reducible refine Calls.grown_of (K2.out _ _)) | (go_at_call 43; with_reducible refine Calls.grown_of (K3.out _ _)))
  go_wp2
  go_ret
  exact ⟨rfl, HG.out.trans ⟨nq, osq, rfl⟩⟩

theorem less_any (n v m u : List Int) (hn : AllB n) (hv : AllB v) (hm : AllB m) (hu : AllB u) (h1 : n.length + v.length ≤ 900000) (h2 : m.length + u.length ≤ 900000) (w : World) :
    Calls Try.prog 18 #[pv n v, pv m u] w fun e w' => e = .returned (.bool (lessP n v m u)) ∧ Grew w w' := by
  have HC := Lib.hid fun w => compare_any n v m u h1 h2 w
  have hlt := cmpI_lt hn hv hm hu
  have HG := Lib.hid ((Grew.boxed w (box n v)).alloc (box m u))
  dsimp only [pv, box] at *
  generalize cmpI n v m u = C at *
  generalize lessP n v m u = L at *
  generalize T n = SN at *
  generalize T v = SV at *
  generalize T m = SM at *
  generalize T u = SU at *
  go_enter Try.func18, Try.ntmps18
  go_wp2_with (go_at_call 35; (with_reducible refine (HC.out _).mono ?_); rintro e w' ⟨rfl, hG⟩)
  go_ret
  exact ⟨ret_bool rfl, HG.out.trans hG⟩
end Go.Proofs.Ytmimfojlcihhaaa.Fo
