/-
  A file of sectors, the program's: what Write and Sync leave.
-/
import Derived.Test.YtpgkimohekdmmaaSfb
import Derived.Deep.RegionLaw
namespace Go.Proofs.Ytpgkimohekdmmaa.Sfc
open Go.ChangeShapes Go.WideShapes Go.ChangeAt Go.RowKit
open Bytes8 Blk8 Own8 OwnM OwnA OwnE Kf Ta Fa Sfa Sfb
set_option linter.unusedVariables false
set_option maxRecDepth 100000
set_option linter.unusedSimpArgs false

/-- 'copy(b[p:], s)' into bytes of the call's own, all of s. -/
theorem run_copy_part (w : World) (ty : TypeId) (base g n c p dLen dCap : Nat) (l : List Int) (ho : Own w base (some ⟨g, 0, none⟩) n c l) (B : Option Addr) (m c2 : Nat) (s : List Int) (hb : Bytes w B s) (hm : s.length = m) (h0 : 0 < m) (hfit : p + m ≤ n) (hd : m ≤ dLen) :
    ∃ w', (Builtin.copy_ #[32, 32] ty #[.slice (some ⟨g, p, none⟩) dLen dCap, .slice B m c2]).run Try.prog w = .ok (goInt m) w' ∧ Own w' base (some ⟨g, 0, none⟩) n c (l.take p ++ (s ++ l.drop (p + m))) ∧ w.grownBy w' (some g) := by
  obtain ⟨i, hi, hzz⟩ := Option.map_eq_some_iff.1 info8
  simp only [Prod.mk.injEq] at hzz
  obtain ⟨hz, hs, hby⟩ := hzz
  obtain ⟨ad, rfl, hsrc⟩ := hb.source w (Below.refl _ _) (by omega)
  rcases ho.2.2.2.2 with ⟨he, _⟩ | ⟨g', cap, cur, he, hbg, hg, hnc, hcm, hcs, htake⟩
  · cases he
  · injection he with e1 e2 e3
    simp at e1
    subst e1; subst e3
    have hL := ho.2.1
    have hl : (s.map (Value.int .u8)).length = m := by rw [List.length_map, hm]
    have hrun := run_copy_row (P := Try.prog) w 32 32 ty 5 g p dLen dCap ad m c2 cur 5 (s.map (Value.int .u8)) Try.underlying32 (by simp [hi, hs]) hg (by rw [hl]; exact (Nat.min_eq_left hd).symm)
      (fun j v hj => by
        rw [List.getElem?_map] at hj
        obtain ⟨x, hx, rfl⟩ := Option.map_eq_some_iff.1 hj
        exact hsrc j x hx) (by rw [hl]; omega) (ones s)
    rw [hl] at hrun
    obtain ⟨R, hR⟩ : ∃ R, R = (cur.toList.take p ++ s.map (Value.int .u8) ++ cur.toList.drop (p + m)).toArray := ⟨_, rfl⟩
    rw [← hR] at hrun
    have hA : AllB (l.take p ++ (s ++ l.drop (p + m))) := (ho.1.take _).app (hb.1.app (ho.1.drop _))
    have hLL : (l.take p ++ (s ++ l.drop (p + m))).length = n := by simp; omega
    have hRs : R.size = c := by
      rw [hR]
      simp only [List.size_toArray, List.length_append, List.length_take, List.length_drop, Array.length_toList, hl]
      omega
    have hRt : R.toList.take n = (l.take p ++ (s ++ l.drop (p + m))).map (Value.int .u8) := by
      rw [Nat.mul_one] at htake
      have e1 : (cur.toList.take p) = (l.take p).map (Value.int .u8) := by
        rw [List.map_take, ← htake, List.take_take, Nat.min_eq_left (by omega)]
      have e2 : (cur.toList.drop (p + m)).take (n - (p + m)) = (l.drop (p + m)).map (Value.int .u8) := by
        rw [List.map_drop, ← htake, List.drop_take]
      have e4 : (l.take p ++ (s ++ l.drop (p + m))).map (Value.int .u8) ++ (cur.toList.drop (p + m)).drop (n - (p + m)) = cur.toList.take p ++ s.map (Value.int .u8) ++ cur.toList.drop (p + m) := by
        rw [e1, List.map_append, List.map_append, ← e2, List.append_assoc, List.append_assoc, List.append_assoc, List.take_append_drop]
      rw [hR]
      show (cur.toList.take p ++ s.map (Value.int .u8) ++ cur.toList.drop (p + m)).take n = _
      rw [← e4]
      have e5 : ((l.take p ++ (s ++ l.drop (p + m))).map (Value.int .u8)).length = n := by rw [List.length_map, hLL]
      conv => lhs; rw [← e5]
      exact List.take_left
    exact ⟨_, hrun, ⟨hA, hLL, Nat.le_trans ho.2.2.1 (by simp), ⟨by rw [List.length_map, hLL]; omega, .inr ⟨g, c, R, rfl, hbg, setRow_heap w g cur R 5 _ hg, hnc, hcm, by omega, by rw [Nat.mul_one]; exact hRt⟩⟩⟩, ⟨rfl, rfl, rfl, by simp, fun k _ hk => setRow_other w g k _ (fun e => hk (by simp [e]))⟩⟩

theorem wpList_copy_part {w : World} {ops : Array Oper} {rest : List Oper} {o : Oper} {a : Act} {Q : Exit → Act → World → Prop} (hgd : o.guard = none) (d s : Operand)
    (hop : o.op = .call { callee := .builtin .copy, args := #[d, s], argTypes := #[32, 32] })
    (base g n c p dLen dCap : Nat) (l : List Int) (hd : a.eval d = .slice (some ⟨g, p, none⟩) dLen dCap) (ho : Own w base (some ⟨g, 0, none⟩) n c l) (B : Option Addr) (m c2 : Nat) (sl : List Int) (hs : a.eval s = .slice B m c2) (hb : Bytes w B sl) (hm : sl.length = m) (h0 : 0 < m) (hfit : p + m ≤ n) (hdl : m ≤ dLen)
    (h : ∀ w', Own w' base (some ⟨g, 0, none⟩) n c (l.take p ++ (sl ++ l.drop (p + m))) → w.grownBy w' (some g) → wpList Try.prog ops Q rest (a.put o.dst (goInt m)) w') : wpList Try.prog ops Q (o :: rest) a w :=
  wpList_plain hgd fun K hK => by
    obtain ⟨w', hr, h1, h2⟩ := run_copy_part w o.type base g n c p dLen dCap l ho B m c2 sl hb hm h0 hfit hdl
    unfold Oper.wp execOp
    simp only [hop, resolve, invoke, builtin, Sem.run_bind, Sem.run_pure, Result.andThen_ok, List.map_toArray, List.map_cons, List.map_nil, hd, hs, hr]
    exact hK _ _ (h w' h1 h2)

theorem step_append_at {w : World} {ops : Array Oper} {o : Oper} {a : Act} {K : Act → World → Prop} {Q : Exit → Act → World → Prop} {E : Prop} (hgd : o.guard = none) (s x : Operand)
    (hop : o.op = .call { callee := .builtin .append, args := #[s, x], argTypes := #[32, 32] })
    (base : Nat) (A : Option Addr) (n c : Nat) (l : List Int) (hs : a.eval s = .slice A n c) (ho : Own w base A n c l) (A2 : Option Addr) (m c2 : Nat) (ys : List Int) (hx : a.eval x = .slice A2 m c2) (hb : Bytes w A2 ys) (hm : ys.length = m) (hsz : n + m ≤ 70368744177664)
    (h : ∀ A' c' w', Own w' base A' (n + m) c' (l ++ ys) → w.grownBy w' (ownB A) → (ownB A' = ownB A ∨ ownB A' = some w.heap.size) → K (a.put o.dst (.slice A' (n + m) c')) w') :
    if Region.wanted o (yielded ops a.tmps) = true then Oper.wp Try.prog o a w K Q else E := by
  have hw : Region.wanted o (yielded ops a.tmps) = true := by simp [Region.wanted, hgd]
  rw [if_pos hw]
  obtain ⟨A', c', w', hr, h1, h2, h3⟩ := run_append_at w o.type base A n c l ho A2 m c2 ys hb hm hsz
  unfold Oper.wp execOp
  simp only [hop, resolve, invoke, builtin, Sem.run_bind, Sem.run_pure, Result.andThen_ok, List.map_toArray, List.map_cons, List.map_nil, hs, hx, hr]
  exact h A' c' w' h1 h2 h3

/-- 'b[:0]' of bytes of the call's own. -/
theorem Own.cut0 {w : World} {base n c : Nat} {A : Option Addr} {l : List Int} (h : Own w base A n c l) : Own w base A 0 c [] := by
  refine ⟨(fun _ h => by cases h), rfl, h.2.2.1, rfl, ?_⟩
  rcases h.2.2.2.2 with ⟨he, h0⟩ | ⟨g, cap, cur, he, h1, h2, h3, h4, h5, h6⟩
  · injection he with e1 e2 e3
    subst e1; subst e3
    exact .inl ⟨rfl, rfl⟩
  · injection he with e1 e2 e3
    subst e1; subst e3
    exact .inr ⟨g, c, cur, rfl, h1, h2, Nat.zero_le _, h4, h5, by simp⟩

def wcE (p : Int) (m : Nat) : Int := if p < 0 then 1 else if 32768 - p < (m : Int) then 15 else 0
def wcL (now : List Int) (p : Int) (b : List Int) : List Int := if wcE p b.length = 0 then wr now p.toNat b else now

set_option maxRecDepth 100000 in
set_option maxHeartbeats 1000000 in
theorem write_any (w : World) (F : Nat → Prop) (g : Nat) (now safe : List Int) (p : Int) (B : Option Addr) (m cb : Nat) (b : List Int) (h : FileP w F g now safe) (hb : Bytes w B b) (hm : b.length = m) (hm2 : m ≤ maxLen) (hoff : LiesOff B b F) (hp : -9223372036854775808 ≤ p) (hp2 : p ≤ 9223372036854775807) :
    Calls Try.prog 36 #[.pointer (some ⟨g, 0, none⟩), .int .i64 p, .slice B m cb] w fun e w' => e = .returned (.int .i64 (wcE p m)) ∧ FileP w' (Ext F w w') g (wcL now p b) safe ∧ KeptF F w w' := by
  unfold maxLen at hm2
  have same : ∀ x : World, x = w → wcL now p b = now → FileP x (Ext F w x) g (wcL now p b) safe ∧ KeptF F w x := fun x hx e => by
    subst hx
    rw [e]
    exact ⟨h.more (fun _ => Or.inl) (Ext.foot h.foot (Nat.le_refl _)), KeptF.refl _ _⟩
  unfold wcL at same ⊢
  rw [hm] at same ⊢
  unfold wcE at same ⊢
  by_cases h0 : p < 0
  · rw [if_pos h0] at same ⊢
    have S := Lib.hid (same w rfl rfl)
    clear h hb hm hoff same
    go_enter Try.func36, Try.ntmps36
    go_wp2
    go_ret
    exact ⟨rfl, S.out⟩
  · rw [if_neg h0] at same ⊢
    by_cases h1 : 32768 - p < (m : Int)
    · rw [if_pos h1] at same ⊢
      have S := Lib.hid (same w rfl rfl)
      clear h hb hm hoff same
      go_enter Try.func36, Try.ntmps36
      go_wp2
      go_ret
      exact ⟨rfl, S.out⟩
    · rw [if_neg h1] at same ⊢
      by_cases h2 : m = 0
      · have S := Lib.hid (same w rfl (by rw [if_pos rfl]; obtain rfl : b = [] := List.eq_nil_of_length_eq_zero (by omega); rfl))
        subst h2
        clear h hb hm hoff same
        go_enter Try.func36, Try.ntmps36
        go_wp2
        go_ret
        exact ⟨rfl, S.out⟩
      · clear same
        rw [if_pos rfl]
        obtain ⟨p, rfl⟩ := Int.eq_ofNat_of_zero_le (show 0 ≤ p by omega)
        rw [show (p : Int).toNat = p from rfl]
        obtain ⟨A, n, c, D, k, d, hB, ho, hs, hap, hA, hD, hg, hfoot, hle, hmax⟩ := h
        have c0 := hB.cell (i := 0) rfl
        have hL := ho.2.1
        have hpm : p + m ≤ 32768 := by omega
        have e1 : (p : Int) + (m : Int) = ((p + m : Nat) : Int) := by omega
        have HF := Lib.hid (filled_any 0 A n c (p + m) now w ho (by omega) (by omega))
        have HB := Lib.hid hB
        have HM := Lib.hid hm
        have HWr := Lib.hid (show wr now p b = (pad now (p + m)).take p ++ (b ++ (pad now (p + m)).drop (p + m)) by unfold wr; rw [if_neg (by omega), hm])
        have Hwl := Lib.hid (show 0 < b.length → (wr now p b).length = max now.length (p + b.length) from fun h => wr_length h)
        obtain ⟨N, hN⟩ : ∃ N, N = max n (p + m) := ⟨_, rfl⟩
        have hN1 : p + m ≤ N := by omega
        have hN2 : N ≤ 32768 := by omega
        rw [← hN] at HF
        have Hb := Lib.hid hb
        have HN := Lib.hid hN
        have Ho := Lib.hid ho
        have HL := Lib.hid hL
        generalize hq : p + m = q at *
        clear hB hb hm hN ho hL
        go_enter Try.func36, Try.ntmps36
        go_wp2_with (first
          | (go_at_call 53; (with_reducible refine HF.out.mono ?_); rintro e w2 ⟨A2, c2, rfl, ho2, hgr, hat⟩
             have HO2 := Lib.hid ho2
             have hne : ownB A ≠ some g := fun e => (hA g e).1 rfl
             have HG := Lib.hid hgr
             have HB2 := Lib.hid (show Blk w2 g [.slice A n c, .slice D k d] _ from (hgr.block g HB.out.lt (fun e => hne e.symm)).trans HB.out)
             have f0 := HB2.out.frozen 0
             have cc0 := HB2.out.cell (i := 0) rfl
             obtain ⟨ga, rfl, hga⟩ : ∃ ga, A2 = some ⟨ga, 0, none⟩ ∧ ga < w2.heap.size := by
               rcases ho2.2.2.2.2 with ⟨he, h0⟩ | ⟨ga, _, _, he, _⟩
               · omega
               · injection he with e1 e2 e3
                 exact ⟨ga, e1, (ho2.lt ga (by rw [ownB_eq, e1]; rfl)).2⟩
             have hc2 := own_cap ho2
             have hcp : ¬ c2 = p := by omega
             have hgg : ga ≠ g := by
               rcases hat with h | h
               · intro e; subst e; exact hne (h.symm.trans rfl)
               · simp [ownB] at h
                 have := HB.out.lt
                 omega
             have HO3 := Lib.hid fun v => Kf.Own.keptF HO2.out (KeptF.set1 w2 g 0 v) (fun k hk e => hgg ((Option.some.inj hk).trans e))
             have HB3 := Lib.hid fun v => Kf.Bytes.keptF (Kf.Bytes.keptF Hb.out (KeptF.grow _ hgr) (fun b' off e h0 e2 => hoff b' off e h0 (hA _ e2).2)) (KeptF.set1 w2 g 0 v) (fun b' off e h0 e2 => hoff b' off e h0 (by rw [show b' = g from e2]; exact hg))
             clear ho2 hgr)
          | (refine wpList_copy_part rfl (.tmp 34) (.tmp 35) rfl 0 ga N c2 p (N - p) (c2 - p) (pad now q) rfl (HO3.out _) B m cb b rfl (HB3.out _) HM.out (by omega) (by omega) (by omega) ?_; intro w3 ho4 hg4; have HO4 := Lib.hid ho4; clear ho4))
        go_ret
        have hDlt := fun k (hk : ownB D = some k) => (Kf.Own.block hs hk).2
        have hgaD : ∀ k, ownB D = some k → k ≠ ga := fun k hk e => by
          subst e
          rcases hat with h | h
          · exact hap k (h.symm.trans rfl) hk
          · have := hDlt k hk
            simp [ownB] at h
            omega
        have hgaF : ga < w.heap.size → F ga := fun hlt => by
          rcases hat with h | h
          · exact (hA ga (h.symm.trans rfl)).2
          · simp [ownB] at h
            omega
        have K1 : KeptF F w w2 := (KeptF.grow _ HG.out).mono fun k e => (hA k e).2
        have K2 := K1.setCell (p := ⟨g, 0, none⟩) (fun _ => hg) (.slice (some ⟨ga, 0, none⟩) N c2)
        have K3 : KeptF F w w3 := K2.grown hg4 fun k e hk => by
          injection e with e
          subst e
          exact hgaF hk
        have hs2 := Kf.Own.keptF (Kf.Own.keptF (Kf.Own.keptF hs (KeptF.grow _ HG.out) (fun k hk e => hap k e hk)) (KeptF.set1 w2 g 0 (.slice (some ⟨ga, 0, none⟩) N c2)) (fun k hk e => (hD k hk).1 e)) (KeptF.grow _ hg4) (fun k hk e => by injection e with e; exact hgaD k hk e.symm)
        have hB3 := OwnM.blk_grown (HB2.out.set_ 0 (.slice (some ⟨ga, 0, none⟩) N c2)) hg4 (fun e => hgg e.symm)
        have hwl := Hwl.out (by have := HM.out; omega)
        have hLL := HL.out
        have hMM := HM.out
        have hga3 : ga < w3.heap.size := (Kf.Own.block HO4.out rfl).2
        refine ⟨rfl, ⟨_, _, _, _, _, _, hB3, by rw [HWr.out, ← hq]; rw [← hq] at HO4; exact HO4.out, hs2, ?_, ?_, ?_, .inl hg, Ext.foot hfoot K3.size, by omega, by omega⟩, K3⟩
        · intro k hk hk2
          exact hgaD k hk2 (Option.some.inj hk).symm
        · intro k hk
          have e : ga = k := Option.some.inj hk
          subst e
          refine ⟨hgg, ?_⟩
          rcases Nat.lt_or_ge ga w.heap.size with h | h
          · exact .inl (hgaF h)
          · exact .inr ⟨h, hga3⟩
        · intro k hk
          exact ⟨(hD k hk).1, .inl (hD k hk).2⟩

theorem sync_end {w w2 : World} {F : Nat → Prop} {g n c m d d2 : Nat} {A B B2 : Option Addr} {now safe : List Int} (ho : Own w 0 A n c now) (hs : Own w 0 B m d safe) (hap : Apart A B) (hA : ∀ k, ownB A = some k → k ≠ g ∧ F k) (hD : ∀ k, ownB B = some k → k ≠ g ∧ F k) (hg : F g) (hfoot : Foot w F) (hmax : now.length ≤ 32768)
    (hgr : w.drew.grownBy w2 (ownB B)) (hat : ownB B2 = ownB B ∨ ownB B2 = some w.drew.heap.size) (HO2 : Own w2 0 B2 (0 + n) d2 ([] ++ now)) (HB2 : Blk w2 g [.slice A n c, .slice B m d] 87) (hglt : g < w.heap.size) :
    FileP (w2.setCell ⟨g, 1, none⟩ (.slice B2 n d2)) (Ext F w (w2.setCell ⟨g, 1, none⟩ (.slice B2 n d2))) g now now ∧ KeptF F w (w2.setCell ⟨g, 1, none⟩ (.slice B2 n d2)) := by
  rw [List.nil_append, Nat.zero_add] at HO2
  have hAlt := fun k (hk : ownB A = some k) => (Kf.Own.block ho hk).2
  have hB2 : ∀ k, ownB B2 = some k → (k < w.heap.size → F k) ∧ k ≠ g ∧ ownB A ≠ some k := fun k hk => by
    rcases hat with h | h
    · rw [h] at hk
      exact ⟨fun _ => (hD k hk).2, (hD k hk).1, fun e => hap k e hk⟩
    · rw [h] at hk
      have e : w.heap.size = k := Option.some.inj hk
      exact ⟨fun h => by omega, by omega, fun e2 => by have := hAlt k e2; omega⟩
  have K1 : KeptF F w w2 := (KeptF.refl F w).drew.grown hgr fun k e _ => (hD k e).2
  have K2 := K1.setCell (p := ⟨g, 1, none⟩) (fun _ => hg) (.slice B2 n d2)
  have o1 := Kf.Own.keptF (Kf.Own.keptF (Own8.Own.drew ho) (KeptF.grow _ hgr) (fun k hk e => hap k hk e)) (KeptF.set1 w2 g 1 (.slice B2 n d2)) (fun k hk e => (hA k hk).1 e)
  have o2 := Kf.Own.keptF HO2 (KeptF.set1 w2 g 1 (.slice B2 n d2)) (fun k hk e => (hB2 k hk).2.1 e)
  refine ⟨⟨A, n, c, B2, n, d2, HB2.set_ 1 _, o1, o2, fun k hk hk2 => (hB2 k hk2).2.2 hk, fun k hk => ⟨(hA k hk).1, .inl (hA k hk).2⟩, fun k hk => ⟨(hB2 k hk).2.1, ?_⟩, .inl hg, Ext.foot hfoot K2.size, Nat.le_refl _, hmax⟩, K2⟩
  rcases Nat.lt_or_ge k w.heap.size with h | h
  · exact .inl ((hB2 k hk).1 h)
  · exact .inr ⟨h, (Kf.Own.block o2 hk).2⟩

set_option maxRecDepth 100000 in
set_option maxHeartbeats 1000000 in
theorem sync_any (w : World) (F : Nat → Prop) (g : Nat) (now safe : List Int) (h : FileW w F g now safe) :
    Calls Try.prog 37 #[.pointer (some ⟨g, 0, none⟩)] w fun e w' => e = .returned (.tuple #[]) ∧ FileP w' (Ext F w w') g now now ∧ KeptF F w w' := by
  obtain ⟨A, n, c, B, m, d, hB, ho, hs, hap, hA, hD, hg, hfoot, hmax⟩ := h
  have HB := Lib.hid hB
  have c0 := hB.cell (i := 0) rfl
  have c1 := hB.cell (i := 1) rfl
  have f1 := hB.frozen 1
  have HS := Lib.hid fun k => Own.cut0 (Own8.Own.kept hs (below_drewN (Below.refl w.heap.size w) k) (Nat.le_refl _))
  clear hB
  go_enter Try.func37, Try.ntmps37
  go_region_law (refine step_append_at (o := ⟨some 12, _, _, _, _, _⟩) rfl (.tmp 7) (.tmp 11) rfl 0 B 0 d [] rfl (HS.out _) A n c now rfl (ho.bytes.drewN _) ho.2.1 (by have := ho.2.1; omega) ?_; intro B2 d2 w2 ho2 hgr hat; have HO2 := Lib.hid ho2; clear ho2; have HB2 := Lib.hid (show Blk w2 g [.slice A n c, .slice B m d] _ from (hgr.block g HB.out.lt (fun e => (hD g e.symm).1 rfl)).trans HB.out); have f2 := HB2.out.frozen 1; have cc1 := HB2.out.cell (i := 1) rfl)
  all_goals
    go_end0
    exact ⟨rfl, sync_end ho hs hap hA hD hg hfoot hmax hgr hat HO2.out HB2.out HB.out.lt⟩
end Go.Proofs.Ytpgkimohekdmmaa.Sfc
