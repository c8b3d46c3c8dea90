/-
  Texts beneath the proof, one behind the other.
-/
import Derived.Deep.RegionHeld3
import Derived.Test.YtpfkhcgeblihcaaQa4
import Derived.Test.YtpfkhcgeblihcaaQa6
import Derived.Test.YtpfkhcgeblihcaaQa7
import Derived.Test.YtpfkhcgeblihcaaQa2

/-
  The document's way to put a text into a row that rises.
-/
namespace Go.Proofs.Ytpfkhcgeblihcaa.Uda
open Go.ChangeShapes Go.WideShapes Go.ChangeAt Go.RowKit
open Bytes8 Blk8 Own8 OwnM OwnE OwnA Dc Fa Fb Fo Pr8 Pv8 Qa Qb
open Qj (TxF ownT_F TxF.kept)
set_option linter.unusedVariables false
set_option maxRecDepth 100000
set_option linter.unusedSimpArgs false

theorem bA {w0 w : World} (h : Below w0.heap.size w0 w) (o : Obj) : Below w0.heap.size w0 (w.alloc o) := h.alloc h.size o
theorem bD {w0 w : World} (h : Below w0.heap.size w0 w) : Below w0.heap.size w0 w.drew := h.drew
theorem bG {w0 W W' : World} {row : Option Nat} (h : Below w0.heap.size w0 W) (hg : W.grownBy W' row) (hr : ∀ k, row = some k → w0.heap.size ≤ k) : Below w0.heap.size w0 W' := h.grown hg h.size hr
theorem bkN0 {w : World} {g : Nat} {ty : TypeId} (h : w.heap.size = g) : Blk (w.alloc (.cells #[] ty)) g [] ty := Blk.new_at w [] ty g h
theorem bkN1 {w : World} {g : Nat} {v : Value} {ty : TypeId} (h : w.heap.size = g) : Blk (w.alloc (.cells #[v] ty)) g [v] ty := Blk.new_at w [v] ty g h
theorem bkA {w : World} {g : Nat} {vs : List Value} {ty : TypeId} (h : Blk w g vs ty) (o : Obj) : Blk (w.alloc o) g vs ty := h.alloc o
theorem lit_ownB {W : World} {base E : Nat} (hE : Blk W E [] 9) (hb : base ≤ E) : OwnE 9 1 W base (some ⟨E, 0, none⟩) 0 0 [] := by
  have hEl := hE.lt
  exact ⟨by omega, rfl, .inr ⟨E, 0, #[], rfl, hb, hE, Nat.le_refl _, by decide, rfl, rfl⟩⟩
theorem past_lit {W W' : World} {g k : Nat} {vs : List Value} {ty : TypeId} (hl : Blk W g [] 9) (hk : Blk W k vs ty) (hne : vs ≠ []) (hg : W.grownBy W' (ownB (some (⟨g, 0, none⟩ : Addr)))) : Blk W' k vs ty := OwnM.blk_grown hk hg (by
  rintro rfl
  unfold Blk at hl hk
  rw [hl] at hk
  injection hk with hk
  injection hk with h1
  exact hne (by simpa using h1.symm))
theorem step_append_run {w : World} {ops : Array Oper} {o : Oper} {a : Act} {K : Act → World → Prop} {Q : Exit → Act → World → Prop} {F : Prop} (hgd : o.guard = none) (s x : Operand) (t : TypeId)
    (ho : o.op = .call { callee := .builtin .append, args := #[s, x], argTypes := #[t, t] }) (v1 v2 : Value) (hs : a.eval s = v1) (hx : a.eval x = v2) (v : Value) (w' : World)
    (hr : (Builtin.append_ #[t, t] o.type #[v1, v2]).run Try.prog w = .ok v w') (h : K (a.put o.dst v) w') : if Region.wanted o (yielded ops a.tmps) = true then Oper.wp Try.prog o a w K Q else F := by
  have hw : Region.wanted o (yielded ops a.tmps) = true := by simp [Region.wanted, hgd]
  rw [if_pos hw]
  unfold Oper.wp execOp
  simp only [ho, resolve, invoke, builtin, Sem.run_bind, Sem.run_pure, Result.andThen_ok, List.map_toArray, List.map_cons, List.map_nil, hs, hx, hr]
  exact h
theorem one_cellT (l : List TX) : ∀ u ∈ cellsT l, u.oneCell' = true := fun u hu => by
  obtain ⟨x, _, rfl⟩ := List.mem_map.1 hu
  rfl
theorem txts_at {w : World} {ad : Addr} {t : List TX} (h : Txts w (some ad) t) : ∀ j u, (cellsT t)[j]? = some u → w.cell? (ad.add j) = some u := fun j u hj => by
  have hlt : j < t.length := by
    have := (List.getElem?_eq_some_iff.1 hj).1
    simpa [cellsT] using this
  obtain ⟨b, off, e, _, hc⟩ := h j hlt
  injection e with e
  subst e
  rw [add_none, hc, ← hj]
  unfold cellsT
  rw [List.getElem?_map, List.getElem?_eq_getElem hlt]
  simp [List.getElem?_eq_getElem hlt]
/-- 'append' of texts that can be read onto a list of the call's own. -/
theorem app_txts {w : World} {base n m c c2 : Nat} {A : Option Addr} {ad : Addr} {l t : List TX} (ty : TypeId) (h : OwnT w base A n c l) (h2 : Txts w (some ad) t) (hm : t.length = m) (hb : n + m ≤ 100000) :
    ∃ A' c' w', (Builtin.append_ #[22, 22] ty #[.slice A n c, .slice (some ad) m c2]).run Try.prog w = .ok (.slice A' (n + m) c') w' ∧ OwnT w' base A' (n + m) c' (l ++ t) ∧ w.grownBy w' (ownB A) := by
  obtain ⟨A', c', w', hr, ho, hg, _⟩ := run_append_elt_at tElt w ty base A n c (cellsT l) h.2 ad m c2 (cellsT t) (by rw [Nat.mul_one]; unfold cellsT; rw [List.length_map]; exact hm) (txts_at h2) (one_cellT t) (by omega) (by omega) (by unfold maxLen; omega)
  refine ⟨A', c', w', hr, ⟨by simp [h.1, hm], ?_⟩, hg⟩
  have : cellsT (l ++ t) = cellsT l ++ cellsT t := by simp [cellsT]
  rw [this]; exact ho
theorem elemT : Try.prog.elem 22 = 9 := by kernel_rfl
theorem sizeofT (w : World) : (sizeOf 9).run Try.prog w = .ok 1 w := by
  obtain ⟨i, hi, hzz⟩ := Option.map_eq_some_iff.1 tElt.info
  simp only [Prod.mk.injEq] at hzz
  simp [sizeOf, typeInfo, hi, hzz]
theorem underT : Try.prog.underlying 22 = some (.slice (Try.prog.elem 22)) := by rw [elemT]; exact Try.underlying22
theorem cut_hi (b off n c k : Nat) (hk : k ≤ c) (hc : c ≤ 9223372036854775807) (w : World) :
    (Instr.slice 22 (.slice (some ⟨b, off, none⟩) n c) none (some (.int .i64 (k : Int))) none).run Try.prog w = .ok (.slice (some ⟨b, off, none⟩) k c) w := by
  rw [run_slice_h w 22 (some ⟨b, off, none⟩) n c underT .i64 (k : Int) (by omega) (by omega), elemT, sizeofT]
  simp [Result.andThen, sliced, add_none]
theorem cut_lo (b off n c k : Nat) (hk : k ≤ n) (w : World) :
    (Instr.slice 22 (.slice (some ⟨b, off, none⟩) n c) (some (.int .i64 (k : Int))) none none).run Try.prog w = .ok (.slice (some (if c = k then ⟨b, off, none⟩ else ⟨b, off + k, none⟩)) (n - k) (c - k)) w := by
  have h := sliced_low 22 (some ⟨b, off, none⟩) n c k w (by rw [elemT]; exact sizeofT w) (by rw [elemT]; exact Try.underlying22) hk
  rw [cutA_some] at h
  rw [h]
  split <;> rfl
theorem txts_take {w : World} {a : Option Addr} {l : List TX} (h : Txts w a l) (k : Nat) : Txts w a (l.take k) := fun i hi => by
  have hi' : i < l.length := by simp at hi; omega
  have hk : i < k := by simp at hi; omega
  obtain ⟨b, off, e, h1, h2⟩ := h i hi'
  refine ⟨b, off, e, h1, ?_⟩
  rw [h2, List.getD_eq_getElem?_getD, List.getD_eq_getElem?_getD, List.getElem?_take_of_lt hk]
theorem txts_drop {w : World} {b off c : Nat} {l : List TX} (h : Txts w (some ⟨b, off, none⟩) l) (k : Nat) (hc : l.length ≤ c) : Txts w (some (if c = k then ⟨b, off, none⟩ else ⟨b, off + k, none⟩)) (l.drop k) := fun i hi => by
  have hi' : k + i < l.length := by simp at hi; omega
  obtain ⟨b', off', e, h1, h2⟩ := h (k + i) hi'
  injection e with e; injection e with e1 e2; subst e1; subst e2
  rw [if_neg (by omega)]
  refine ⟨_, _, rfl, h1, ?_⟩
  rw [Nat.add_assoc, h2, List.getD_eq_getElem?_getD, List.getD_eq_getElem?_getD, List.getElem?_drop]
theorem txts_one {w : World} {g : Nat} {s : TX} (h : Blk w g [.string (T s)] 9) : Txts w (some ⟨g, 0, none⟩) [s] := fun i hi => by
  have : i = 0 := by simp at hi; omega
  subst this
  exact ⟨g, 0, rfl, h.lt, h.cell (i := 0) rfl⟩

/-! ## plain -/
theorem insT_at : ∀ (l : List TX) (s : TX) (k : Nat), k ≤ l.length → (∀ i, i < k → ltL (l.getD i []) s = true) → (k < l.length → ltL (l.getD k []) s = false) →
    insT l s = if k < l.length ∧ l.getD k [] = s then l else l.take k ++ [s] ++ l.drop k
  | [], s, k, hk, _, _ => by simp [insT]
  | x :: l, s, 0, _, _, h => by
    have h := h (by simp)
    simp at h
    unfold insT
    rw [if_neg (by rw [h]; simp)]
    by_cases e : x = s
    · rw [if_pos e, if_pos (by simp [e])]
    · rw [if_neg e, if_neg (by simp [e])]; rfl
  | x :: l, s, k + 1, hk, h1, h2 => by
    have hx := h1 0 (by omega)
    simp at hx
    unfold insT
    rw [if_pos hx, insT_at l s k (by simpa using hk) (fun i hi => by have := h1 (i + 1) (by omega); simpa using this) (fun h => by have := h2 (by simpa using h); simpa using this)]
    by_cases e : k < l.length ∧ l.getD k [] = s
    · rw [if_pos e, if_pos (by simpa using e)]
    · rw [if_neg e, if_neg (by simpa using e)]; simp

theorem own_caps {w : World} {base n c : Nat} {A : Option Addr} {l : List TX} (h : OwnT w base A n c l) (hn : 0 < n) : n ≤ c ∧ c ≤ 9223372036854775807 := by
  rcases h.2.2.2 with ⟨he, h0⟩ | ⟨g', cap, cur, he, hb, hg, hnc, hcm, _⟩
  · have := h.1
    have h1 := h.2.2.1
    rw [h0] at h1
    simp at h1; omega
  · injection he with e1 e2 e3
    subst e3
    unfold maxLen at hcm
    omega
def Texted (b : Nat) (l : List TX) (s : TX) (w : World) (e : Ending) (w' : World) : Prop := ∃ A' c', e = .returned (.slice A' (insT l s).length c') ∧ TxF (fun x => x = b ∨ w.heap.size ≤ x) w' A' (insT l s) ∧ (insT l s).length ≤ c' ∧ c' ≤ 9223372036854775807 ∧ Below w.heap.size w w'
set_option maxHeartbeats 8000000 in
theorem rtexts_any (b off c : Nat) (l : List TX) (s : TX) (w : World) (hT : Txts w (some ⟨b, off, none⟩) l) (hA : ∀ v ∈ l, AllB v) (hs : AllB s) (hl : l.length ≤ 1000) (hc : l.length ≤ c) (hc2 : c ≤ 9223372036854775807) :
    Calls Try.prog 37 #[.slice (some ⟨b, off, none⟩) l.length c, .string (T s)] w (Texted b l s w) := by
  have hmx : Try.prog.follows .mixedOrders = true := by kernel_rfl
  have HT := Lib.hid hT
  have HTF : Hid (TxF (fun x => x = b ∨ w.heap.size ≤ x) w (some ⟨b, off, none⟩) l) := Lib.hid fun i hi => by
    obtain ⟨b', off', e, h1, h2⟩ := hT i hi
    injection e with e; injection e with e1 e2; subst e1; subst e2
    exact ⟨_, _, rfl, .inl rfl, h1, h2⟩
  have HIns := Lib.hid (insT_at l s)
  have HLs := Lib.hid fun i (hi : i < l.length) => bytesLess_T (hA _ (getD_in hi (d := []))) hs
  have HEq := Lib.hid fun i (hi : i < l.length) => T_beq (hA _ (getD_in hi (d := []))) hs
  have HFt : Hid (∀ (W : World) (g : Nat), Blk W g [.string (T s)] 9 → Txts W (some ⟨g, 0, none⟩) [s]) := Lib.hid fun W g h => txts_one h
  have HTk := Lib.hid fun k => txts_take hT k
  have HTd := Lib.hid fun k => txts_drop (c := c) hT k hc
  obtain ⟨n, hL⟩ : ∃ n, l.length = n := ⟨_, rfl⟩
  have HL := Lib.hid hL
  unfold Texted
  rw [hL] at hl hc ⊢
  obtain ⟨S, hS⟩ : ∃ S, T s = S := ⟨_, rfl⟩
  have HS := Lib.hid hS
  rw [hS] at HLs HEq HFt ⊢
  clear hT hA hs hL hS
  go_enter Try.func37, Try.ntmps37
  go_wp2_with fail
  go_loopw [5] (fun i wr => ∃ k : Nat, k ≤ n ∧ i = .int .i64 (k : Int) ∧ Hid (∀ x, x < k → ltL (l.getD x []) s = true) ∧ Hid (w = wr)) (fun i _ => n - (intOf i).toNat)
  case atStart => exact ⟨0, by omega, rfl, Lib.hid (fun x hx => absurd hx (by omega)), Lib.hid rfl⟩
  case round =>
    obtain ⟨k, hk, rfl, hall, hB⟩ := hrel
    obtain rfl := hB.out
    clear hB
    rcases Nat.lt_or_ge k n with hlt | hge
    · have hin : (k : Int) < (n : Int) := by omega
      obtain ⟨b', off', e, hbl, hcx⟩ := HT.out k (by have := HL.out; omega)
      injection e with e; injection e with e1 e2; subst e1; subst e2
      have hls := HLs.out k (by have := HL.out; omega)
      have heq := HEq.out k (by have := HL.out; omega)
      obtain ⟨E1, hE1⟩ : ∃ E, T (l.getD k []) = E := ⟨_, rfl⟩
      rw [hE1] at hls heq hcx
      clear hE1
      cases hq : ltL (l.getD k []) s with
      | true =>
        rw [hq] at hls
        have hall2 := Lib.hid (fun x (hx : x < k + 1) => (by
          rcases Nat.lt_or_ge x k with h | h
          · exact hall.out x h
          · obtain rfl : x = k := by omega
            exact hq : ltL (l.getD x []) s = true))
        clear hq hall heq
        go_wp2_with fail
        go_round
        case rel => exact ⟨k + 1, by omega, by go_num, hall2, Lib.hid trivial⟩
        case measure => simp [intOf]; omega
      | false =>
        rw [hq] at hls
        have hI := HIns.out k (by have := HL.out; omega) hall.out (fun _ => hq)
        by_cases hx : l.getD k [] = s
        · rw [decide_eq_true hx] at heq
          rw [if_pos ⟨by have := HL.out; omega, hx⟩] at hI
          have HI := Lib.hid hI
          clear hI hx hq hall
          go_wp2_with fail
          go_ret
          exact ⟨_, _, by rw [HI.out, HL.out]; rfl, by rw [HI.out]; exact HTF.out, by rw [HI.out, HL.out]; exact hc, hc2, Below.refl _ _⟩
        · rw [decide_eq_false hx] at heq
          rw [if_neg (fun h => hx h.2)] at hI
          have HI := Lib.hid hI
          clear hI hx hq hall
          have hkn : k ≤ l.length := by have := HL.out; omega
          have HLk := Lib.hid (show (l.take k).length = k by rw [List.length_take]; exact Nat.min_eq_left hkn)
          have HLd := Lib.hid (show (l.drop k).length = n - k by rw [List.length_drop, HL.out])
          have hkt := Lib.hid (HTk.out k)
          have hdt := HTd.out k
          have hch := fun W => cut_hi b off n c k (by omega) hc2 W
          have hcl := fun W => cut_lo b off n c k (by omega) W
          obtain ⟨ad, had⟩ : ∃ ad : Addr, (if c = k then (⟨b, off, none⟩ : Addr) else ⟨b, off + k, none⟩) = ad := ⟨_, rfl⟩
          rw [had] at hdt
          simp only [had] at hcl
          have HDt := Lib.hid hdt
          have HEnd : Hid (∀ (A' : Option Addr) (c' : Nat) (w' : World), OwnT w' w.heap.size A' (k + 1 + (n - k)) c' (l.take k ++ [s] ++ l.drop k) → Below w.heap.size w w' → ∃ A2 c2, Ending.returned (.slice A' (k + 1 + (n - k)) c') = .returned (.slice A2 (insT l s).length c2) ∧ TxF (fun x => x = b ∨ w.heap.size ≤ x) w' A2 (insT l s) ∧ (insT l s).length ≤ c2 ∧ c2 ≤ 9223372036854775807 ∧ Below w.heap.size w w') := Lib.hid fun A' c' w' ho hb => by
            obtain ⟨h1, h2⟩ := own_caps ho (by omega)
            rw [HI.out]
            rw [show (l.take k ++ [s] ++ l.drop k).length = k + 1 + (n - k) from ho.1]
            exact ⟨A', c', rfl, (ownT_F ho).kept (Nat.le_refl _) (fun _ _ _ => rfl) (fun x hf _ => .inr hf.1), h1, h2, hb⟩
          clear had hdt hkn HIns HLs HEq HTk HTd HI HL hc HT
          generalize l.take k = lk at *
          generalize l.drop k = ld at *
          go_upto_region 6 with fail
          refine wp_region_noPanic ?_
          refine wp_region_held_drew (S := fun _ => True) (by kernel_rfl) trivial (fun hHeld => ?_)
          have hB0 : Below w.heap.size w w.drew := bD (Below.refl _ _)
          generalize w.drew = W0 at *
          refine wpAnyH_take (i := 1) (oi := ⟨some 34, _, _, _, _, _⟩) (v := ?_) rfl (by kernel_rfl) (by kernel_rfl) (by kernel_rfl) (fun _ _ _ h => h) (Or.inl ⟨by rfl, ?_⟩) (by assumption) ?_
          rotate_left
          · intro W hSw; go_simp; try (with_reducible rfl)
          try simp only [Act.put, List.setIfInBounds_toArray, List.set_cons_zero, List.set_cons_succ]
          refine wpAnyH_take (i := 2) (oi := ⟨some 35, _, _, _, _, _⟩) (v := ?_) rfl (by kernel_rfl) (by kernel_rfl) (by kernel_rfl) (fun _ _ _ h => h) (Or.inl ⟨by rfl, ?_⟩) (by assumption) ?_
          rotate_left
          · intro W hSw; go_simp; try (with_reducible rfl)
          try simp only [Act.put, List.setIfInBounds_toArray, List.set_cons_zero, List.set_cons_succ]
          refine wpAnyH_take (i := 3) (oi := ⟨some 36, _, _, _, _, _⟩) (v := ?_) rfl (by kernel_rfl) (by kernel_rfl) (by kernel_rfl) (fun _ _ _ h => h) (Or.inl ⟨by rfl, ?_⟩) (by assumption) ?_
          rotate_left
          · intro W hSw; go_simp; try (with_reducible rfl)
          try simp only [Act.put, List.setIfInBounds_toArray, List.set_cons_zero, List.set_cons_succ]
          refine wpAnyH_take (i := 5) (oi := ⟨some 38, _, _, _, _, _⟩) (v := ?_) rfl (by kernel_rfl) (by kernel_rfl) (by kernel_rfl) (fun _ _ _ h => h) (Or.inl ⟨by rfl, ?_⟩) (by assumption) ?_
          rotate_left
          · intro W hSw; go_simp; try (with_reducible rfl)
          try simp only [Act.put, List.setIfInBounds_toArray, List.set_cons_zero, List.set_cons_succ]
          refine wpAnyH_take (i := 8) (oi := ⟨some 41, _, _, _, _, _⟩) (v := ?_) rfl (by kernel_rfl) (by kernel_rfl) (by kernel_rfl) (fun _ _ _ h => h) (Or.inl ⟨by rfl, ?_⟩) (by assumption) ?_
          rotate_left
          · intro W hSw; go_simp; try (with_reducible rfl)
          try simp only [Act.put, List.setIfInBounds_toArray, List.set_cons_zero, List.set_cons_succ]
          refine wpAnyH_take (i := 9) (oi := ⟨some 42, _, _, _, _, _⟩) (v := ?_) rfl (by kernel_rfl) (by kernel_rfl) (by kernel_rfl) (fun _ _ _ h => h) (Or.inl ⟨by rfl, ?_⟩) (by assumption) ?_
          rotate_left
          · intro W hSw; go_simp; try (with_reducible rfl)
          try simp only [Act.put, List.setIfInBounds_toArray, List.set_cons_zero, List.set_cons_succ]
          refine wpAnyH_take (i := 10) (oi := ⟨some 43, _, _, _, _, _⟩) (v := ?_) rfl (by kernel_rfl) (by kernel_rfl) (by kernel_rfl) (fun _ _ _ h => h) (Or.inl ⟨by rfl, ?_⟩) (by assumption) ?_
          rotate_left
          · intro W hSw; go_simp; try (with_reducible rfl)
          try simp only [Act.put, List.setIfInBounds_toArray, List.set_cons_zero, List.set_cons_succ]
          refine wpAnyH_ready (rs := [0, 6]) (by kernel_rfl) (by simp) ?_
          refine AllReadyH.cons (o := ⟨some 33, _, _, _, _, _⟩) rfl (fun K hK => ?_) ?_
          · skip
            go_simp
            have hE1 : Blk (World.alloc W0 (.cells #[] 9)) (World.heap W0).size [] 9 := bkN0 rfl
            have hlE1 : w.heap.size ≤ (World.heap W0).size := hB0.size
            have hB1 := bA hB0 (.cells #[] 9)
            refine hK.out _ _ trivial (fun hHeld => ?_)
            clear hK K hB0
            generalize World.alloc W0 (.cells #[] 9) = W1 at *
            generalize (World.heap W0).size = gE at *
            try simp only [Act.put, List.setIfInBounds_toArray, List.set_cons_zero, List.set_cons_succ]
            refine wpAnyH_ready (rs := [4, 6]) (by kernel_rfl) (by simp) ?_
            refine AllReadyH.cons (o := ⟨some 37, _, _, _, _, _⟩) rfl (fun K hK => ?_) ?_
            · skip
              obtain ⟨A1, c1, W2, hr, hO2, hg⟩ := app_txts (c2 := c) 22 (⟨rfl, lit_ownB hE1 hlE1⟩ : OwnT W1 w.heap.size (some ⟨gE, 0, none⟩) 0 0 []) ((hkt.out).below hB1) HLk.out (by omega)
              rw [Nat.zero_add] at hr hO2
              rw [List.nil_append] at hO2
              refine step_append_run (o := ⟨some 37, _, _, _, _, _⟩) rfl (.tmp 33) (.tmp 36) 22 rfl _ _ rfl rfl _ _ hr ?_
              have hB2 := bG hB1 hg (fun z hz => by simp [ownB] at hz; omega)
              refine hK.out _ _ trivial (fun hHeld => ?_)
              clear hK K hr hg hB1 hE1 hlE1
              try simp only [Act.put, List.setIfInBounds_toArray, List.set_cons_zero, List.set_cons_succ]
              refine wpAnyH_ready (rs := [6]) (by kernel_rfl) (by simp) ?_
              refine AllReadyH.cons (o := ⟨some 39, _, _, _, _, _⟩) rfl (fun K hK => ?_) AllReadyH.nil
              go_simp
              have hF3 : Blk (World.alloc W2 (.cells #[.string S] 9)) (World.heap W2).size [.string S] 9 := bkN1 rfl
              have hB3 := bA hB2 (.cells #[.string S] 9)
              have hO3 := hO2.alloc (.cells #[.string S] 9)
              refine hK.out _ _ trivial (fun hHeld => ?_)
              clear hK K hB2 hO2
              generalize World.alloc W2 (.cells #[.string S] 9) = W3 at *
              generalize (World.heap W2).size = gF at *
              try simp only [Act.put, List.setIfInBounds_toArray, List.set_cons_zero, List.set_cons_succ]
              refine wpAnyH_ready (rs := [7]) (by kernel_rfl) (by simp) ?_
              refine AllReadyH.cons (o := ⟨some 40, _, _, _, _, _⟩) rfl (fun K hK => ?_) AllReadyH.nil
              obtain ⟨A2, c2, W4, hr, hP4, hg⟩ := app_txts (m := 1) (c2 := 1) 22 hO3 (HFt.out W3 gF hF3) rfl (by omega)
              refine step_append_run (o := ⟨some 40, _, _, _, _, _⟩) rfl (.tmp 37) (.tmp 39) 22 rfl _ _ rfl rfl _ _ hr ?_
              have hB4 := hB3.grown hg hB3.size (fun z hz => (Dc.OwnE.ltB hO3.2 z hz).1)
              refine hK.out _ _ trivial (fun hHeld => ?_)
              clear hK K hr hg hB3 hF3 hO3
              try simp only [Act.put, List.setIfInBounds_toArray, List.set_cons_zero, List.set_cons_succ]
              refine wpAnyH_ready (rs := [11]) (by kernel_rfl) (by simp) ?_
              refine AllReadyH.cons (o := ⟨some 44, _, _, _, _, _⟩) rfl (fun K hK => ?_) AllReadyH.nil
              obtain ⟨A3, c3, W5, hr, hR5, hg⟩ := app_txts (c2 := c - k) 22 hP4 ((HDt.out).below hB4) HLd.out (by omega)
              refine step_append_run (o := ⟨some 44, _, _, _, _, _⟩) rfl (.tmp 40) (.tmp 43) 22 rfl _ _ rfl rfl _ _ hr ?_
              have hB5 := hB4.grown hg hB4.size (fun z hz => (Dc.OwnE.ltB hP4.2 z hz).1)
              refine hK.out _ _ trivial (fun hHeld => ?_)
              clear hK K hr hg hB4 hP4
              try simp only [Act.put, List.setIfInBounds_toArray, List.set_cons_zero, List.set_cons_succ]
              refine wpAnyH_take (i := 12) (oi := ⟨some 4, _, _, _, _, _⟩) (v := ?_) rfl (by kernel_rfl) (by kernel_rfl) (by kernel_rfl) (fun _ _ _ h => h) (Or.inl ⟨by rfl, ?_⟩) (by assumption) ?_
              rotate_left
              · intro W hSw; go_simp; try (with_reducible rfl)
              try simp only [Act.put, List.setIfInBounds_toArray, List.set_cons_zero, List.set_cons_succ]
              refine wpAnyH_done (by kernel_rfl) ?_ _
              refine NoPanic.normal ?_
              have hEnd := Lib.hid hR5
              have hBel := Lib.hid hB5
              clear hR5 hB5
              go_wp2_with fail
              go_ret
              exact HEnd.out _ _ _ hEnd.out hBel.out
            refine AllReadyH.cons (o := ⟨some 39, _, _, _, _, _⟩) rfl (fun K hK => ?_) AllReadyH.nil
            go_simp
            have hF2 : Blk (World.alloc W1 (.cells #[.string S] 9)) (World.heap W1).size [.string S] 9 := bkN1 rfl
            have hB2 := bA hB1 (.cells #[.string S] 9)
            have hE2 := bkA hE1 (.cells #[.string S] 9)
            have hlE2 := hlE1
            refine hK.out _ _ trivial (fun hHeld => ?_)
            clear hK K hB1 hE1 hlE1
            generalize World.alloc W1 (.cells #[.string S] 9) = W2 at *
            generalize (World.heap W1).size = gF at *
            try simp only [Act.put, List.setIfInBounds_toArray, List.set_cons_zero, List.set_cons_succ]
            refine wpAnyH_ready (rs := [4]) (by kernel_rfl) (by simp) ?_
            refine AllReadyH.cons (o := ⟨some 37, _, _, _, _, _⟩) rfl (fun K hK => ?_) AllReadyH.nil
            obtain ⟨A1, c1, W3, hr, hO3, hg⟩ := app_txts (c2 := c) 22 (⟨rfl, lit_ownB hE2 hlE2⟩ : OwnT W2 w.heap.size (some ⟨gE, 0, none⟩) 0 0 []) ((hkt.out).below hB2) HLk.out (by omega)
            rw [Nat.zero_add] at hr hO3
            rw [List.nil_append] at hO3
            refine step_append_run (o := ⟨some 37, _, _, _, _, _⟩) rfl (.tmp 33) (.tmp 36) 22 rfl _ _ rfl rfl _ _ hr ?_
            have hB3 := bG hB2 hg (fun z hz => by simp [ownB] at hz; omega)
            have hF3 := past_lit hE2 hF2 (by simp) hg
            refine hK.out _ _ trivial (fun hHeld => ?_)
            clear hK K hr hg hB2 hE2 hlE2 hF2
            try simp only [Act.put, List.setIfInBounds_toArray, List.set_cons_zero, List.set_cons_succ]
            refine wpAnyH_ready (rs := [7]) (by kernel_rfl) (by simp) ?_
            refine AllReadyH.cons (o := ⟨some 40, _, _, _, _, _⟩) rfl (fun K hK => ?_) AllReadyH.nil
            obtain ⟨A2, c2, W4, hr, hP4, hg⟩ := app_txts (m := 1) (c2 := 1) 22 hO3 (HFt.out W3 gF hF3) rfl (by omega)
            refine step_append_run (o := ⟨some 40, _, _, _, _, _⟩) rfl (.tmp 37) (.tmp 39) 22 rfl _ _ rfl rfl _ _ hr ?_
            have hB4 := hB3.grown hg hB3.size (fun z hz => (Dc.OwnE.ltB hO3.2 z hz).1)
            refine hK.out _ _ trivial (fun hHeld => ?_)
            clear hK K hr hg hB3 hF3 hO3
            try simp only [Act.put, List.setIfInBounds_toArray, List.set_cons_zero, List.set_cons_succ]
            refine wpAnyH_ready (rs := [11]) (by kernel_rfl) (by simp) ?_
            refine AllReadyH.cons (o := ⟨some 44, _, _, _, _, _⟩) rfl (fun K hK => ?_) AllReadyH.nil
            obtain ⟨A3, c3, W5, hr, hR5, hg⟩ := app_txts (c2 := c - k) 22 hP4 ((HDt.out).below hB4) HLd.out (by omega)
            refine step_append_run (o := ⟨some 44, _, _, _, _, _⟩) rfl (.tmp 40) (.tmp 43) 22 rfl _ _ rfl rfl _ _ hr ?_
            have hB5 := hB4.grown hg hB4.size (fun z hz => (Dc.OwnE.ltB hP4.2 z hz).1)
            refine hK.out _ _ trivial (fun hHeld => ?_)
            clear hK K hr hg hB4 hP4
            try simp only [Act.put, List.setIfInBounds_toArray, List.set_cons_zero, List.set_cons_succ]
            refine wpAnyH_take (i := 12) (oi := ⟨some 4, _, _, _, _, _⟩) (v := ?_) rfl (by kernel_rfl) (by kernel_rfl) (by kernel_rfl) (fun _ _ _ h => h) (Or.inl ⟨by rfl, ?_⟩) (by assumption) ?_
            rotate_left
            · intro W hSw; go_simp; try (with_reducible rfl)
            try simp only [Act.put, List.setIfInBounds_toArray, List.set_cons_zero, List.set_cons_succ]
            refine wpAnyH_done (by kernel_rfl) ?_ _
            refine NoPanic.normal ?_
            have hEnd := Lib.hid hR5
            have hBel := Lib.hid hB5
            clear hR5 hB5
            go_wp2_with fail
            go_ret
            exact HEnd.out _ _ _ hEnd.out hBel.out
          refine AllReadyH.cons (o := ⟨some 39, _, _, _, _, _⟩) rfl (fun K hK => ?_) AllReadyH.nil
          go_simp
          have hF1 : Blk (World.alloc W0 (.cells #[.string S] 9)) (World.heap W0).size [.string S] 9 := bkN1 rfl
          have hB1 := bA hB0 (.cells #[.string S] 9)
          refine hK.out _ _ trivial (fun hHeld => ?_)
          clear hK K hB0
          generalize World.alloc W0 (.cells #[.string S] 9) = W1 at *
          generalize (World.heap W0).size = gF at *
          try simp only [Act.put, List.setIfInBounds_toArray, List.set_cons_zero, List.set_cons_succ]
          refine wpAnyH_ready (rs := [0]) (by kernel_rfl) (by simp) ?_
          refine AllReadyH.cons (o := ⟨some 33, _, _, _, _, _⟩) rfl (fun K hK => ?_) AllReadyH.nil
          go_simp
          have hE2 : Blk (World.alloc W1 (.cells #[] 9)) (World.heap W1).size [] 9 := bkN0 rfl
          have hlE2 : w.heap.size ≤ (World.heap W1).size := hB1.size
          have hB2 := bA hB1 (.cells #[] 9)
          have hF2 := bkA hF1 (.cells #[] 9)
          refine hK.out _ _ trivial (fun hHeld => ?_)
          clear hK K hB1 hF1
          generalize World.alloc W1 (.cells #[] 9) = W2 at *
          generalize (World.heap W1).size = gE at *
          try simp only [Act.put, List.setIfInBounds_toArray, List.set_cons_zero, List.set_cons_succ]
          refine wpAnyH_ready (rs := [4]) (by kernel_rfl) (by simp) ?_
          refine AllReadyH.cons (o := ⟨some 37, _, _, _, _, _⟩) rfl (fun K hK => ?_) AllReadyH.nil
          obtain ⟨A1, c1, W3, hr, hO3, hg⟩ := app_txts (c2 := c) 22 (⟨rfl, lit_ownB hE2 hlE2⟩ : OwnT W2 w.heap.size (some ⟨gE, 0, none⟩) 0 0 []) ((hkt.out).below hB2) HLk.out (by omega)
          rw [Nat.zero_add] at hr hO3
          rw [List.nil_append] at hO3
          refine step_append_run (o := ⟨some 37, _, _, _, _, _⟩) rfl (.tmp 33) (.tmp 36) 22 rfl _ _ rfl rfl _ _ hr ?_
          have hB3 := bG hB2 hg (fun z hz => by simp [ownB] at hz; omega)
          have hF3 := past_lit hE2 hF2 (by simp) hg
          refine hK.out _ _ trivial (fun hHeld => ?_)
          clear hK K hr hg hB2 hE2 hlE2 hF2
          try simp only [Act.put, List.setIfInBounds_toArray, List.set_cons_zero, List.set_cons_succ]
          refine wpAnyH_ready (rs := [7]) (by kernel_rfl) (by simp) ?_
          refine AllReadyH.cons (o := ⟨some 40, _, _, _, _, _⟩) rfl (fun K hK => ?_) AllReadyH.nil
          obtain ⟨A2, c2, W4, hr, hP4, hg⟩ := app_txts (m := 1) (c2 := 1) 22 hO3 (HFt.out W3 gF hF3) rfl (by omega)
          refine step_append_run (o := ⟨some 40, _, _, _, _, _⟩) rfl (.tmp 37) (.tmp 39) 22 rfl _ _ rfl rfl _ _ hr ?_
          have hB4 := hB3.grown hg hB3.size (fun z hz => (Dc.OwnE.ltB hO3.2 z hz).1)
          refine hK.out _ _ trivial (fun hHeld => ?_)
          clear hK K hr hg hB3 hF3 hO3
          try simp only [Act.put, List.setIfInBounds_toArray, List.set_cons_zero, List.set_cons_succ]
          refine wpAnyH_ready (rs := [11]) (by kernel_rfl) (by simp) ?_
          refine AllReadyH.cons (o := ⟨some 44, _, _, _, _, _⟩) rfl (fun K hK => ?_) AllReadyH.nil
          obtain ⟨A3, c3, W5, hr, hR5, hg⟩ := app_txts (c2 := c - k) 22 hP4 ((HDt.out).below hB4) HLd.out (by omega)
          refine step_append_run (o := ⟨some 44, _, _, _, _, _⟩) rfl (.tmp 40) (.tmp 43) 22 rfl _ _ rfl rfl _ _ hr ?_
          have hB5 := hB4.grown hg hB4.size (fun z hz => (Dc.OwnE.ltB hP4.2 z hz).1)
          refine hK.out _ _ trivial (fun hHeld => ?_)
          clear hK K hr hg hB4 hP4
          try simp only [Act.put, List.setIfInBounds_toArray, List.set_cons_zero, List.set_cons_succ]
          refine wpAnyH_take (i := 12) (oi := ⟨some 4, _, _, _, _, _⟩) (v := ?_) rfl (by kernel_rfl) (by kernel_rfl) (by kernel_rfl) (fun _ _ _ h => h) (Or.inl ⟨by rfl, ?_⟩) (by assumption) ?_
          rotate_left
          · intro W hSw; go_simp; try (with_reducible rfl)
          try simp only [Act.put, List.setIfInBounds_toArray, List.set_cons_zero, List.set_cons_succ]
          refine wpAnyH_done (by kernel_rfl) ?_ _
          refine NoPanic.normal ?_
          have hEnd := Lib.hid hR5
          have hBel := Lib.hid hB5
          clear hR5 hB5
          go_wp2_with fail
          go_ret
          exact HEnd.out _ _ _ hEnd.out hBel.out
    · have hnl : ¬ ((k : Int) < (n : Int)) := by omega
      have hI := HIns.out k (by have := HL.out; omega) hall.out (fun h => absurd h (by have := HL.out; omega))
      rw [if_neg (fun h => absurd h.1 (by have := HL.out; omega))] at hI
      have HI := Lib.hid hI
      clear hI hall hge
      have hkn : k ≤ l.length := by have := HL.out; omega
      have HLk := Lib.hid (show (l.take k).length = k by rw [List.length_take]; exact Nat.min_eq_left hkn)
      have HLd := Lib.hid (show (l.drop k).length = n - k by rw [List.length_drop, HL.out])
      have hkt := Lib.hid (HTk.out k)
      have hdt := HTd.out k
      have hch := fun W => cut_hi b off n c k (by omega) hc2 W
      have hcl := fun W => cut_lo b off n c k (by omega) W
      obtain ⟨ad, had⟩ : ∃ ad : Addr, (if c = k then (⟨b, off, none⟩ : Addr) else ⟨b, off + k, none⟩) = ad := ⟨_, rfl⟩
      rw [had] at hdt
      simp only [had] at hcl
      have HDt := Lib.hid hdt
      have HEnd : Hid (∀ (A' : Option Addr) (c' : Nat) (w' : World), OwnT w' w.heap.size A' (k + 1 + (n - k)) c' (l.take k ++ [s] ++ l.drop k) → Below w.heap.size w w' → ∃ A2 c2, Ending.returned (.slice A' (k + 1 + (n - k)) c') = .returned (.slice A2 (insT l s).length c2) ∧ TxF (fun x => x = b ∨ w.heap.size ≤ x) w' A2 (insT l s) ∧ (insT l s).length ≤ c2 ∧ c2 ≤ 9223372036854775807 ∧ Below w.heap.size w w') := Lib.hid fun A' c' w' ho hb => by
        obtain ⟨h1, h2⟩ := own_caps ho (by omega)
        rw [HI.out]
        rw [show (l.take k ++ [s] ++ l.drop k).length = k + 1 + (n - k) from ho.1]
        exact ⟨A', c', rfl, (ownT_F ho).kept (Nat.le_refl _) (fun _ _ _ => rfl) (fun x hf _ => .inr hf.1), h1, h2, hb⟩
      clear had hdt hkn HIns HLs HEq HTk HTd HI HL hc HT
      generalize l.take k = lk at *
      generalize l.drop k = ld at *
      go_upto_region 6 with fail
      refine wp_region_noPanic ?_
      refine wp_region_held_drew (S := fun _ => True) (by kernel_rfl) trivial (fun hHeld => ?_)
      have hB0 : Below w.heap.size w w.drew := bD (Below.refl _ _)
      generalize w.drew = W0 at *
      refine wpAnyH_take (i := 1) (oi := ⟨some 34, _, _, _, _, _⟩) (v := ?_) rfl (by kernel_rfl) (by kernel_rfl) (by kernel_rfl) (fun _ _ _ h => h) (Or.inl ⟨by rfl, ?_⟩) (by assumption) ?_
      rotate_left
      · intro W hSw; go_simp; try (with_reducible rfl)
      try simp only [Act.put, List.setIfInBounds_toArray, List.set_cons_zero, List.set_cons_succ]
      refine wpAnyH_take (i := 2) (oi := ⟨some 35, _, _, _, _, _⟩) (v := ?_) rfl (by kernel_rfl) (by kernel_rfl) (by kernel_rfl) (fun _ _ _ h => h) (Or.inl ⟨by rfl, ?_⟩) (by assumption) ?_
      rotate_left
      · intro W hSw; go_simp; try (with_reducible rfl)
      try simp only [Act.put, List.setIfInBounds_toArray, List.set_cons_zero, List.set_cons_succ]
      refine wpAnyH_take (i := 3) (oi := ⟨some 36, _, _, _, _, _⟩) (v := ?_) rfl (by kernel_rfl) (by kernel_rfl) (by kernel_rfl) (fun _ _ _ h => h) (Or.inl ⟨by rfl, ?_⟩) (by assumption) ?_
      rotate_left
      · intro W hSw; go_simp; try (with_reducible rfl)
      try simp only [Act.put, List.setIfInBounds_toArray, List.set_cons_zero, List.set_cons_succ]
      refine wpAnyH_take (i := 5) (oi := ⟨some 38, _, _, _, _, _⟩) (v := ?_) rfl (by kernel_rfl) (by kernel_rfl) (by kernel_rfl) (fun _ _ _ h => h) (Or.inl ⟨by rfl, ?_⟩) (by assumption) ?_
      rotate_left
      · intro W hSw; go_simp; try (with_reducible rfl)
      try simp only [Act.put, List.setIfInBounds_toArray, List.set_cons_zero, List.set_cons_succ]
      refine wpAnyH_take (i := 8) (oi := ⟨some 41, _, _, _, _, _⟩) (v := ?_) rfl (by kernel_rfl) (by kernel_rfl) (by kernel_rfl) (fun _ _ _ h => h) (Or.inl ⟨by rfl, ?_⟩) (by assumption) ?_
      rotate_left
      · intro W hSw; go_simp; try (with_reducible rfl)
      try simp only [Act.put, List.setIfInBounds_toArray, List.set_cons_zero, List.set_cons_succ]
      refine wpAnyH_take (i := 9) (oi := ⟨some 42, _, _, _, _, _⟩) (v := ?_) rfl (by kernel_rfl) (by kernel_rfl) (by kernel_rfl) (fun _ _ _ h => h) (Or.inl ⟨by rfl, ?_⟩) (by assumption) ?_
      rotate_left
      · intro W hSw; go_simp; try (with_reducible rfl)
      try simp only [Act.put, List.setIfInBounds_toArray, List.set_cons_zero, List.set_cons_succ]
      refine wpAnyH_take (i := 10) (oi := ⟨some 43, _, _, _, _, _⟩) (v := ?_) rfl (by kernel_rfl) (by kernel_rfl) (by kernel_rfl) (fun _ _ _ h => h) (Or.inl ⟨by rfl, ?_⟩) (by assumption) ?_
      rotate_left
      · intro W hSw; go_simp; try (with_reducible rfl)
      try simp only [Act.put, List.setIfInBounds_toArray, List.set_cons_zero, List.set_cons_succ]
      refine wpAnyH_ready (rs := [0, 6]) (by kernel_rfl) (by simp) ?_
      refine AllReadyH.cons (o := ⟨some 33, _, _, _, _, _⟩) rfl (fun K hK => ?_) ?_
      · skip
        go_simp
        have hE1 : Blk (World.alloc W0 (.cells #[] 9)) (World.heap W0).size [] 9 := bkN0 rfl
        have hlE1 : w.heap.size ≤ (World.heap W0).size := hB0.size
        have hB1 := bA hB0 (.cells #[] 9)
        refine hK.out _ _ trivial (fun hHeld => ?_)
        clear hK K hB0
        generalize World.alloc W0 (.cells #[] 9) = W1 at *
        generalize (World.heap W0).size = gE at *
        try simp only [Act.put, List.setIfInBounds_toArray, List.set_cons_zero, List.set_cons_succ]
        refine wpAnyH_ready (rs := [4, 6]) (by kernel_rfl) (by simp) ?_
        refine AllReadyH.cons (o := ⟨some 37, _, _, _, _, _⟩) rfl (fun K hK => ?_) ?_
        · skip
          obtain ⟨A1, c1, W2, hr, hO2, hg⟩ := app_txts (c2 := c) 22 (⟨rfl, lit_ownB hE1 hlE1⟩ : OwnT W1 w.heap.size (some ⟨gE, 0, none⟩) 0 0 []) ((hkt.out).below hB1) HLk.out (by omega)
          rw [Nat.zero_add] at hr hO2
          rw [List.nil_append] at hO2
          refine step_append_run (o := ⟨some 37, _, _, _, _, _⟩) rfl (.tmp 33) (.tmp 36) 22 rfl _ _ rfl rfl _ _ hr ?_
          have hB2 := bG hB1 hg (fun z hz => by simp [ownB] at hz; omega)
          refine hK.out _ _ trivial (fun hHeld => ?_)
          clear hK K hr hg hB1 hE1 hlE1
          try simp only [Act.put, List.setIfInBounds_toArray, List.set_cons_zero, List.set_cons_succ]
          refine wpAnyH_ready (rs := [6]) (by kernel_rfl) (by simp) ?_
          refine AllReadyH.cons (o := ⟨some 39, _, _, _, _, _⟩) rfl (fun K hK => ?_) AllReadyH.nil
          go_simp
          have hF3 : Blk (World.alloc W2 (.cells #[.string S] 9)) (World.heap W2).size [.string S] 9 := bkN1 rfl
          have hB3 := bA hB2 (.cells #[.string S] 9)
          have hO3 := hO2.alloc (.cells #[.string S] 9)
          refine hK.out _ _ trivial (fun hHeld => ?_)
          clear hK K hB2 hO2
          generalize World.alloc W2 (.cells #[.string S] 9) = W3 at *
          generalize (World.heap W2).size = gF at *
          try simp only [Act.put, List.setIfInBounds_toArray, List.set_cons_zero, List.set_cons_succ]
          refine wpAnyH_ready (rs := [7]) (by kernel_rfl) (by simp) ?_
          refine AllReadyH.cons (o := ⟨some 40, _, _, _, _, _⟩) rfl (fun K hK => ?_) AllReadyH.nil
          obtain ⟨A2, c2, W4, hr, hP4, hg⟩ := app_txts (m := 1) (c2 := 1) 22 hO3 (HFt.out W3 gF hF3) rfl (by omega)
          refine step_append_run (o := ⟨some 40, _, _, _, _, _⟩) rfl (.tmp 37) (.tmp 39) 22 rfl _ _ rfl rfl _ _ hr ?_
          have hB4 := hB3.grown hg hB3.size (fun z hz => (Dc.OwnE.ltB hO3.2 z hz).1)
          refine hK.out _ _ trivial (fun hHeld => ?_)
          clear hK K hr hg hB3 hF3 hO3
          try simp only [Act.put, List.setIfInBounds_toArray, List.set_cons_zero, List.set_cons_succ]
          refine wpAnyH_ready (rs := [11]) (by kernel_rfl) (by simp) ?_
          refine AllReadyH.cons (o := ⟨some 44, _, _, _, _, _⟩) rfl (fun K hK => ?_) AllReadyH.nil
          obtain ⟨A3, c3, W5, hr, hR5, hg⟩ := app_txts (c2 := c - k) 22 hP4 ((HDt.out).below hB4) HLd.out (by omega)
          refine step_append_run (o := ⟨some 44, _, _, _, _, _⟩) rfl (.tmp 40) (.tmp 43) 22 rfl _ _ rfl rfl _ _ hr ?_
          have hB5 := hB4.grown hg hB4.size (fun z hz => (Dc.OwnE.ltB hP4.2 z hz).1)
          refine hK.out _ _ trivial (fun hHeld => ?_)
          clear hK K hr hg hB4 hP4
          try simp only [Act.put, List.setIfInBounds_toArray, List.set_cons_zero, List.set_cons_succ]
          refine wpAnyH_take (i := 12) (oi := ⟨some 4, _, _, _, _, _⟩) (v := ?_) rfl (by kernel_rfl) (by kernel_rfl) (by kernel_rfl) (fun _ _ _ h => h) (Or.inl ⟨by rfl, ?_⟩) (by assumption) ?_
          rotate_left
          · intro W hSw; go_simp; try (with_reducible rfl)
          try simp only [Act.put, List.setIfInBounds_toArray, List.set_cons_zero, List.set_cons_succ]
          refine wpAnyH_done (by kernel_rfl) ?_ _
          refine NoPanic.normal ?_
          have hEnd := Lib.hid hR5
          have hBel := Lib.hid hB5
          clear hR5 hB5
          go_wp2_with fail
          go_ret
          exact HEnd.out _ _ _ hEnd.out hBel.out
        refine AllReadyH.cons (o := ⟨some 39, _, _, _, _, _⟩) rfl (fun K hK => ?_) AllReadyH.nil
        go_simp
        have hF2 : Blk (World.alloc W1 (.cells #[.string S] 9)) (World.heap W1).size [.string S] 9 := bkN1 rfl
        have hB2 := bA hB1 (.cells #[.string S] 9)
        have hE2 := bkA hE1 (.cells #[.string S] 9)
        have hlE2 := hlE1
        refine hK.out _ _ trivial (fun hHeld => ?_)
        clear hK K hB1 hE1 hlE1
        generalize World.alloc W1 (.cells #[.string S] 9) = W2 at *
        generalize (World.heap W1).size = gF at *
        try simp only [Act.put, List.setIfInBounds_toArray, List.set_cons_zero, List.set_cons_succ]
        refine wpAnyH_ready (rs := [4]) (by kernel_rfl) (by simp) ?_
        refine AllReadyH.cons (o := ⟨some 37, _, _, _, _, _⟩) rfl (fun K hK => ?_) AllReadyH.nil
        obtain ⟨A1, c1, W3, hr, hO3, hg⟩ := app_txts (c2 := c) 22 (⟨rfl, lit_ownB hE2 hlE2⟩ : OwnT W2 w.heap.size (some ⟨gE, 0, none⟩) 0 0 []) ((hkt.out).below hB2) HLk.out (by omega)
        rw [Nat.zero_add] at hr hO3
        rw [List.nil_append] at hO3
        refine step_append_run (o := ⟨some 37, _, _, _, _, _⟩) rfl (.tmp 33) (.tmp 36) 22 rfl _ _ rfl rfl _ _ hr ?_
        have hB3 := bG hB2 hg (fun z hz => by simp [ownB] at hz; omega)
        have hF3 := past_lit hE2 hF2 (by simp) hg
        refine hK.out _ _ trivial (fun hHeld => ?_)
        clear hK K hr hg hB2 hE2 hlE2 hF2
        try simp only [Act.put, List.setIfInBounds_toArray, List.set_cons_zero, List.set_cons_succ]
        refine wpAnyH_ready (rs := [7]) (by kernel_rfl) (by simp) ?_
        refine AllReadyH.cons (o := ⟨some 40, _, _, _, _, _⟩) rfl (fun K hK => ?_) AllReadyH.nil
        obtain ⟨A2, c2, W4, hr, hP4, hg⟩ := app_txts (m := 1) (c2 := 1) 22 hO3 (HFt.out W3 gF hF3) rfl (by omega)
        refine step_append_run (o := ⟨some 40, _, _, _, _, _⟩) rfl (.tmp 37) (.tmp 39) 22 rfl _ _ rfl rfl _ _ hr ?_
        have hB4 := hB3.grown hg hB3.size (fun z hz => (Dc.OwnE.ltB hO3.2 z hz).1)
        refine hK.out _ _ trivial (fun hHeld => ?_)
        clear hK K hr hg hB3 hF3 hO3
        try simp only [Act.put, List.setIfInBounds_toArray, List.set_cons_zero, List.set_cons_succ]
        refine wpAnyH_ready (rs := [11]) (by kernel_rfl) (by simp) ?_
        refine AllReadyH.cons (o := ⟨some 44, _, _, _, _, _⟩) rfl (fun K hK => ?_) AllReadyH.nil
        obtain ⟨A3, c3, W5, hr, hR5, hg⟩ := app_txts (c2 := c - k) 22 hP4 ((HDt.out).below hB4) HLd.out (by omega)
        refine step_append_run (o := ⟨some 44, _, _, _, _, _⟩) rfl (.tmp 40) (.tmp 43) 22 rfl _ _ rfl rfl _ _ hr ?_
        have hB5 := hB4.grown hg hB4.size (fun z hz => (Dc.OwnE.ltB hP4.2 z hz).1)
        refine hK.out _ _ trivial (fun hHeld => ?_)
        clear hK K hr hg hB4 hP4
        try simp only [Act.put, List.setIfInBounds_toArray, List.set_cons_zero, List.set_cons_succ]
        refine wpAnyH_take (i := 12) (oi := ⟨some 4, _, _, _, _, _⟩) (v := ?_) rfl (by kernel_rfl) (by kernel_rfl) (by kernel_rfl) (fun _ _ _ h => h) (Or.inl ⟨by rfl, ?_⟩) (by assumption) ?_
        rotate_left
        · intro W hSw; go_simp; try (with_reducible rfl)
        try simp only [Act.put, List.setIfInBounds_toArray, List.set_cons_zero, List.set_cons_succ]
        refine wpAnyH_done (by kernel_rfl) ?_ _
        refine NoPanic.normal ?_
        have hEnd := Lib.hid hR5
        have hBel := Lib.hid hB5
        clear hR5 hB5
        go_wp2_with fail
        go_ret
        exact HEnd.out _ _ _ hEnd.out hBel.out
      refine AllReadyH.cons (o := ⟨some 39, _, _, _, _, _⟩) rfl (fun K hK => ?_) AllReadyH.nil
      go_simp
      have hF1 : Blk (World.alloc W0 (.cells #[.string S] 9)) (World.heap W0).size [.string S] 9 := bkN1 rfl
      have hB1 := bA hB0 (.cells #[.string S] 9)
      refine hK.out _ _ trivial (fun hHeld => ?_)
      clear hK K hB0
      generalize World.alloc W0 (.cells #[.string S] 9) = W1 at *
      generalize (World.heap W0).size = gF at *
      try simp only [Act.put, List.setIfInBounds_toArray, List.set_cons_zero, List.set_cons_succ]
      refine wpAnyH_ready (rs := [0]) (by kernel_rfl) (by simp) ?_
      refine AllReadyH.cons (o := ⟨some 33, _, _, _, _, _⟩) rfl (fun K hK => ?_) AllReadyH.nil
      go_simp
      have hE2 : Blk (World.alloc W1 (.cells #[] 9)) (World.heap W1).size [] 9 := bkN0 rfl
      have hlE2 : w.heap.size ≤ (World.heap W1).size := hB1.size
      have hB2 := bA hB1 (.cells #[] 9)
      have hF2 := bkA hF1 (.cells #[] 9)
      refine hK.out _ _ trivial (fun hHeld => ?_)
      clear hK K hB1 hF1
      generalize World.alloc W1 (.cells #[] 9) = W2 at *
      generalize (World.heap W1).size = gE at *
      try simp only [Act.put, List.setIfInBounds_toArray, List.set_cons_zero, List.set_cons_succ]
      refine wpAnyH_ready (rs := [4]) (by kernel_rfl) (by simp) ?_
      refine AllReadyH.cons (o := ⟨some 37, _, _, _, _, _⟩) rfl (fun K hK => ?_) AllReadyH.nil
      obtain ⟨A1, c1, W3, hr, hO3, hg⟩ := app_txts (c2 := c) 22 (⟨rfl, lit_ownB hE2 hlE2⟩ : OwnT W2 w.heap.size (some ⟨gE, 0, none⟩) 0 0 []) ((hkt.out).below hB2) HLk.out (by omega)
      rw [Nat.zero_add] at hr hO3
      rw [List.nil_append] at hO3
      refine step_append_run (o := ⟨some 37, _, _, _, _, _⟩) rfl (.tmp 33) (.tmp 36) 22 rfl _ _ rfl rfl _ _ hr ?_
      have hB3 := bG hB2 hg (fun z hz => by simp [ownB] at hz; omega)
      have hF3 := past_lit hE2 hF2 (by simp) hg
      refine hK.out _ _ trivial (fun hHeld => ?_)
      clear hK K hr hg hB2 hE2 hlE2 hF2
      try simp only [Act.put, List.setIfInBounds_toArray, List.set_cons_zero, List.set_cons_succ]
      refine wpAnyH_ready (rs := [7]) (by kernel_rfl) (by simp) ?_
      refine AllReadyH.cons (o := ⟨some 40, _, _, _, _, _⟩) rfl (fun K hK => ?_) AllReadyH.nil
      obtain ⟨A2, c2, W4, hr, hP4, hg⟩ := app_txts (m := 1) (c2 := 1) 22 hO3 (HFt.out W3 gF hF3) rfl (by omega)
      refine step_append_run (o := ⟨some 40, _, _, _, _, _⟩) rfl (.tmp 37) (.tmp 39) 22 rfl _ _ rfl rfl _ _ hr ?_
      have hB4 := hB3.grown hg hB3.size (fun z hz => (Dc.OwnE.ltB hO3.2 z hz).1)
      refine hK.out _ _ trivial (fun hHeld => ?_)
      clear hK K hr hg hB3 hF3 hO3
      try simp only [Act.put, List.setIfInBounds_toArray, List.set_cons_zero, List.set_cons_succ]
      refine wpAnyH_ready (rs := [11]) (by kernel_rfl) (by simp) ?_
      refine AllReadyH.cons (o := ⟨some 44, _, _, _, _, _⟩) rfl (fun K hK => ?_) AllReadyH.nil
      obtain ⟨A3, c3, W5, hr, hR5, hg⟩ := app_txts (c2 := c - k) 22 hP4 ((HDt.out).below hB4) HLd.out (by omega)
      refine step_append_run (o := ⟨some 44, _, _, _, _, _⟩) rfl (.tmp 40) (.tmp 43) 22 rfl _ _ rfl rfl _ _ hr ?_
      have hB5 := hB4.grown hg hB4.size (fun z hz => (Dc.OwnE.ltB hP4.2 z hz).1)
      refine hK.out _ _ trivial (fun hHeld => ?_)
      clear hK K hr hg hB4 hP4
      try simp only [Act.put, List.setIfInBounds_toArray, List.set_cons_zero, List.set_cons_succ]
      refine wpAnyH_take (i := 12) (oi := ⟨some 4, _, _, _, _, _⟩) (v := ?_) rfl (by kernel_rfl) (by kernel_rfl) (by kernel_rfl) (fun _ _ _ h => h) (Or.inl ⟨by rfl, ?_⟩) (by assumption) ?_
      rotate_left
      · intro W hSw; go_simp; try (with_reducible rfl)
      try simp only [Act.put, List.setIfInBounds_toArray, List.set_cons_zero, List.set_cons_succ]
      refine wpAnyH_done (by kernel_rfl) ?_ _
      refine NoPanic.normal ?_
      have hEnd := Lib.hid hR5
      have hBel := Lib.hid hB5
      clear hR5 hB5
      go_wp2_with fail
      go_ret
      exact HEnd.out _ _ _ hEnd.out hBel.out
end Go.Proofs.Ytpfkhcgeblihcaa.Uda

/-
  The document's way to put a pair into a row: plain, and the row under way.
-/
namespace Go.Proofs.Ytpfkhcgeblihcaa.Udb
open Go.ChangeShapes Go.WideShapes Go.ChangeAt Go.RowKit
open Bytes8 Blk8 Own8 OwnM OwnE OwnA Dc Fa Fb Fo Pr8 Pv8 Qa Qb Qj Uda
set_option linter.unusedVariables false
set_option maxRecDepth 100000
set_option linter.unusedSimpArgs false

/-! ## plain -/
def stA (p : PR) (z : RW × Bool) (a : AL) : RW × Bool :=
  if a.1 = p.1 then (z.1 ++ [(p.1, insT a.2 p.2)], true) else if z.2 = false ∧ ltL p.1 a.1 = true then (z.1 ++ [(p.1, [p.2])] ++ [a], true) else (z.1 ++ [a], z.2)
def finA (p : PR) (z : RW × Bool) : RW := if z.2 = false then z.1 ++ [(p.1, [p.2])] else z.1
theorem stA_in (p : PR) : ∀ (l : RW) (acc : RW), (∀ a ∈ l, a.1 ≠ p.1) → l.foldl (stA p) (acc, true) = (acc ++ l, true)
  | [], acc, _ => by simp
  | a :: l, acc, h => by
    rw [List.foldl_cons]
    have : stA p (acc, true) a = (acc ++ [a], true) := by
      unfold stA
      rw [if_neg (h a (by simp)), if_neg (fun h => by cases h.1)]
    rw [this, stA_in p l (acc ++ [a]) (fun b hb => h b (by simp [hb]))]
    simp
theorem finA_ins (p : PR) : ∀ (l : RW) (acc : RW), Ris l → finA p (l.foldl (stA p) (acc, false)) = acc ++ insA l p
  | [], acc, _ => rfl
  | a :: l, acc, h => by
    have hh := h.head
    rw [List.foldl_cons]
    unfold insA
    by_cases e : a.1 = p.1
    · have : stA p (acc, false) a = (acc ++ [(p.1, insT a.2 p.2)], true) := by unfold stA; rw [if_pos e]
      rw [this, if_pos e, stA_in p l _ (fun b hb e2 => by
        have h1 := hh b hb
        rw [e, e2, ltL_irrefl] at h1
        cases h1)]
      unfold finA
      simp
    · by_cases e2 : ltL p.1 a.1 = true
      · have : stA p (acc, false) a = (acc ++ [(p.1, [p.2])] ++ [a], true) := by unfold stA; rw [if_neg e, if_pos ⟨rfl, e2⟩]
        rw [this, if_neg e, if_pos e2, stA_in p l _ (fun b hb e3 => by
          have h1 := ltL_trans _ _ _ e2 (hh b hb)
          rw [e3, ltL_irrefl] at h1
          cases h1)]
        unfold finA
        simp
      · have : stA p (acc, false) a = (acc ++ [a], false) := by unfold stA; rw [if_neg e, if_neg (fun h => e2 h.2)]
        rw [this, if_neg e, if_neg e2, finA_ins p l (acc ++ [a]) h.tail]
        simp

/-! ## the row under way -/
structure VOk (vs : List TX) (v : VC) : Prop where
  place : ∃ b off, v.1 = some ⟨b, off, none⟩
  cap : vs.length ≤ v.2
  cap2 : v.2 ≤ 9223372036854775807
abbrev nA (A : Option Addr) (b : Nat) : Prop := ownB A ≠ some b
def RwD (G : Nat → Prop) (w : World) (B : Nat) (A : Option Addr) (n c : Nat) (r : RW) : Prop := ∃ V : List VC, V.length = r.length ∧ n = r.length ∧ OwnE 38 2 w B A n c (cellsA r V) ∧
  ∀ i, i < r.length → VOk (r.getD i nilA).2 (V.getD i (none, 0)) ∧ TxF (fun b => nA A b ∧ G b) w (V.getD i (none, 0)).1 (r.getD i nilA).2
theorem RwD.nil (G : Nat → Prop) (w : World) (B : Nat) (h : B ≤ w.heap.size) : RwD G w B none 0 0 [] := ⟨[], rfl, rfl, OwnE.nil w B h, fun i hi => absurd hi (by simp)⟩
theorem RwD.kept {G : Nat → Prop} {w w' : World} {B n c : Nat} {A : Option Addr} {r : RW} (h : RwD G w B A n c r) (hb : Below w.heap.size w w') : RwD G w' B A n c r := by
  obtain ⟨V, h1, h2, h3, h4⟩ := h
  exact ⟨V, h1, h2, h3.kept hb (Nat.le_refl _), fun i hi => ⟨(h4 i hi).1, (h4 i hi).2.kept hb.size (fun b _ hlt => hb.block b hlt) (fun b hf _ => hf)⟩⟩
theorem RwD.app {G : Nat → Prop} {w : World} {B n c g : Nat} {A : Option Addr} {r : RW} {nm : TX} {vs : List TX} {v : VC} (ty : TypeId) (h : RwD G w B A n c r) (hl : Blk w g [.string (T nm), .slice v.1 vs.length v.2] 38) (hv : VOk vs v) (ht : TxF (fun b => nA A b ∧ G b) w v.1 vs) (hn : n ≤ 1000) :
    ∃ A' c' w', (Builtin.append_ #[36, 36] ty #[.slice A n c, .slice (some ⟨g, 0, none⟩) 1 1]).run Try.prog w = .ok (.slice A' (n + 1) c') w' ∧ RwD G w' B A' (n + 1) c' (r ++ [(nm, vs)]) ∧ w.grownBy w' (ownB A) := by
  obtain ⟨V, h1, h2, h3, h4⟩ := h
  obtain ⟨A', c', w', hr, ho, hg, hat⟩ := run_append_elt_at altElt w ty B A n c (cellsA r V) h3 ⟨g, 0, none⟩ 1 1 [.string (T nm), .slice v.1 vs.length v.2] rfl (Blk.news hl) (by intro u hu; simp at hu; rcases hu with rfl | rfl <;> rfl) (by omega) (by omega) (by unfold maxLen; omega)
  have key : ∀ {a : Option Addr} {us : List TX}, TxF (fun b => nA A b ∧ G b) w a us → TxF (fun b => nA A' b ∧ G b) w' a us := fun hT => hT.kept hg.size (fun b hf hlt => grown_keeps hg hlt hf.1) (fun b hf hlt => ⟨fun e => by
    rcases hat with h5 | h5
    · exact hf.1 (h5 ▸ e)
    · rw [h5] at e; injection e with e; omega, hf.2⟩)
  refine ⟨A', c', w', hr, ⟨V ++ [v], by simp [h1], by simp [h2], by rw [cellsA_snoc r V (nm, vs) v h1]; exact ho, fun i hi => ?_⟩, hg⟩
  rcases Nat.lt_or_ge i r.length with h5 | h5
  · rw [List.getD_eq_getElem?_getD (l := r ++ _), List.getElem?_append_left h5, ← List.getD_eq_getElem?_getD, List.getD_eq_getElem?_getD (l := V ++ _), List.getElem?_append_left (by omega), ← List.getD_eq_getElem?_getD]
    exact ⟨(h4 i h5).1, key (h4 i h5).2⟩
  · have e : i = r.length := by simp at hi; omega
    subst e
    rw [List.getD_eq_getElem?_getD (l := r ++ _), List.getElem?_append_right (Nat.le_refl _), List.getD_eq_getElem?_getD (l := V ++ _), List.getElem?_append_right (by omega), h1, Nat.sub_self]
    exact ⟨hv, key ht⟩
/-- A row that can be read, with the room of its values. -/
def AlC (G : Nat → Prop) (w : World) (a : Option Addr) (l : RW) : Prop :=
  ∀ i, i < l.length → ∃ b off b2 off2 c2, a = some ⟨b, off, none⟩ ∧ b < w.heap.size ∧ w.cell? ⟨b, off + i * 2, none⟩ = some (.string (T (l.getD i nilA).1)) ∧ w.cell? ⟨b, off + i * 2 + 1, none⟩ = some (.slice (some ⟨b2, off2, none⟩) (l.getD i nilA).2.length c2) ∧ (l.getD i nilA).2.length ≤ c2 ∧ c2 ≤ 9223372036854775807 ∧ TxF G w (some ⟨b2, off2, none⟩) (l.getD i nilA).2
theorem AlC.below {G : Nat → Prop} {w w' : World} {a : Option Addr} {l : RW} (h : AlC G w a l) (hb : Below w.heap.size w w') : AlC G w' a l := fun i hi => by
  obtain ⟨b, off, b2, off2, c2, e, h1, h2, h3, h4, h5, h6⟩ := h i hi
  exact ⟨b, off, b2, off2, c2, e, Nat.lt_of_lt_of_le h1 hb.size, (Below.cell (p := ⟨b, off + i * 2, none⟩) hb h1).trans h2, (Below.cell (p := ⟨b, off + i * 2 + 1, none⟩) hb h1).trans h3, h4, h5, h6.kept hb.size (fun x _ hlt => hb.block x hlt) (fun x hf _ => hf)⟩
theorem RwD.alc {G : Nat → Prop} {w : World} {B n c : Nat} {A : Option Addr} {r : RW} (h : RwD G w B A n c r) : AlC G w A r := fun i hi => by
  obtain ⟨V, h1, h2, h3, h4⟩ := h
  obtain ⟨⟨⟨b2, off2, e2⟩, hc, hc2⟩, hT⟩ := h4 i hi
  have hl := cellsA_len r V h1
  obtain ⟨g1, e1, _, hlt, k1⟩ := h3.cell (i := i * 2) (by omega)
  obtain ⟨g2, e3, _, _, k2⟩ := h3.cell (i := i * 2 + 1) (by omega)
  subst e1
  injection e3 with e3; injection e3 with e3; subst e3
  obtain ⟨c0, c1⟩ := cellsA_at r V i h1 hi
  refine ⟨g1, 0, b2, off2, (V.getD i (none, 0)).2, rfl, hlt, by rw [Nat.zero_add, k1, c0], by rw [Nat.zero_add, k2, c1, e2], hc, hc2, ?_⟩
  rw [← e2]; exact hT.kept (Nat.le_refl _) (fun _ _ _ => rfl) (fun x hf _ => hf.2)
theorem AlC.als {G : Nat → Prop} {w : World} {a : Option Addr} {l : RW} (h : AlC G w a l) : Als w a l := fun i hi => by
  obtain ⟨b, off, b2, off2, c2, e, h1, h2, h3, h4, h5, h6⟩ := h i hi
  exact ⟨b, off, _, c2, e, h1, h2, h3, h6.txts⟩
theorem txF_old {F : Nat → Prop} {w : World} {a : Option Addr} {vs : List TX} (h : Txts w a vs) (hF : ∀ b, b < w.heap.size → F b) : TxF F w a vs := fun i hi => by
  obtain ⟨b, off, e, h1, h2⟩ := h i hi
  exact ⟨b, off, e, hF b h1, h1, h2⟩
theorem at_slot (n : Nat) {P : Program} {ops : Array Oper} {Q : Exit → Act → World → Prop} {rest : List Oper} {a : Act} {w : World} {op : Op} {ty : TypeId} {pos : String} {af : Array Edge} {gd : Option (Nat × Bool)}
    (h : wpList P ops Q (⟨some n, op, ty, pos, af, gd⟩ :: rest) a w) : wpList P ops Q (⟨some n, op, ty, pos, af, gd⟩ :: rest) a w := h
theorem take_more {α : Type} {l : List α} {i : Nat} {d : α} (hi : i < l.length) : l.take (i + 1) = l.take i ++ [l.getD i d] := by
  rw [List.take_add_one, List.getElem?_eq_getElem hi]
  simp [List.getElem?_eq_getElem hi]
theorem fold_more {p : PR} {l : RW} {i : Nat} {z : RW × Bool} (hi : i < l.length) (h : (l.take i).foldl (stA p) ([], false) = z) : (l.take (i + 1)).foldl (stA p) ([], false) = stA p z (l.getD i nilA) := by
  rw [take_more hi (d := nilA), List.foldl_append, h]; rfl
theorem RwD.lt {G : Nat → Prop} {w : World} {B n c : Nat} {A : Option Addr} {r : RW} (h : RwD G w B A n c r) : ∀ z, ownB A = some z → B ≤ z ∧ z < w.heap.size := by
  obtain ⟨V, h1, h2, h3, h4⟩ := h
  exact Dc.OwnE.ltB h3
theorem RwD.base {G : Nat → Prop} {w : World} {B n c : Nat} {A : Option Addr} {r : RW} (h : RwD G w B A n c r) {B' : Nat} (hb : B' ≤ B) : RwD G w B' A n c r := by
  obtain ⟨V, h1, h2, h3, h4⟩ := h
  refine ⟨V, h1, h2, ⟨Nat.le_trans hb h3.1, h3.2.1, ?_⟩, h4⟩
  rcases h3.2.2 with k | ⟨g, cap, cur, k1, k2, k3⟩
  · exact .inl k
  · exact .inr ⟨g, cap, cur, k1, Nat.le_trans hb k2, k3⟩
theorem RwD.len {G : Nat → Prop} {w : World} {B n c : Nat} {A : Option Addr} {r : RW} (h : RwD G w B A n c r) : n = r.length := by
  obtain ⟨V, h1, h2, _⟩ := h
  exact h2
theorem wpList_append_run {w : World} {ops : Array Oper} {rest : List Oper} {o : Oper} {a : Act} {Q : Exit → Act → World → Prop} (hgd : o.guard = none) (s x : Operand) (t : TypeId)
    (ho : o.op = .call { callee := .builtin .append, args := #[s, x], argTypes := #[t, t] }) (v1 v2 : Value) (hs : a.eval s = v1) (hx : a.eval x = v2) (v : Value) (w' : World)
    (hr : (Builtin.append_ #[t, t] o.type #[v1, v2]).run Try.prog w = .ok v w') (h : wpList Try.prog ops Q rest (a.put o.dst v) w') : wpList Try.prog ops Q (o :: rest) a w := by
  refine wpList_plain hgd fun K hK => ?_
  unfold Oper.wp
  simp [execOp, ho, resolve, invoke, builtin, hs, hx, hr, Result.andThen]
  exact hK _ _ h
/-- One alt more, of one text: two literals and an append. -/
theorem RwD.app_one {G : Nat → Prop} {w : World} {B n c : Nat} {A : Option Addr} {r : RW} {nm u : TX} (h : RwD G w B A n c r) (hG : ∀ b, B ≤ b → G b) (hn : n ≤ 1000) (hB : B ≤ w.heap.size) :
    ∃ A' c' w', (Builtin.append_ #[36, 36] 36 #[.slice A n c, .slice (some ⟨w.heap.size + 1, 0, none⟩) 1 1]).run Try.prog ((w.alloc (.cells #[.string (T u)] 9)).alloc (.cells #[.string (T nm), .slice (some ⟨w.heap.size, 0, none⟩) 1 1] 38)) = .ok (.slice A' (n + 1) c') w' ∧ RwD G w' B A' (n + 1) c' (r ++ [(nm, [u])]) ∧ Below B w w' := by
  have h1 := (h.kept ((Below.refl w.heap.size w).alloc (Nat.le_refl _) (.cells #[.string (T u)] 9)))
  have hb2 := ((Below.refl w.heap.size w).alloc (Nat.le_refl _) (.cells #[.string (T u)] 9)).alloc (by simp) (.cells #[.string (T nm), .slice (some ⟨w.heap.size, 0, none⟩) 1 1] 38)
  have h2 := h.kept hb2
  have hg : Blk ((w.alloc (.cells #[.string (T u)] 9)).alloc (.cells #[.string (T nm), .slice (some ⟨w.heap.size, 0, none⟩) 1 1] 38)) (w.heap.size + 1) [.string (T nm), .slice ((some ⟨w.heap.size, 0, none⟩ : Option Addr), 1).1 [u].length ((some ⟨w.heap.size, 0, none⟩ : Option Addr), 1).2] 38 := Blk.new_at _ [.string (T nm), .slice (some ⟨w.heap.size, 0, none⟩) 1 1] 38 _ (by simp)
  have hl : Blk ((w.alloc (.cells #[.string (T u)] 9)).alloc (.cells #[.string (T nm), .slice (some ⟨w.heap.size, 0, none⟩) 1 1] 38)) w.heap.size [.string (T u)] 9 := (Blk.new w [.string (T u)] 9).alloc _
  obtain ⟨A', c', w', hr, hR, hgr⟩ := h2.app 36 (v := (some ⟨w.heap.size, 0, none⟩, 1)) hg ⟨⟨_, _, rfl⟩, by simp, by simp⟩ (fun i hi => by
    have : i = 0 := by simp at hi; omega
    subst this
    exact ⟨w.heap.size, 0, rfl, ⟨fun e => by
      have := (h.lt _ e).2
      omega, hG _ hB⟩, hl.lt, hl.cell (i := 0) rfl⟩) hn
  exact ⟨A', c', w', hr, hR, (hb2.mono hB).grown hgr (Nat.le_trans hB hb2.size) (fun z hz => (h.lt z hz).1)⟩
/-- One alt more, as it stood in an elder row. -/
theorem RwD.app_old {G : Nat → Prop} {w : World} {B n c b2 off2 c2 : Nat} {A : Option Addr} {r : RW} {a : AL} (h : RwD G w B A n c r) (hn : n ≤ 1000) (hB : B ≤ w.heap.size) (hT : TxF (fun x => x < B ∧ G x) w (some ⟨b2, off2, none⟩) a.2) (hc : a.2.length ≤ c2) (hc2 : c2 ≤ 9223372036854775807) :
    ∃ A' c' w', (Builtin.append_ #[36, 36] 36 #[.slice A n c, .slice (some ⟨w.heap.size, 0, none⟩) 1 1]).run Try.prog (w.alloc (.cells #[.string (T a.1), .slice (some ⟨b2, off2, none⟩) a.2.length c2] 38)) = .ok (.slice A' (n + 1) c') w' ∧ RwD G w' B A' (n + 1) c' (r ++ [a]) ∧ Below B w w' := by
  have hb2 := (Below.refl w.heap.size w).alloc (Nat.le_refl _) (.cells #[.string (T a.1), .slice (some ⟨b2, off2, none⟩) a.2.length c2] 38)
  have h2 := h.kept hb2
  obtain ⟨A', c', w', hr, hR, hgr⟩ := h2.app 36 (nm := a.1) (vs := a.2) (v := (some ⟨b2, off2, none⟩, c2)) (Blk.new w [.string (T a.1), .slice (some ⟨b2, off2, none⟩) a.2.length c2] 38) ⟨⟨_, _, rfl⟩, hc, hc2⟩ (hT.kept hb2.size (fun b _ hlt => hb2.block b hlt) (fun b hf _ => ⟨fun e => by
    have h1 := (h.lt _ e).1
    have h2 := hf.1
    omega, hf.2⟩)) hn
  exact ⟨A', c', w', hr, hR, (hb2.mono hB).grown hgr (Nat.le_trans hB hb2.size) (fun z hz => (h.lt z hz).1)⟩
theorem run_gtr_str (a b : ByteArray) (w : World) : (binOp .gtr 9 (.string a) (.string b)).run Try.prog w = .ok (.bool !(Op.bytesLess a.toList b.toList || a.toList == b.toList)) w := by
  simp [binOp, run_underlying Try.underlying9, go_sem, Op.stringOp]
end Go.Proofs.Ytpfkhcgeblihcaa.Udb
