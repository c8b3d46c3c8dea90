/-
  A file of sectors, the document's own: Write and Copy.
-/
import Derived.Test.YtknkdppaalmknaaSra
import Derived.Test.YtknkdppaalmknaaSfc
namespace Go.Proofs.Ytknkdppaalmknaa.Srb
open Go.ChangeShapes Go.WideShapes Go.ChangeAt Go.RowKit
open Bytes8 Blk8 Own8 OwnM OwnA OwnE Kf Ta Fa Sfa Sfb Sfc Sra
set_option linter.unusedVariables false
set_option linter.unusedSimpArgs false

theorem Own.set {w : World} {base g n c : Nat} {l : List Int} (h : Own w base (some ⟨g, 0, none⟩) n c l) (i : Nat) {x : Int} (h0 : 0 ≤ x) (h1 : x < 256) : Own (w.setCell ⟨g, i, none⟩ (.int .u8 x)) base (some ⟨g, 0, none⟩) n c (l.set i x) := by
  refine ⟨h.1.set i h0 h1, by rw [List.length_set]; exact h.2.1, by simpa using h.2.2.1, ?_⟩
  have := (h.2.2.2.stored i (.int .u8 x)).1
  rw [List.map_set]
  exact this
theorem zero_elt (w : World) (T : TypeId) : Bytes (w.alloc (.cells #[.int .u8 0] T)) (some ⟨w.heap.size, 0, none⟩) [0] := (Blk.new w [.int .u8 0] T : Blk _ _ ([0].map (Value.int .u8)) T).bytes (by unfold AllB; decide)

/-- The file with other bytes, in a block of its own. -/
theorem FileR.laid {w W : World} {G : Nat → Prop} {g n c : Nat} {A : Option Addr} {now safe l : List Int} (h : FileR w G g now safe) (hb : Below w.heap.size w W) (ho : Own W w.heap.size A n c l) (hl : l.length ≤ 32768) (hs : safe.length ≤ l.length) :
    FileR (W.setCell ⟨g, 0, none⟩ (.slice A n c)) (Ext G w (W.setCell ⟨g, 0, none⟩ (.slice A n c))) g l safe ∧ KeptF (One g) w (W.setCell ⟨g, 0, none⟩ (.slice A n c)) := by
  obtain ⟨A0, n0, c0, B, m, d, ⟨v, hB⟩, _, _, _, _, h5, h6, h7, h8, _, h10, h11, h12, _⟩ := h
  have hlt := hB.lt
  have hcap := own_cap ho
  have hA : ∀ k, ownB A = some k → w.heap.size ≤ k ∧ k < W.heap.size := fun k hk => Kf.Own.block ho hk
  have K := KeptF.set1 W g 0 (.slice A n c)
  have hsz : (W.setCell ⟨g, 0, none⟩ (.slice A n c)).heap.size = W.heap.size := by simp
  have hbs := hb.size
  refine ⟨⟨A, n, c, B, m, d, ⟨v, (hB.below hb hlt).set_ 0 _⟩, (Kf.Own.keptF ho K fun k hk e => ?_).bytes, ho.2.1, hcap.1, hcap.2, Kf.Bytes.keptF (h5.below hb (Nat.le_refl _)) K (fun b off e h0 hf => (h10 b off e h0).1 hf), h6, h7, h8, fun b off e h0 => ?_, fun b off e h0 => ⟨(h10 b off e h0).1, .inl (h10 b off e h0).2⟩, .inl h11, Ext.foot h12 (by omega), hs, hl⟩, (KeptF.of_below hb).trans K fun _ _ h => h⟩
  · have := hA k hk
    have e2 : k = g := e
    omega
  · subst e
    have := hA b rfl
    exact ⟨by omega, .inr ⟨this.1, by omega⟩⟩

set_option maxRecDepth 100000 in
set_option maxHeartbeats 1000000 in
theorem rwrite_any (w : World) (G : Nat → Prop) (g : Nat) (now safe : List Int) (p : Int) (B : Option Addr) (m cb : Nat) (b : List Int) (h : FileR w G g now safe) (hb : Bytes w B b) (hm : b.length = m) (hm2 : m ≤ maxLen) (hp : -9223372036854775808 ≤ p) (hp2 : p ≤ 9223372036854775807) :
    Calls Try.prog 10 #[.pointer (some ⟨g, 0, none⟩), .int .i64 p, .slice B m cb] w fun e w' => e = .returned (.int .i64 (wcE p m)) ∧ FileR w' (Ext G w w') g (wcL now p b) safe ∧ KeptF (One g) w w' := by
  unfold maxLen at hm2
  have same : ∀ x : World, x = w → wcL now p b = now → FileR x (Ext G w x) g (wcL now p b) safe ∧ KeptF (One g) w x := fun x hx e => by
    subst hx
    rw [e]
    exact ⟨h.more (fun _ => Or.inl) (Ext.foot h.foot (Nat.le_refl _)), KeptF.refl _ _⟩
  unfold wcL at same ⊢
  rw [hm] at same ⊢
  unfold wcE at same ⊢
  by_cases h0 : p < 0
  · rw [if_pos h0] at same ⊢
    have S := Lib.hid (same w rfl rfl)
    clear h hb hm same
    go_enter Try.func10, Try.ntmps10
    go_wp2
    go_ret
    exact ⟨rfl, S.out⟩
  · rw [if_neg h0] at same ⊢
    by_cases h1 : 32768 - p < (m : Int)
    · rw [if_pos h1] at same ⊢
      have S := Lib.hid (same w rfl rfl)
      clear h hb hm same
      by_cases hpl : (32768 : Int) < p
      · have hd1 : decide ((32768 : Int) < p) = true := by simp; omega
        go_enter Try.func10, Try.ntmps10
        go_wp2
        go_ret
        exact ⟨rfl, S.out⟩
      · have hd1 : decide ((32768 : Int) < p) = false := by simp; omega
        have hd2 : decide (32768 - p < (m : Int)) = true := by simp; omega
        go_enter Try.func10, Try.ntmps10
        go_wp2
        go_ret
        exact ⟨rfl, S.out⟩
    · rw [if_neg h1] at same ⊢
      have hd1 : decide ((32768 : Int) < p) = false := by simp; omega
      have hd2 : decide (32768 - p < (m : Int)) = false := by simp; omega
      by_cases h2 : m = 0
      · have S := Lib.hid (same w rfl (by rw [if_pos rfl]; obtain rfl : b = [] := List.eq_nil_of_length_eq_zero (by omega); rfl))
        subst h2
        clear h hb hm same
        go_enter Try.func10, Try.ntmps10
        go_wp2
        go_ret
        exact ⟨rfl, S.out⟩
      · clear same
        rw [if_pos rfl]
        obtain ⟨p, rfl⟩ := Int.eq_ofNat_of_zero_le (show 0 ≤ p by omega)
        rw [show (p : Int).toNat = p from rfl]
        have HF := Lib.hid h
        obtain ⟨A, n, c, D, k, d, ⟨v, hB⟩, ho, hL, hnc, hcm, _, _, _, _, _, _, _, hfoot, hle, hmax⟩ := h
        have HB := Lib.hid hB
        have c0a : ∀ o, (w.alloc o).cell? ⟨g, 0, none⟩ = some (.slice A n c) := fun o => (hB.alloc o).cell (i := 0) rfl
        have Ho := Lib.hid (ho.below ((Below.refl w.heap.size w).alloc (Nat.le_refl _) (.cells #[] 5)) (Nat.le_refl _))
        have HL := Lib.hid hL
        have HM := Lib.hid hm
        have Hb := Lib.hid hb
        have Hwl := Lib.hid (show 0 < b.length → (wr now p b).length = max now.length (p + b.length) from fun h => wr_length h)
        obtain ⟨q, hq⟩ : ∃ q, q = p + m := ⟨_, rfl⟩
        have e1 : (p : Int) + (m : Int) = (q : Int) := by omega
        have hqb : q ≤ 32768 := by omega
        obtain ⟨N, hN⟩ : ∃ N, N = max n q := ⟨_, rfl⟩
        have hnb : n ≤ 32768 := by omega
        have HQ := Lib.hid hq
        have HN := Lib.hid hN
        have hz := AllB.zeros 1
        clear hB ho hL hm hb hq hN
        go_enter Try.func10, Try.ntmps10
        go_wp2_with (at_builtin; refine wpList_append_bytes rfl (.tmp 23) (.tmp 27) rfl w.heap.size _ 0 0 [] rfl (Own.made w _ (Nat.le_refl _)) A n c now rfl Ho.out HL.out (by omega) ?_; intro A2 c2 w2 ho2 hbel2; rw [Nat.zero_add, List.nil_append] at ho2; rw [Nat.zero_add]; have HO2 := Lib.hid ho2; have Hb2 := Lib.hid (((Below.refl w.heap.size w).alloc (Nat.le_refl _) _).trans hbel2); clear ho2)
        go_loopw [7] (fun s wr' => ∃ (l : List Int) (nn : Nat) (A1 : Option Addr) (c1 : Nat), s = .slice A1 nn c1 ∧ n ≤ nn ∧ nn ≤ N ∧ Hid (pad l q = pad now q) ∧ Hid (Own wr' w.heap.size A1 nn c1 l) ∧ Hid (Below w.heap.size w wr')) (fun s _ => match s with | .slice _ nn _ => N - nn | _ => 0)
        case atStart => exact ⟨now, n, A2, c2, rfl, Nat.le_refl _, by have := HN.out; omega, Lib.hid rfl, HO2, Hb2⟩
        case round =>
          obtain ⟨l, nn, A1, c1, rfl, hn1, hn2, hpad, hO, hBl⟩ := hrel
          have hNq := HN.out
          rcases Nat.lt_or_ge nn q with hlt | hge
          · have hin : (nn : Int) < (q : Int) := by omega
            clear hNq
            go_wp2_with (at_builtin; refine wpList_append_bytes rfl (.tmp 36) (.tmp 37) rfl w.heap.size A1 nn c1 l rfl (hO.out.alloc _) (some ⟨wr.heap.size, 0, none⟩) 1 1 [0] rfl (zero_elt wr _) rfl (by omega) ?_; intro A3 c3 w3 ho3 hbel3; have HO3 := Lib.hid ho3; have Hb3 := Lib.hid ((hBl.out.alloc hBl.out.size _).trans hbel3); clear ho3)
            go_round
            case rel => exact ⟨l ++ [0], nn + 1, A3, c3, rfl, by omega, by have := HN.out; omega, Lib.hid (by rw [pad_step (by rw [hO.out.2.1]; exact hlt)]; exact hpad.out), HO3, Hb3⟩
            case measure => have := HN.out; show N - (nn + 1) < N - nn; omega
          · obtain rfl : nn = N := by omega
            obtain rfl : l = pad now q := by rw [← hpad.out, pad_same (by rw [hO.out.2.1]; exact hge)]
            have hin : ¬ ((nn : Int) < (q : Int)) := by omega
            have hcN := own_cap hO.out
            obtain ⟨ga, rfl⟩ : ∃ ga, A1 = some ⟨ga, 0, none⟩ := by
              rcases hO.out.2.2.2.2 with ⟨he, h0⟩ | ⟨ga, _, _, he, _⟩
              · have := HQ.out; omega
              · injection he with e1 e2 e3
                exact ⟨ga, e1⟩
            have hgb := Kf.Own.block hO.out rfl
            clear hNq
            go_wp2
            go_loopw [8] (fun i wr' => ∃ k : Nat, k ≤ m ∧ i = .int .i64 (k : Int) ∧ Hid (Own wr' w.heap.size (some ⟨ga, 0, none⟩) nn c1 (wrTo now p b k)) ∧ Hid (Below w.heap.size w wr')) (fun i _ => m - (intOf i).toNat)
            case atStart => exact ⟨0, Nat.zero_le _, rfl, Lib.hid (by unfold wrTo; rw [HM.out, ← HQ.out]; exact hO.out), hBl⟩
            case round =>
              obtain ⟨k, hk, rfl, hO4, hB4⟩ := hrel
              have hqq := HQ.out
              rcases Nat.lt_or_ge k m with hlt | hge
              · have hin2 : (k : Int) < (m : Int) := by omega
                obtain ⟨bb, off, rfl, hbl, hc⟩ := (Hb.out.below hB4.out (Nat.le_refl _)).2 k (by rw [HM.out]; exact hlt)
                have hcell := hO4.out.2.2.2.cellAt (p + k) (by omega)
                have hfr := hO4.out.2.2.2.frozenAt (p + k)
                have e5 : (p : Int) + (k : Int) = ((p + k : Nat) : Int) := by omega
                obtain ⟨x0, x1⟩ := Hb.out.1.at_ k
                have hpk : p + k < nn := by omega
                have HS := Lib.hid (show wrTo now p b (k + 1) = (wrTo now p b k).set (p + k) (b.getD k 0) from rfl)
                rw [List.getElem?_map] at hcell
                obtain ⟨z, hz2⟩ : ∃ z, (wrTo now p b k)[p + k]? = some z := ⟨_, List.getElem?_eq_getElem (by rw [hO4.out.2.1]; exact hpk)⟩
                rw [hz2] at hcell
                clear hz2 hqq
                generalize b.getD k 0 = x at *
                generalize hpk2 : p + k = pk at *
                go_wp2
                go_round
                case rel => exact ⟨k + 1, by omega, by go_num, Lib.hid (by rw [HS.out]; exact Own.set hO4.out _ x0 x1), Lib.hid (hB4.out.setCell hgb.1 _)⟩
                case measure => simp [intOf]; omega
              · obtain rfl : k = m := by omega
                have hend := wrTo_end (now := now) (b := b) (p := p) (by rw [HM.out]; omega)
                rw [HM.out] at hend
                rw [hend] at hO4
                have hgl := HB.out.lt
                have HBr := Lib.hid (HB.out.below hB4.out hgl)
                have f0 := HBr.out.frozen 0
                have d0 := HBr.out.cell (i := 0) rfl
                have hwl := Hwl.out (by rw [HM.out]; omega)
                have hM := HM.out
                have hLL := HL.out
                have HR := Lib.hid (FileR.laid HF.out hB4.out hO4.out (by omega) (by omega))
                clear hend hqq
                go_wp2
                go_ret
                exact ⟨rfl, HR.out⟩

set_option maxRecDepth 100000 in
set_option maxHeartbeats 1000000 in
theorem rcopy_any (w : World) (G : Nat → Prop) (g : Nat) (now safe : List Int) (h : FileR w G g now safe) :
    Calls Try.prog 16 #[.pointer (some ⟨g, 0, none⟩)] w fun e w' => ∃ g', e = .returned (.pointer (some ⟨g', 0, none⟩)) ∧ FileR w' (Ext G w w') g' now safe ∧ Below w.heap.size w w' := by
  obtain ⟨A, n, c, B, m, d, ⟨v, hB⟩, h1, h2, h3, h4, h5, h6, h7, h8, h9, h10, h11, h12, h13⟩ := h
  have c0 := hB.cell (i := 0) rfl
  have c1 := hB.cell (i := 1) rfl
  have c2 := hB.cell (i := 2) rfl
  clear hB
  go_enter Try.func16, Try.ntmps16
  go_wp2_with fail
  go_region
  go_wp2
  go_ret
  have b0 := (Below.refl w.heap.size w).alloc (Nat.le_refl _) (.cells #[.slice A n c, .slice B m d, .int .i64 v] 29)
  have hB := Blk.new w [.slice A n c, .slice B m d, .int .i64 v] 29
  have hl : ∀ (X : Option Addr) (x : List Int), Bytes w X x → (∀ b off, X = some ⟨b, off, none⟩ → 0 < x.length → b ≠ g ∧ G b) → ∀ b off, X = some ⟨b, off, none⟩ → 0 < x.length → b ≠ w.heap.size ∧ Ext G w (w.alloc (.cells #[.slice A n c, .slice B m d, .int .i64 v] 29)).drew b := fun X x hX hG b off e h0 => by
    have h1 := (hG b off e h0).2
    have h2 := h12 b h1
    exact ⟨by omega, .inl h1⟩
  refine ⟨w.heap.size, rfl, ⟨A, n, c, B, m, d, ⟨v, hB.drew⟩, (h1.below b0 (Nat.le_refl _)).drew, h2, h3, h4, (h5.below b0 (Nat.le_refl _)).drew, h6, h7, h8, hl A now h1 h9, hl B safe h5 h10, .inr ⟨Nat.le_refl _, by simp⟩, Ext.foot h12 (by simp), h13⟩, b0.drew⟩
end Go.Proofs.Ytknkdppaalmknaa.Srb
