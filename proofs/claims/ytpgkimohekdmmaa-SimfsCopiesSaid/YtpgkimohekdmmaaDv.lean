/-
  The program's directory: Copy.
-/
import Derived.Test.YtpgkimohekdmmaaDu
import Derived.Deep.CutBlock
namespace Go.Proofs.Ytpgkimohekdmmaa.Dv
open Go.ChangeShapes Go.WideShapes Go.ChangeAt Go.RowKit
open Bytes8 Blk8 Own8 OwnA OwnM OwnE Fa Fo Ta Ua Kf Dm Dp Dc Dd Ds Du Sfb Go.Maps
set_option linter.unusedVariables false
set_option linter.unusedSimpArgs false
set_option maxRecDepth 100000

/-- The files copied so far, each in blocks of its own behind B. -/
structure Part (B : Nat) (w : World) (own : Nat → Nat) (M k : Nat) (D : DU) (S : Nat → Bool) (gs : Nat → Nat) (fl : Nat → Fl) : Prop where
  mf : w.ownsMap Try.prog 3 rP M k D
  vf : FilesV D S gs
  file : ∀ i, S i = true → FileP w (fun k => own k = i + 2) (gs i) (fl i).now (fl i).safe
  foot : ∀ k, own k ≠ 0 → B ≤ k ∧ k < w.heap.size
  three : ∀ k, own k = 0 ∨ 2 ≤ own k
theorem Part.below {B : Nat} {w w' : World} {own : Nat → Nat} {M k : Nat} {D : DU} {S : Nat → Bool} {gs : Nat → Nat} {fl : Nat → Fl} (h : Part B w own M k D S gs fl) (hb : Below w.heap.size w w') : Part B w' own M k D S gs fl :=
  ⟨map_keptF (F := None') h.mf (KeptF.of_below hb) (fun e => e), h.vf, fun i hi => (h.file i hi).below hb, fun k hk => ⟨(h.foot k hk).1, Nat.lt_of_lt_of_le (h.foot k hk).2 hb.size⟩, h.three⟩
theorem Part.kept {B : Nat} {w w' : World} {own : Nat → Nat} {M k : Nat} {D : DU} {S : Nat → Bool} {gs : Nat → Nat} {fl : Nat → Fl} {F : Nat → Prop} (h : Part B w own M k D S gs fl) (hk : KeptF F w w') (hM : ¬ F M) (hF : ∀ k, B ≤ k → ¬ F k) : Part B w' own M k D S gs fl :=
  ⟨map_keptF h.mf hk hM, h.vf, fun i hi => (h.file i hi).keptF hk (fun k e => by
    have e1 : own k = i + 2 := e
    exact hF k (h.foot k (by omega)).1), fun k hk' => ⟨(h.foot k hk').1, Nat.lt_of_lt_of_le (h.foot k hk').2 hk.size⟩, h.three⟩
theorem Part.step {B : Nat} {w w4 w5 : World} {own : Nat → Nat} {M k : Nat} {D D5 : DU} {S : Nat → Bool} {gs : Nat → Nat} {fl : Nat → Fl} {i q : Nat} (h : Part B w own M k D S gs fl) (hb : Below w.heap.size w w4) (hf : FileP w4 (Ext None' w w4) q (fl i).now (fl i).safe)
    (ht : w4.mapTurned w5 M) (hm : w5.ownsMap Try.prog 3 rP M (k + 1) D5) (hv : FilesV D5 (fun j => S j || j == i) (fun j => if j = i then q else gs j)) (hM : M < B) (hB : B ≤ w.heap.size) :
    ∃ own', Part B w5 own' M (k + 1) D5 (fun j => S j || j == i) (fun j => if j = i then q else gs j) fl := by
  have kT := turned_keptF ht
  have hsz := turned_size ht
  have hs4 := hb.size
  have o0 : ∀ k, w.heap.size ≤ k → own k = 0 := fun k hk => by
    rcases Nat.eq_zero_or_pos (own k) with e | e
    · exact e
    · have := (h.foot k (by omega)).2; omega
  refine ⟨fun k => if w.heap.size ≤ k ∧ k < w4.heap.size then i + 2 else own k, hm, hv, fun j hj => ?_, fun k hk => ?_, fun k => ?_⟩
  · by_cases e : j = i
    · subst e
      simp only [if_pos]
      refine (hf.keptF kT (fun k hk h2 => by
        have h2 : k = M := h2
        rcases hk with hk | hk
        · exact hk
        · omega)).more (fun k hk => by
        rcases hk with hk | hk
        · exact hk.elim
        · exact if_pos hk) (fun k hk => ?_)
      have e1 : (if w.heap.size ≤ k ∧ k < w4.heap.size then j + 2 else own k) = j + 2 := hk
      rw [hsz]
      split at e1
      · omega
      · have := (h.foot k (by omega)).2; omega
    · have hj2 : S j = true := by simpa [e] using hj
      simp only [if_neg e]
      refine (((h.file j hj2).below hb).keptF kT (fun k e2 h2 => by
        have e1 : own k = j + 2 := e2
        have h2 : k = M := h2
        have := (h.foot k (by omega)).1
        omega)).more (fun k e2 => ?_) (fun k hk => ?_)
      · have e1 : own k = j + 2 := e2
        have := (h.foot k (by omega)).2
        show (if w.heap.size ≤ k ∧ k < w4.heap.size then i + 2 else own k) = j + 2
        rw [if_neg (by omega)]; exact e1
      · have e1 : (if w.heap.size ≤ k ∧ k < w4.heap.size then i + 2 else own k) = j + 2 := hk
        rw [hsz]
        split at e1
        · omega
        · have := (h.foot k (by omega)).2; omega
  · rw [hsz]
    by_cases e : w.heap.size ≤ k ∧ k < w4.heap.size
    · omega
    · have hk : own k ≠ 0 := by simpa [e] using hk
      have := h.foot k hk
      omega
  · by_cases e : w.heap.size ≤ k ∧ k < w4.heap.size
    · right; show 2 ≤ (if _ then _ else _); rw [if_pos e]; omega
    · show (if _ then _ else _) = 0 ∨ 2 ≤ (if _ then _ else _)
      rw [if_neg e]; exact h.three k

theorem OwnE.base0 {E : TypeId} {size : Nat} {w : World} {base n c : Nat} {A : Option Addr} {xs : List Value} (h : OwnE E size w base A n c xs) : OwnE E size w 0 A n c xs := by
  refine ⟨Nat.zero_le _, h.2.1, ?_⟩
  rcases h.2.2 with h1 | ⟨g, cap, cur, h1, h2, h3⟩
  · exact .inl h1
  · exact .inr ⟨g, cap, cur, h1, Nat.zero_le _, h3⟩

/-- What Copy leaves. -/
theorem copy_end {w wr w7 w9 : World} {own own' : Nat → Nat} {g room made : Nat} {row : RowD} {fl : Nat → Fl} {fz : Int} {off : Bool} {Mf Mn : Nat} {Df Dn Dk : DU} {A A' : Option Addr} {n c c' kk k7 : Nat} {us : List Und} {S : Nat → Bool} {gs gs' : Nat → Nat}
    (hc : Core w own g room made row fl fz off Mf Mn Df Dn A n c us S gs) (hp : Part (w.heap.size + 3) wr own' (w.heap.size + 1) kk Dk S gs' fl) (hkk : kk ≤ Maps.size Df)
    (hb : Blk wr w.heap.size [.int .i64 (room : Int), .int .i64 (made : Int), .map (some (w.heap.size + 1)), .map (some Mn), .slice A n c, .int .i64 fz, .bool off] 56) (hB : Below w.heap.size w wr) (hs : w.heap.size + 3 ≤ wr.heap.size)
    (hm7 : w7.ownsMap Try.prog 9 (plainElem Try.prog 3) wr.heap.size k7 Dn) (hB7 : Below wr.heap.size wr w7)
    (hO9 : OwnE 73 1 w9 (w7.setCell ⟨w.heap.size, 3, none⟩ (.map (some wr.heap.size))).heap.size A' n c' (us.map Und.val)) (hB9 : Below (w7.setCell ⟨w.heap.size, 3, none⟩ (.map (some wr.heap.size))).heap.size (w7.setCell ⟨w.heap.size, 3, none⟩ (.map (some wr.heap.size))) w9) :
    Below w.heap.size w (w9.setCell ⟨w.heap.size, 4, none⟩ (.slice A' n c')) ∧ ∃ own'', Core (w9.setCell ⟨w.heap.size, 4, none⟩ (.slice A' n c')) own'' w.heap.size room made row fl fz off (w.heap.size + 1) wr.heap.size Dk Dn A' n c' us S gs' ∧ ∀ k, own'' k ≠ 0 → w.heap.size ≤ k ∨ (own'' k = 2 ∧ own k = 2) := by
  have hlt7 := hm7.lt
  have s8 : (w7.setCell ⟨w.heap.size, 3, none⟩ (.map (some wr.heap.size))).heap.size = w7.heap.size := by simp [World.setCell]
  have s10 : (w9.setCell ⟨w.heap.size, 4, none⟩ (.slice A' n c')).heap.size = w9.heap.size := by simp [World.setCell]
  have k8 := KeptF.set1 w7 w.heap.size 3 (.map (some wr.heap.size))
  have k10 := KeptF.set1 w9 w.heap.size 4 (.slice A' n c')
  have k9 := KeptF.of_below (F := One w.heap.size) hB9
  have kB : KeptF (One w.heap.size) w7 (w9.setCell ⟨w.heap.size, 4, none⟩ (.slice A' n c')) := (k8.trans k9 fun _ _ e => e).trans k10 fun _ _ e => e
  have kA : KeptF (One w.heap.size) wr (w9.setCell ⟨w.heap.size, 4, none⟩ (.slice A' n c')) := (KeptF.of_below (F := One w.heap.size) hB7).trans kB fun _ _ e => e
  have bA : Below w.heap.size w (w9.setCell ⟨w.heap.size, 4, none⟩ (.slice A' n c')) := hB.trans (kA.below hB.size (fun k e => Nat.le_of_eq (show k = w.heap.size from e).symm))
  have hcore := hc.below bA
  have hP := hp.kept kA (fun e => by have : w.heap.size + 1 = w.heap.size := e; omega) (fun k h1 e => by have : k = w.heap.size := e; omega)
  have hsz := kA.size
  have h79 : w7.heap.size ≤ w9.heap.size := by have := hB9.size; omega
  have hA' : ∀ k, ownB A' = some k → w7.heap.size ≤ k ∧ k < w9.heap.size := fun k e => by
    have := OwnE.blk hO9 e
    rw [s8] at this; exact this
  have hwr7 := hB7.size
  refine ⟨bA, fun k => if k = w.heap.size ∨ k = w.heap.size + 1 ∨ k = wr.heap.size ∨ ownB A' = some k then 1 else if k < w.heap.size then (if own k = 2 then 2 else 0) else own' k, ?_, fun k hk => ?_⟩
  · have hfile : ∀ k i, 3 ≤ i → (own' k = i ↔ (if k = w.heap.size ∨ k = w.heap.size + 1 ∨ k = wr.heap.size ∨ ownB A' = some k then 1 else if k < w.heap.size then (if own k = 2 then 2 else 0) else own' k) = i) := fun k i hi => by
      constructor
      · intro e
        have h1 := hp.foot k (by omega)
        rw [if_neg ?_, if_neg (by omega)]
        · exact e
        · rintro (h2 | h2 | h2 | h2)
          · omega
          · omega
          · omega
          · have := hA' k h2; omega
      · intro e
        split at e
        · omega
        · split at e
          · split at e <;> omega
          · exact e
    exact {
      blk := ((Kf.Blk.keptF ((Kf.Blk.keptF hb (KeptF.of_below (F := None') hB7) (fun e => e)).set_ 3 (.map (some wr.heap.size))) (KeptF.of_below (F := None') hB9) (fun e => e)).set_ 4 (.slice A' n c'))
      mf := map_small hP.mf
      vf := hP.vf
      mn := map_small (map_keptF hm7 kB (fun e => by have : wr.heap.size = w.heap.size := e; omega))
      vn := hc.vn
      pend := OwnE.keptF (OwnE.base0 hO9) k10 (fun k e e2 => by have := hA' k e; have e2 : k = w.heap.size := e2; omega)
      each := fun u hu => ⟨(hcore.each u hu).1, fun k e => by
        have h2 := (hc.each u hu).2.1 k e
        have h3 := hc.foot k (by omega)
        show (if k = w.heap.size ∨ k = w.heap.size + 1 ∨ k = wr.heap.size ∨ ownB A' = some k then 1 else if k < w.heap.size then (if own k = 2 then 2 else 0) else own' k) = 2
        rw [if_neg ?_, if_pos h3, if_pos h2]
        rintro (h4 | h4 | h4 | h4)
        · omega
        · omega
        · omega
        · have := hA' k h4; omega, (hc.each u hu).2.2⟩
      file := fun i hi => ⟨(hc.file i hi).1, (hP.file i hi).more (fun k e => (hfile k (i + 2) (by have := (hc.file i hi).1.1; omega)).1 e) (fun k e => (hP.foot k (by
        have e1 := (hfile k (i + 2) (by have := (hc.file i hi).1.1; omega)).2 e
        omega)).2)⟩
      tg := if_pos (.inl rfl)
      tMf := if_pos (.inr (.inl rfl))
      tMn := if_pos (.inr (.inr (.inl rfl)))
      tA := fun k e => by
        have := hA' k e
        exact ⟨if_pos (.inr (.inr (.inr e))), by omega, by omega, by omega⟩
      ne := ⟨by omega, by omega, by omega⟩
      foot := fun k hk => by
        rw [s10]
        split at hk
        · rename_i h2
          rcases h2 with h2 | h2 | h2 | h2
          · omega
          · omega
          · omega
          · exact (hA' k h2).2
        · split at hk
          · omega
          · have := (hp.foot k hk).2; omega
      fz64 := hc.fz64
      szf := by
        have h1 : Maps.size Dk ≤ kk := hp.mf.size_le
        have h2 := hc.szf
        omega
      mmax := hc.mmax
      pmax := hc.pmax
      rmax := hc.rmax }
  · have hk : (if k = w.heap.size ∨ k = w.heap.size + 1 ∨ k = wr.heap.size ∨ ownB A' = some k then 1 else if k < w.heap.size then (if own k = 2 then 2 else 0) else own' k) ≠ 0 := hk
    show _ ∨ ((if k = w.heap.size ∨ k = w.heap.size + 1 ∨ k = wr.heap.size ∨ ownB A' = some k then 1 else if k < w.heap.size then (if own k = 2 then 2 else 0) else own' k) = 2 ∧ own k = 2)
    rcases Nat.lt_or_ge k w.heap.size with h1 | h1
    · right
      have hno : ¬ (k = w.heap.size ∨ k = w.heap.size + 1 ∨ k = wr.heap.size ∨ ownB A' = some k) := by
        rintro (h4 | h4 | h4 | h4)
        · omega
        · omega
        · omega
        · have := hA' k h4; omega
      rw [if_neg hno, if_pos h1] at hk ⊢
      by_cases e : own k = 2
      · rw [if_pos e]; exact ⟨rfl, e⟩
      · rw [if_neg e] at hk; exact absurd rfl hk
    · exact .inl h1

theorem grown_of {w w' : World} (h : Below w.heap.size w w') : w.grownBy w' none := ⟨h.os, h.tape, h.output, h.size, fun k hk _ => h.block k hk⟩

set_option maxHeartbeats 4000000 in
theorem copy_any (w : World) (own : Nat → Nat) (g : Nat) (d : Dir) (h : DirP w own g d) :
    Calls Try.prog 26 #[.pointer (some ⟨g, 0, none⟩)] w fun e w' => ∃ g', e = .returned (.pointer (some ⟨g', 0, none⟩)) ∧ Below w.heap.size w w' ∧ ∃ own', DirP w' own' g' d ∧ ∀ k, own' k ≠ 0 → w.heap.size ≤ k ∨ (own' k = 2 ∧ own k = 2) := by
  have hmm := @run_makeMap Try.prog
  obtain ⟨fz, Mf, Mn, Df, Dn, A, n, c, us, S, gs, hc, hrest⟩ := h
  have c0 := hc.blk.cell (i := 0) rfl
  have c1 := hc.blk.cell (i := 1) rfl
  have c2 := hc.blk.cell (i := 2) rfl
  have c3 := hc.blk.cell (i := 3) rfl
  have c4 := hc.blk.cell (i := 4) rfl
  have c5 := hc.blk.cell (i := 5) rfl
  have c6 := hc.blk.cell (i := 6) rfl
  have HC := Lib.hid hc
  have HR := Lib.hid hrest
  have hMfl := hc.foot Mf (by rw [hc.tMf]; decide)
  have hszf := hc.szf
  have hmx := hc.mmax
  clear hc hrest
  go_enter Try.func26, Try.ntmps26
  go_upto_region 3 with fail
  have HB3 := Lib.hid (((Below.refl w.heap.size w).alloc (Nat.le_refl _) (.cells #[.int .i64 (d.room : Int), .int .i64 (d.made : Int), .map (some (w.heap.size + 1)), .map (some Mn), .slice A n c, .int .i64 fz, .bool d.off] 56)).alloc (by simp) (.map #[] 0))
  have HO3 := Lib.hid ((Blk.new w [.int .i64 (d.room : Int), .int .i64 (d.made : Int), .map (some (w.heap.size + 1)), .map (some Mn), .slice A n c, .int .i64 fz, .bool d.off] 56).alloc (.map #[] 0))
  have HM3 : Hid (((w.alloc (.cells #[.int .i64 (d.room : Int), .int .i64 (d.made : Int), .map (some (w.heap.size + 1)), .map (some Mn), .slice A n c, .int .i64 fz, .bool d.off] 56)).alloc (.map #[] 0)).ownsMap Try.prog 3 rP (w.heap.size + 1) 0 (.map [])) := Lib.hid (by
    have := World.ownsMap_made (w.alloc (.cells #[.int .i64 (d.room : Int), .int .i64 (d.made : Int), .map (some (w.heap.size + 1)), .map (some Mn), .slice A n c, .int .i64 fz, .bool d.off] 56)) Try.prog 3 rP
    simpa using this)
  have hs3 : ((w.alloc (.cells #[.int .i64 (d.room : Int), .int .i64 (d.made : Int), .map (some (w.heap.size + 1)), .map (some Mn), .slice A n c, .int .i64 fz, .bool d.off] 56)).alloc (.map #[] 0)).heap.size = w.heap.size + 2 := by simp
  generalize (w.alloc (.cells #[.int .i64 (d.room : Int), .int .i64 (d.made : Int), .map (some (w.heap.size + 1)), .map (some Mn), .slice A n c, .int .i64 fz, .bool d.off] 56)).alloc (.map #[] 0) = W3 at *
  have H3 := Lib.hid (HC.out.below HB3.out)
  have d2 := H3.out.blk.cell (i := 2) rfl
  have HMf := Lib.hid H3.out.mf
  have HS3 := Lib.hid hs3
  clear c0 c1 c2 c3 c4 c5 c6 hs3
  go_wp2_with (first
    | (at_range; refine wpList_range_own _ rfl _ 52 rfl 3 57 lawI Try.underlying52 _ Mf _ _ rfl HMf.out ?_; intro w0 hrg0 hg0 hs0)
    | go_in)
  go_frame
  have hs3 := HS3.out
  rw [hs3] at hrg0 hs0 ⊢
  have HRg := Lib.hid hrg0
  have HG0 := Lib.hid hg0
  have HB0 := Lib.hid (HB3.out.grown hg0 HB3.out.size (fun j hj => by cases hj))
  have HO0 := Lib.hid (Kf.Blk.keptF HO3.out ((KeptF.refl None' W3).grown hg0 (fun j hj => by cases hj)) (fun e => e))
  have HP0 := Lib.hid (show Part (w.heap.size + 3) w0 (fun _ => 0) (w.heap.size + 1) 0 (.map []) (met S (Maps.has Df)) (fun _ => 0) d.fl from ⟨HM3.out.kept hg0 (by simp), by rw [met_start HC.out.vf]; exact FilesV.nil _, (fun i hi => by rw [met_start HC.out.vf] at hi; cases hi), (fun k hk => absurd rfl hk), fun k => .inl rfl⟩)
  have hs0' : w.heap.size + 3 ≤ w0.heap.size := by omega
  have HS0 := Lib.hid hs0'
  clear hrg0 hg0 hs0 hs3 hs0' HM3 d2 HMf H3
  go_loopw [16, 17] (fun _ _ wr => ∃ (left : Lit → Bool) (cnt kk : Nat) (Dk : DU) (own' gs' : Nat → Nat), Hid (wr.ranges Try.prog 3 rP Mf (w.heap.size + 2) (Maps.size Df) Df left cnt) ∧ kk + cnt ≤ Maps.size Df ∧
      Hid (Part (w.heap.size + 3) wr own' (w.heap.size + 1) kk Dk (met S left) gs' d.fl) ∧ Hid (Blk wr w.heap.size [.int .i64 (d.room : Int), .int .i64 (d.made : Int), .map (some (w.heap.size + 1)), .map (some Mn), .slice A n c, .int .i64 fz, .bool d.off] 56) ∧ Hid (Below w.heap.size w wr) ∧ Hid (w.heap.size + 3 ≤ wr.heap.size))
    (fun _ _ wr => wr.rangeLeft Mf (w.heap.size + 2))
  case atStart => exact ⟨_, _, 0, _, _, _, HRg, by omega, HP0, HO0, HB0, HS0⟩
  case round =>
    obtain ⟨left, cnt, kk, Dk, own', gs', hrg, hcs, hP, hO, hB, hS⟩ := hrel
    clear HRg HP0 HO0 HB0 HS0 HG0
    go_wp2_with (first
      | (at_next; refine wpList_next_ranges (α := Int) (β := Option Addr) _ rfl _ rfl 3 lawI rP (Value.int .i64) Value.pointer keyI_ptr rP_ptr Mf (w.heap.size + 2) _ _ _ _ rfl hrg.out ?_ ?_)
      | go_in)
    · intro hc0 hl0
      have hP2 := hP.out
      rw [met_end hl0] at hP2
      have HP2 := Lib.hid hP2
      have H1 := Lib.hid (HC.out.below hB.out)
      have e3 := H1.out.blk.cell (i := 3) rfl
      have HMc := Lib.hid (mclone_any Mn _ Dn wr H1.out.mn)
      have hgw : g < w.heap.size := HC.out.foot g (by rw [HC.out.tg]; decide)
      clear hl0 hP2
      go_wp2_with (first
        | (go_at_call 47; (with_reducible refine HMc.out.mono ?_); rintro e w7 ⟨rfl, hm7, hb7⟩
           have HM7 := Lib.hid hm7
           have HB7 := Lib.hid hb7
           have hO7 := Kf.Blk.keptF hO.out (KeptF.of_below (F := None') hb7) (fun e => e)
           have g3 := hO7.frozen 3
           have g3c := hO7.cell (i := 3) rfl
           have hO8 := hO7.set_ 3 (.map (some wr.heap.size))
           have g4 := hO8.frozen 4
           have hC8 := (H1.out.below hb7).keptF (KeptF.set1 w7 w.heap.size 3 (.map (some wr.heap.size))) (fun k h0 e => by have := HC.out.foot k h0; have e2 : k = w.heap.size := e; omega)
           have e4 := hC8.blk.cell (i := 4) rfl
           have HSc := Lib.hid (sclone_any _ A n c us hC8.pend hC8.pmax)
           have HO8 := Lib.hid hO8
           clear hm7 hb7 hO7 hO8 hC8)
        | (go_at_call 48; (with_reducible refine HSc.out.mono ?_); rintro e w9 ⟨A9, c9, rfl, ho9, hb9⟩
           have HO9 := Lib.hid ho9
           have HB9 := Lib.hid hb9
           have hO9 := Kf.Blk.keptF HO8.out (KeptF.of_below (F := None') hb9) (fun e => e)
           have g49 := hO9.frozen 4
           have g49c := hO9.cell (i := 4) rfl
           clear ho9 hb9 hO9))
      go_ret
      obtain ⟨q1, own9, q2, q3⟩ := copy_end HC.out HP2.out (by omega) hO.out hB.out hS.out HM7.out HB7.out HO9.out HB9.out
      exact ⟨_, rfl, q1, own9, ⟨fz, _, _, _, _, _, _, _, us, S, _, q2, HR.out⟩, q3⟩
    · intro x q kl dd ps w1 cnt1 hkx hlx hyx hat hrg1 hlt hg1 hs1 hen
      obtain ⟨i, rfl, rfl, hSi, rfl⟩ := next_file (y := (dd, ps)) HC.out.vf hkx hyx hat
      have hb1 : Below w.heap.size w w1 := hB.out.grown hg1 (hB.out.size) (fun j hj => by cases hj; omega)
      have kg : KeptF (fun j => some (w.heap.size + 2) = some j) wr w1 := KeptF.grow _ hg1
      have hP1 := hP.out.kept kg (fun e => by have := Option.some.inj e; omega) (fun k h1 e => by have := Option.some.inj e; omega)
      have hO1 := Kf.Blk.keptF hO.out kg (fun e => by have := Option.some.inj e; omega)
      have H1 := Lib.hid (HC.out.below hb1)
      have hbd : Below w1.heap.size w1 w1.drew := below_drewN (Below.refl _ _) 1
      have HP1 := Lib.hid (hP1.below hbd)
      have HO1 := Lib.hid (Kf.Blk.keptF hO1 (KeptF.of_below (F := None') hbd) (fun e => e))
      have HBd := Lib.hid (show Below w.heap.size w w1.drew from below_drewN hb1 1)
      have o2 := hO1.cell (i := 2) rfl
      have hfi := (H1.out.file _ hSi)
      have hii := hfi.1.2
      have HCp := Lib.hid (Sfb.copy_any w1.drew _ _ _ _ (hfi.2.drewN 1))
      have hs3 : w.heap.size + 3 ≤ w1.heap.size := by have := hS.out; omega
      have HS3' := Lib.hid hs3
      have HR1 := Lib.hid (hrg1.kept (grown_of hbd) (by simp) (by simp))
      clear hP1 hO1 kg hbd hfi hrg1 hkx hyx hat hs3 hb1
      have hkm : kk < maxLen := by unfold maxLen; omega
      have him : i < 9223372036854775808 := by omega
      go_wp2_with fail
      go_region_law (go_simp; go_at_call 46; (with_reducible refine HCp.out.mono ?_); rintro e w4 ⟨q4, rfl, hFP, hb4⟩; have HFP := Lib.hid hFP; have HB4 := Lib.hid hb4; have hP4 := HP1.out.below hb4; have hO4 := Kf.Blk.keptF HO1.out (KeptF.of_below (F := None') hb4) (fun e => e); have o24 := hO4.cell (i := 2) rfl; obtain ⟨w5, D5, hrun, hm5, hv5, ht5⟩ := put_file hP4.mf hkm hP4.vf him q4; have HM5 := Lib.hid hm5; have HV5 := Lib.hid hv5; have HT5 := Lib.hid ht5; clear hFP hb4 hP4 hO4 hm5 hv5 ht5)
      all_goals
        obtain ⟨own5, hP5⟩ := Part.step HP1.out HB4.out HFP.out HT5.out HM5.out HV5.out (by omega) (show w.heap.size + 3 ≤ w1.heap.size from HS3'.out)
        rw [met_step hSi] at hP5
        have hb4 := HB4.out
        have h14 : w1.heap.size ≤ w4.heap.size := hb4.size
        have hrg5 := (HR1.out.kept (grown_of hb4) (by simp) (by simp)).kept HT5.out.grown (fun e => by have := Option.some.inj e; omega) (fun e => by have := Option.some.inj e; omega)
        have hO5 := Kf.Blk.keptF (Kf.Blk.keptF HO1.out (KeptF.of_below (F := None') hb4) (fun e => e)) (turned_keptF HT5.out) (fun e => by have : w.heap.size = w.heap.size + 1 := e; omega)
        have hs5 := turned_size HT5.out
        have h13 := HS3'.out
        have hb5 : Below w.heap.size w w5 := (HBd.out.trans (hb4.mono HBd.out.size)).grown HT5.out.grown (by omega) (fun j hj => by cases hj; omega)
        go_wp2
        go_roundw
        case rel => exact ⟨_, cnt1, kk + 1, D5, own5, _, Lib.hid hrg5, by omega, Lib.hid hP5, Lib.hid hO5, Lib.hid hb5, Lib.hid (by omega)⟩
        case measure => rw [hrg5.left_eq, hrg.out.left_eq]; exact hlt
end Go.Proofs.Ytpgkimohekdmmaa.Dv
