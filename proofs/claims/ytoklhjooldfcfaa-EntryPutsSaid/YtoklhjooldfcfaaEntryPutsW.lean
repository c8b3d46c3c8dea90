/-
  The walk of EntryPuts.
-/
import Derived.Test.YtoklhjooldfcfaaYk
import Derived.Test.YtoklhjooldfcfaaYi
import Derived.Deep.MidRow
namespace Go.Proofs.Ytoklhjooldfcfaa.EntryPutsW
open Go.ChangeShapes Go.WideShapes Go.ChangeAt Go.RowKit
open Bytes8 Blk8 Own8 OwnM OwnE OwnA LeNum Ob Rows2 Dc Od Yc Yp Yd Yg Yh Yj Yi Yb Yk Ff
set_option linter.unusedVariables false
set_option linter.unusedSimpArgs false
set_option maxRecDepth 100000

theorem idInfo : (Try.prog.info? 26).map (·.size) = some 16 := by kernel_rfl
theorem rentInfo : (Try.prog.info? 34).map (·.size) = some 21 := by kernel_rfl
abbrev k16 (K : Nat → Int) : List Value := [.int .u8 (K 0), .int .u8 (K 1), .int .u8 (K 2), .int .u8 (K 3), .int .u8 (K 4), .int .u8 (K 5), .int .u8 (K 6), .int .u8 (K 7), .int .u8 (K 8), .int .u8 (K 9), .int .u8 (K 10), .int .u8 (K 11), .int .u8 (K 12), .int .u8 (K 13), .int .u8 (K 14), .int .u8 (K 15)]
theorem ent_range {w : World} {g : Nat} {T : TypeId} {s r m x : Int} {K : Nat → Int} {A : Option Addr} {n c : Nat} (h : Blk w g (entL s r m K x A n c) T) : w.rangeAt g 3 (k16 K) := fun j v hj => by
  have hlt : j < 16 := by
    have := (List.getElem?_eq_some_iff.1 hj).1
    simpa using this
  refine h.cell ?_
  rw [← hj]
  unfold entL
  rcases j with _ | _ | _ | _ | _ | _ | _ | _ | _ | _ | _ | _ | _ | _ | _ | _ | j
  all_goals first | rfl | omega
theorem ent_whole {w : World} {g : Nat} {T : TypeId} {s r m x : Int} {K : Nat → Int} {A : Option Addr} {n c : Nat} (h : Blk w g (entL s r m K x A n c) T) : w.rangeAt g 0 (entL s r m K x A n c) := fun j v hj => by
  rw [Nat.zero_add]
  exact h.cell hj

/-- 'append' under a name of its own: it is met by an equation. -/
def appS (S ty : TypeId) (args : Array Value) : Sem Value := Builtin.append_ #[S, S] ty args
theorem app_fold (S ty : TypeId) (args : Array Value) : Builtin.append_ #[S, S] ty args = appS S ty args := rfl
theorem ritemElt : Elt 57 32 2 16 (.agg #[.int .u64 0, .int .u64 0]) := ⟨Try.underlying32, by kernel_rfl, rfl, by decide⟩
theorem rslotElt : Elt 60 48 2 16 (.agg #[.int .u64 0, .int .u64 0]) := ⟨Try.underlying48, by kernel_rfl, rfl, by decide⟩
/-- One pair more. -/
theorem push_two {E S : TypeId} {z : Value} (he : Elt E S 2 16 z) (W : World) (base : Nat) (A : Option Addr) (k c : Nat) (f g : Nat → Int) (X Y : Int) (hX : f k = X) (hY : g k = Y) (ho : OwnE E 2 W base A k c (two f g k)) (hk : k ≤ 100000) :
    ∃ A2 c2 w2, (appS S S #[.slice A k c, .slice (some ⟨W.heap.size, 0, none⟩) 1 1]).run Try.prog (W.alloc (.cells #[.int .u64 X, .int .u64 Y] E)).drew = .ok (.slice A2 (k + 1) c2) w2 ∧ OwnE E 2 w2 base A2 (k + 1) c2 (two f g (k + 1)) ∧ Below base W w2 := by
  subst hX hY
  have hb : Blk (W.alloc (.cells #[.int .u64 (f k), .int .u64 (g k)] E)).drew W.heap.size [.int .u64 (f k), .int .u64 (g k)] E := Blk.new W _ _
  obtain ⟨A2, c2, w2, h1, h2, h3⟩ := run_append_elt he (W.alloc (.cells #[.int .u64 (f k), .int .u64 (g k)] E)).drew S base A k c (two f g k) (ho.alloc _).drew ⟨W.heap.size, 0, none⟩ 1 1 [.int .u64 (f k), .int .u64 (g k)] rfl (Blk.news hb) (by intro u hu; simp at hu; rcases hu with rfl | rfl <;> rfl) (by omega) (by omega)
  refine ⟨A2, c2, w2, h1, by rw [two_succ]; exact h2, (((Below.refl base W).alloc ho.1 _).drew).trans h3⟩
theorem OwnE.farE {E : TypeId} {size : Nat} {w : World} {base : Nat} {A : Option Addr} {n c : Nat} {xs : List Value} (h : OwnE E size w base A n c xs) {a : Addr} (ha : a.block < base) (u : Value) : OwnE E size (w.setCell a u) base A n c xs :=
  ⟨by simpa using h.1, ownsRow_setCell_below h.2 ha u⟩
/-- Bytes that were laid. -/
def LaidB (L : List Int) (w : World) (e : Ending) (w' : World) : Prop := ∃ A m c, e = .returned (.slice A m c) ∧ Bytes w' A L ∧ L.length = m ∧ Below w.heap.size w w'
theorem Owned.laid {L : List Int} {n : Nat} {w w' : World} {e : Ending} (h : Owned L n w e w') : LaidB L w e w' := by
  obtain ⟨A, c, h1, h2, h3⟩ := h
  exact ⟨A, n, c, h1, h2.bytes, h2.2.1, h3⟩
theorem putTable_laid (k : Int) (A : Option Addr) (n c : Nat) (f g : Nat → Int) (w : World) (hi : In2 w A n f g) (hn : n ≤ 50000) : Calls Try.prog 23 #[.int .i64 k, .slice A n c] w (LaidB (tabB k (prs f g n)) w) := by
  unfold tabB
  cases h : isTab k with
  | true => exact (putTable_yes k A n c f g w h hi hn).mono fun e w' h => Owned.laid h
  | false => exact (putTable_no k A n c w h).mono fun e w' h => ⟨none, 0, 0, h.1, Bytes.nil _ _, rfl, h.2 ▸ Below.refl _ _⟩
theorem rputTable_laid (k : Int) (A : Option Addr) (n c : Nat) (f g : Nat → Int) (w : World) (hi : In2 w A n f g) (hn : n ≤ 50000) : Calls Try.prog 24 #[.int .i64 k, .slice A n c] w (LaidB (tabB k (prs f g n)) w) := by
  unfold tabB
  cases h : isTab k with
  | true => exact (rputTable_at k A n c f g w (by unfold isTab at h; simpa using h) hi hn).mono fun e w' h => Owned.laid h
  | false => exact (rputTable_no k A n c w h).mono fun e w' h => ⟨none, 0, 0, h.1, Bytes.nil _ _, rfl, h.2 ▸ Below.refl _ _⟩
theorem same_yes2 (a b : Option Addr) (l : List Int) (n c k d : Nat) (w : World) (ha : Bytes w a l) (hb : Bytes w b l) (hn : l.length = n) (hk : l.length = k) :
    Calls Try.prog 18 #[.slice a n c, .slice b k d] w fun e w' => e = .returned (.bool true) ∧ w = w' := by
  have h := same_any a b l l n c k d w ha hb hn hk
  rw [decide_eq_true (rfl : l = l)] at h
  exact h
theorem wpList_build_as {P : Program} {ops : Array Oper} {rest : List Oper} {o : Oper} {a : Act} {w : World} {Q : Exit → Act → World → Prop} (hg : o.guard = none) (t : TypeId) (parts : Array (Nat × Operand)) (ho : o.op = .build t parts) (cells : Array Value)
    (hb : P.built t (parts.map fun (i, x) => (i, a.eval x)).toList = some cells) (h : wpList P ops Q rest (a.put o.dst (.agg cells)) w) : wpList P ops Q (o :: rest) a w :=
  wpList_build hg t parts ho (by rw [hb]; rfl) (by rw [hb]; exact h)
attribute [local go_sem ↓] app_fold
set_option maxHeartbeats 16000000 in
theorem walk_main (s r m : Int) (K : Nat → Int) (x : Int) (A : Option Addr) (n c : Nat) (f g : Nat → Int) (ax : Int) (B : Option Addr) (nb cb : Nat) (fb : Nat → Int) (kd : Int) (D : Option Addr) (nd cd : Nat) (fd gd : Nat → Int) (w : World)
    (hi : In2 w A n f g) (hn : n ≤ 60) (hK : IdOk K) (hs : 0 ≤ s ∧ s ≤ 18446744073709551615) (hr : 0 ≤ r ∧ r ≤ 18446744073709551615) (hm : 0 ≤ m ∧ m ≤ 18446744073709551615) (hx : 0 ≤ x ∧ x ≤ 18446744073709551615)
    (hax : 0 ≤ ax ∧ ax ≤ 18446744073709551615) (hib : InInts .u64 w B nb fb) (hnb : nb ≤ 60) (hid : In2 w D nd fd gd) (hnd : nd ≤ 60) :
    Calls Try.prog 4 #[entV s r m K x A n c, arrV ax B nb cb, .int .i64 kd, .slice D nd cd] w fun e w' => e = .returned (.bool true) ∧ Below w.heap.size w w' := by
  have d1 : decide ((60 : Int) < (n : Int)) = false := by simp; omega
  have d2 : decide ((60 : Int) < (nb : Int)) = false := by simp; omega
  have d3 : decide ((60 : Int) < (nd : Int)) = false := by simp; omega
  have P0 := Lib.hid ((show Blk (w.alloc (entC 29 s r m K x A n c)) w.heap.size (entL s r m K x A n c) 29 from Blk.new w _ _).alloc (arrC 39 ax B nb cb))
  have Q0 := Lib.hid (show Blk ((w.alloc (entC 29 s r m K x A n c)).alloc (arrC 39 ax B nb cb)) (w.heap.size + 1) (aL ax B nb cb) 39 from Blk.new_at _ _ _ _ (by simp))
  have B0 := Lib.hid (((Below.refl w.heap.size w).alloc (Nat.le_refl _) (entC 29 s r m K x A n c)).alloc (by simp) (arrC 39 ax B nb cb))
  have HI := Lib.hid hi
  have HIb := Lib.hid hib
  have HId := Lib.hid hid
  clear hi hib hid
  go_enter Try.func4, Try.ntmps4
  go_upto_region 6 with (first
    | (go_at_call 8; (with_reducible refine (first_any _).mono ?_); rintro e w1 ⟨rfl, hb1⟩; have B1 := Lib.hid (B0.out.trans (hb1.mono B0.out.size)); have P1 := Lib.hid (P0.out.below hb1 P0.out.lt); have Q1 := Lib.hid (Q0.out.below hb1 Q0.out.lt); have p0 := P1.out.cell (i := 0) rfl; have p1 := P1.out.cell (i := 1) rfl; have p2 := P1.out.cell (i := 2) rfl; have p19 := P1.out.cell (i := 19) rfl; have p20 := P1.out.cell (i := 20) rfl; have q0 := Q1.out.cell (i := 0) rfl; have q1 := Q1.out.cell (i := 1) rfl; clear hb1)
    | (refine wpList_load_mid rfl 26 (.tmp 39) rfl w.heap.size 3 rfl [.int .u8 (K 0), .int .u8 (K 1), .int .u8 (K 2), .int .u8 (K 3), .int .u8 (K 4), .int .u8 (K 5), .int .u8 (K 6), .int .u8 (K 7), .int .u8 (K 8), .int .u8 (K 9), .int .u8 (K 10), .int .u8 (K 11), .int .u8 (K 12), .int .u8 (K 13), .int .u8 (K 14), .int .u8 (K 15)] _ (ent_range P1.out) Try.underlying26 rfl idInfo ?_))
  go_wp2_with (first
    | (refine wpList_load_mid rfl 26 (.tmp 39) rfl w.heap.size 3 rfl [.int .u8 (K 0), .int .u8 (K 1), .int .u8 (K 2), .int .u8 (K 3), .int .u8 (K 4), .int .u8 (K 5), .int .u8 (K 6), .int .u8 (K 7), .int .u8 (K 8), .int .u8 (K 9), .int .u8 (K 10), .int .u8 (K 11), .int .u8 (K 12), .int .u8 (K 13), .int .u8 (K 14), .int .u8 (K 15)] _ (ent_range P1.out) Try.underlying26 rfl idInfo ?_)
    | (refine wpList_build_as rfl 34 _ rfl #[.int .u64 s, .int .u64 r, .int .u64 m, .int .u8 (K 0), .int .u8 (K 1), .int .u8 (K 2), .int .u8 (K 3), .int .u8 (K 4), .int .u8 (K 5), .int .u8 (K 6), .int .u8 (K 7), .int .u8 (K 8), .int .u8 (K 9), .int .u8 (K 10), .int .u8 (K 11), .int .u8 (K 12), .int .u8 (K 13), .int .u8 (K 14), .int .u8 (K 15), .int .u64 x, .slice none 0 0] (by kernel_rfl) ?_)
    | (refine wpList_store_row rfl 34 (.tmp 10) (.tmp 43) rfl w1.heap.size #[.int .u64 s, .int .u64 r, .int .u64 m, .int .u8 (K 0), .int .u8 (K 1), .int .u8 (K 2), .int .u8 (K 3), .int .u8 (K 4), .int .u8 (K 5), .int .u8 (K 6), .int .u8 (K 7), .int .u8 (K 8), .int .u8 (K 9), .int .u8 (K 10), .int .u8 (K 11), .int .u8 (K 12), .int .u8 (K 13), .int .u8 (K 14), .int .u8 (K 15), .int .u64 x, .slice none 0 0] rfl rfl 34 zL.toArray (Blk.new w1 zL 34) rentInfo rfl (by simp [Value.oneCell']) ?_))
  have E2 := Lib.hid (show Blk ((w1.alloc (zC 34)).setRow w1.heap.size #[.int .u64 s, .int .u64 r, .int .u64 m, .int .u8 (K 0), .int .u8 (K 1), .int .u8 (K 2), .int .u8 (K 3), .int .u8 (K 4), .int .u8 (K 5), .int .u8 (K 6), .int .u8 (K 7), .int .u8 (K 8), .int .u8 (K 9), .int .u8 (K 10), .int .u8 (K 11), .int .u8 (K 12), .int .u8 (K 13), .int .u8 (K 14), .int .u8 (K 15), .int .u64 x, .slice none 0 0]) w1.heap.size (entL s r m K x none 0 0) 34 from Blk.setRow (show Blk (w1.alloc (zC 34)) w1.heap.size zL 34 from Blk.new w1 zL _) (entL s r m K x none 0 0))
  have B2 := Lib.hid (show Below w1.heap.size w1 ((w1.alloc (zC 34)).setRow w1.heap.size #[.int .u64 s, .int .u64 r, .int .u64 m, .int .u8 (K 0), .int .u8 (K 1), .int .u8 (K 2), .int .u8 (K 3), .int .u8 (K 4), .int .u8 (K 5), .int .u8 (K 6), .int .u8 (K 7), .int .u8 (K 8), .int .u8 (K 9), .int .u8 (K 10), .int .u8 (K 11), .int .u8 (K 12), .int .u8 (K 13), .int .u8 (K 14), .int .u8 (K 15), .int .u64 x, .slice none 0 0]) from setRow_keepB ((Below.refl w1.heap.size w1).alloc (Nat.le_refl _) _) (Nat.le_refl _) _)
  have HP1 := Lib.hid P1.out.lt
  have HQ1 := Lib.hid Q1.out.lt
  have HSt := Lib.hid B1.out.size
  clear p0 p1 p2 p19 p20
  go_loopw [11] (fun i wr => ∃ (k : Nat) (A' : Option Addr) (c' : Nat), k ≤ n ∧ i = .int .i64 (k : Int) ∧ Hid (Blk wr w1.heap.size (entL s r m K x A' k c') 34) ∧ Hid (OwnE 57 2 wr (w1.heap.size + 1) A' k c' (two f g k)) ∧ Hid (Below w1.heap.size w1 wr)) (fun i _ => n - (intOf i).toNat)
  case atStart => exact ⟨0, none, 0, Nat.zero_le _, rfl, E2, Lib.hid (OwnE.nil _ _ (Nat.le_of_lt_succ (Nat.lt_succ_of_le E2.out.lt))), B2⟩
  case round =>
    obtain ⟨k, A', c', hk, rfl, he, ho, hb⟩ := hrel
    have Bw := Lib.hid (B1.out.trans (hb.out.mono HSt.out))
    have Pr := Lib.hid (P1.out.below hb.out HP1.out)
    have p20 := Pr.out.cell (i := 20) rfl
    by_cases hlt : k < n
    · obtain ⟨b, off, rfl, hlow, c0w, c1w, f01, g01⟩ := HI.out k hlt
      have hblt : b < wr.heap.size := Nat.lt_of_lt_of_le hlow Bw.out.size
      have c0 := (Bw.out.cell (p := ⟨b, off + k * 2, none⟩) hlow).trans c0w
      have c1 := (Bw.out.cell (p := ⟨b, off + k * 2 + 1, none⟩) hlow).trans c1w
      obtain ⟨A2, c2, w2, hrun, ho2, hb2⟩ := push_two ritemElt wr (w1.heap.size + 1) A' k c' f g (f k) (g k) rfl rfl ho.out (by omega)
      have HO2 := Lib.hid ho2
      have HB2 := Lib.hid (hb.out.trans (hb2.mono (Nat.le_succ _)))
      have E3 := Lib.hid (he.out.below hb2 (Nat.lt_succ_self _))
      have x20 := E3.out.cell (i := 20) rfl
      have y20 := E3.out.frozen 20
      have e20 := he.out.cell (i := 20) rfl
      have hgw := he.out.lt
      generalize f k = X at *
      generalize g k = Y at *
      have Na := Lib.hid ((Below.refl wr.heap.size wr).alloc (Nat.le_refl _) (.cells #[.int .u64 X, .int .u64 Y] 57)).drew
      have u0 : wr.drew.cell? ⟨b, off + k * 2, none⟩ = some (.int .u64 X) := c0
      have u1 : wr.drew.cell? ⟨b, off + k * 2 + 1, none⟩ = some (.int .u64 Y) := c1
      have u2 : wr.drew.cell? ⟨w.heap.size, 20, none⟩ = some (.slice (some ⟨b, off, none⟩) n c) := p20
      have u3 : wr.drew.cell? ⟨w1.heap.size, 20, none⟩ = some (.slice A' k c') := e20
      have v3 := (Na.out.cell (p := ⟨w1.heap.size, 20, none⟩) hgw).trans e20
      have hk0 : (0 : Int) ≤ (k : Int) := by omega
      have hkn : (k : Int) < (n : Int) := by omega
      clear hb2 c0w c1w ho2
      go_wp2_with fail
      go_region
      all_goals
        go_wp2
        go_roundw
        case rel => exact ⟨k + 1, A2, c2, by omega, by go_num, Lib.hid (E3.out.set_ 20 _), Lib.hid (OwnE.farE HO2.out (by simp) _), Lib.hid (HB2.out.setCell (Nat.le_refl _) _)⟩
        case measure => simp [intOf]; omega
    · obtain rfl : k = n := by omega
      have HT := Lib.hid (own_in2 ho.out (fun i hi => by obtain ⟨_, _, _, _, _, _, h1, _⟩ := HI.out i hi; exact h1) (fun i hi => by obtain ⟨_, _, _, _, _, _, _, h1⟩ := HI.out i hi; exact h1))
      have HEl := Lib.hid he.out.lt
      clear ho
      rename World => wA
      go_wp2_with fail
      go_loopw [12, 13] (fun z i wq => ∃ (q : Nat) (T : Option Addr) (ct : Nat), q ≤ nd ∧ z = .slice T q ct ∧ i = .int .i64 (q : Int) ∧ Hid (OwnE 60 2 wq wA.heap.size T q ct (two fd gd q)) ∧ Hid (Below wA.heap.size wA wq)) (fun _ i _ => nd - (intOf i).toNat)
      case atStart => exact ⟨0, none, 0, Nat.zero_le _, rfl, rfl, OwnE.nil _ _ (Nat.le_refl _), Lib.hid (Below.refl _ _)⟩
      case round =>
        obtain ⟨q, T, ct, hq, rfl, rfl, ho2, hb2⟩ := hrel
        have Bq := Lib.hid (Bw.out.trans (hb2.out.mono Bw.out.size))
        by_cases hlt2 : q < nd
        · obtain ⟨b, off, rfl, hlow, c0w, c1w, f01, g01⟩ := HId.out q hlt2
          have hblt : b < wr.heap.size := Nat.lt_of_lt_of_le hlow Bq.out.size
          have c0 := (Bq.out.cell (p := ⟨b, off + q * 2, none⟩) hlow).trans c0w
          have c1 := (Bq.out.cell (p := ⟨b, off + q * 2 + 1, none⟩) hlow).trans c1w
          obtain ⟨A2, c2, w2, hrun, ho3, hb3⟩ := push_two rslotElt wr wA.heap.size T q ct fd gd (fd q) (gd q) rfl rfl ho2.out (by omega)
          have HO2 := Lib.hid ho3
          have HB2 := Lib.hid (hb2.out.trans hb3)
          generalize fd q = X at *
          generalize gd q = Y at *
          have u0 : wr.drew.cell? ⟨b, off + q * 2, none⟩ = some (.int .u64 X) := c0
          have u1 : wr.drew.cell? ⟨b, off + q * 2 + 1, none⟩ = some (.int .u64 Y) := c1
          have hk0 : (0 : Int) ≤ (q : Int) := by omega
          have hkn : (q : Int) < (nd : Int) := by omega
          clear hb3 c0w c1w ho3
          go_wp2_with fail
          go_region
          all_goals
            go_wp2
            go_roundw
            case rel => exact ⟨q + 1, A2, c2, by omega, rfl, by go_num, HO2, HB2⟩
            case measure => simp [intOf]; omega
        · obtain rfl : q = nd := by omega
          have hb3 := hb.out.trans (hb2.out.mono hb.out.size)
          have HP3 := Lib.hid (P1.out.below hb3 HP1.out)
          have HQ3 := Lib.hid (Q1.out.below hb3 HQ1.out)
          have HE3 := Lib.hid (he.out.below hb2.out HEl.out)
          have HT3 := Lib.hid (HT.out.keep hb2.out)
          have HT4 := Lib.hid (own_in2 ho2.out (fun i hi => by obtain ⟨_, _, _, _, _, _, h1, _⟩ := HId.out i hi; exact h1) (fun i hi => by obtain ⟨_, _, _, _, _, _, _, h1⟩ := HId.out i hi; exact h1))
          have HSW := Lib.hid fun (W : World) (h : Below wr.heap.size wr W) => show (fun W : World => W.rangeAt w.heap.size 0 [.int .u64 s, .int .u64 r, .int .u64 m, .int .u8 (K 0), .int .u8 (K 1), .int .u8 (K 2), .int .u8 (K 3), .int .u8 (K 4), .int .u8 (K 5), .int .u8 (K 6), .int .u8 (K 7), .int .u8 (K 8), .int .u8 (K 9), .int .u8 (K 10), .int .u8 (K 11), .int .u8 (K 12), .int .u8 (K 13), .int .u8 (K 14), .int .u8 (K 15), .int .u64 x, .slice A k c] ∧ W.rangeAt w1.heap.size 0 [.int .u64 s, .int .u64 r, .int .u64 m, .int .u8 (K 0), .int .u8 (K 1), .int .u8 (K 2), .int .u8 (K 3), .int .u8 (K 4), .int .u8 (K 5), .int .u8 (K 6), .int .u8 (K 7), .int .u8 (K 8), .int .u8 (K 9), .int .u8 (K 10), .int .u8 (K 11), .int .u8 (K 12), .int .u8 (K 13), .int .u8 (K 14), .int .u8 (K 15), .int .u64 x, .slice A' k c'] ∧ W.cell? ⟨w.heap.size + 1, 0, none⟩ = some (.int .u64 ax) ∧ W.cell? ⟨w.heap.size + 1, 1, none⟩ = some (.slice B nb cb)) W from ⟨ent_whole (HP3.out.below h HP3.out.lt), ent_whole (HE3.out.below h HE3.out.lt), (HQ3.out.below h HQ3.out.lt).cell (i := 0) rfl, (HQ3.out.below h HQ3.out.lt).cell (i := 1) rfl⟩
          have Z0 := Lib.hid (Below.refl wr.heap.size wr).drew
          have HS0 := Lib.hid (HSW.out _ Z0.out)
          have HC1 := Lib.hid fun (W : World) (h : Below wr.heap.size wr W) => put_any s r m K x A k c f g W (HI.out.keep (Bq.out.trans (h.mono Bq.out.size))) (by omega) hK hs hr hm hx
          have HC2 := Lib.hid fun (W : World) (h : Below wr.heap.size wr W) => rputEntry_any s r m K x A' k c' f g W (HT3.out.keep h) (by omega) hK hs hr hm hx
          have HC3 := Lib.hid fun (W : World) (h : Below wr.heap.size wr W) => putArray_any ax B nb cb fb W (HIb.out.below (Bq.out.trans (h.mono Bq.out.size))) (by omega) hax
          have HC4 := Lib.hid fun (W : World) (h : Below wr.heap.size wr W) => rputArray_any ax B nb cb fb W (HIb.out.below (Bq.out.trans (h.mono Bq.out.size))) (by omega) hax
          have HC5 := Lib.hid fun (W : World) (h : Below wr.heap.size wr W) => putTable_laid kd D q cd fd gd W (HId.out.keep (Bq.out.trans (h.mono Bq.out.size))) (by omega)
          have HC6 := Lib.hid fun (W : World) (h : Below wr.heap.size wr W) => rputTable_laid kd T q ct fd gd W (HT4.out.keep h) (by omega)
          have HL1 := Lib.hid (show (objB 3 (entB s r m K x (prs f g k))).length = 16 + (48 + 16 * k) + padN (48 + 16 * k) by rw [objB_len, entB_len])
          have HL2 := Lib.hid (show (objB 6 (arrB ax (ints fb nb))).length = 16 + (8 + 8 * nb) + padN (8 + 8 * nb) by rw [objB_len, arr_len])
          unfold Owned at HC1 HC2 HC3 HC4
          unfold LaidB at HC5 HC6
          generalize objB 3 (entB s r m K x (prs f g k)) = L1 at *
          generalize objB 6 (arrB ax (ints fb nb)) = L2 at *
          generalize tabB kd (prs fd gd q) = L3 at *
          generalize 16 + (48 + 16 * k) + padN (48 + 16 * k) = n1 at *
          generalize 16 + (8 + 8 * nb) + padN (8 + 8 * nb) = n2 at *
          clear hb3 HP1 HQ1 HEl HT HT4 ho2 hb2 hb he HSt E2 B2
          go_wp2_with fail
          refine wp_region_noPanic ?_
          refine wp_region_held_drew (S := fun W : World => W.rangeAt w.heap.size 0 [.int .u64 s, .int .u64 r, .int .u64 m, .int .u8 (K 0), .int .u8 (K 1), .int .u8 (K 2), .int .u8 (K 3), .int .u8 (K 4), .int .u8 (K 5), .int .u8 (K 6), .int .u8 (K 7), .int .u8 (K 8), .int .u8 (K 9), .int .u8 (K 10), .int .u8 (K 11), .int .u8 (K 12), .int .u8 (K 13), .int .u8 (K 14), .int .u8 (K 15), .int .u64 x, .slice A k c] ∧ W.rangeAt w1.heap.size 0 [.int .u64 s, .int .u64 r, .int .u64 m, .int .u8 (K 0), .int .u8 (K 1), .int .u8 (K 2), .int .u8 (K 3), .int .u8 (K 4), .int .u8 (K 5), .int .u8 (K 6), .int .u8 (K 7), .int .u8 (K 8), .int .u8 (K 9), .int .u8 (K 10), .int .u8 (K 11), .int .u8 (K 12), .int .u8 (K 13), .int .u8 (K 14), .int .u8 (K 15), .int .u64 x, .slice A' k c'] ∧ W.cell? ⟨w.heap.size + 1, 0, none⟩ = some (.int .u64 ax) ∧ W.cell? ⟨w.heap.size + 1, 1, none⟩ = some (.slice B nb cb)) (by kernel_rfl) (by exact HS0.out) (fun hHeld => ?_)
          refine wpAnyH_take (i := 0) (oi := ⟨some 89, _, _, _, _, _⟩) (v := ?_) rfl (by kernel_rfl) (by kernel_rfl) (by kernel_rfl) (fun _ _ _ h => h) (Or.inl ⟨by rfl, ?_⟩) (by assumption) ?_
          rotate_left
          · intro W hSw; obtain ⟨_, _, x0, x1⟩ := hSw; go_simp; try (with_reducible rfl)
          try simp only [Act.put, List.setIfInBounds_toArray, List.set_cons_zero, List.set_cons_succ]
          refine wpAnyH_take (i := 1) (oi := ⟨some 90, _, _, _, _, _⟩) (v := ?_) rfl (by kernel_rfl) (by kernel_rfl) (by kernel_rfl) (fun _ _ _ h => h) (Or.inl ⟨by rfl, ?_⟩) (by assumption) ?_
          rotate_left
          · intro W hSw; obtain ⟨_, _, x0, x1⟩ := hSw; go_simp; try (with_reducible rfl)
          try simp only [Act.put, List.setIfInBounds_toArray, List.set_cons_zero, List.set_cons_succ]
          refine wpAnyH_take (i := 2) (oi := ⟨some 91, _, _, _, _, _⟩) rfl (by kernel_rfl) (by kernel_rfl) (by kernel_rfl) (fun _ _ _ h => h) (yieldsIf_load_mid (by rfl) _ _ rfl _ _ rfl _ _ (fun _ h => h.1) Try.underlying29 rfl entInfo) (by assumption) ?_
          try simp only [Act.put, List.setIfInBounds_toArray, List.set_cons_zero, List.set_cons_succ]
          refine wpAnyH_take (i := 4) (oi := ⟨some 93, _, _, _, _, _⟩) rfl (by kernel_rfl) (by kernel_rfl) (by kernel_rfl) (fun _ _ _ h => h) (yieldsIf_load_mid (by rfl) _ _ rfl _ _ rfl _ _ (fun _ h => h.2.1) Try.underlying34 rfl rentInfo) (by assumption) ?_
          try simp only [Act.put, List.setIfInBounds_toArray, List.set_cons_zero, List.set_cons_succ]
          refine wpAnyH_ready (rs := [3]) (by kernel_rfl) (by simp) ?_
          refine AllReadyH.cons (o := ⟨some 92, _, _, _, _, _⟩) rfl (fun KK hKK => ?_) AllReadyH.nil
          go_simp
          ((with_reducible refine (HC1.out _ Z0.out).mono ?_); rintro e w10 ⟨A10, c10, rfl, ho0, hb0⟩; have Y10 := Lib.hid ho0.bytes; have Z1 := Lib.hid (Z0.out.trans (hb0.mono Z0.out.size)); clear ho0 hb0)
          try go_wp2_with fail
          refine hKK.out _ _ (by exact (HSW.out _ Z1.out)) (fun hHeld => ?_)
          clear hKK KK
          try simp only [Act.put, List.setIfInBounds_toArray, List.set_cons_zero, List.set_cons_succ]
          refine wpAnyH_ready (rs := [5]) (by kernel_rfl) (by simp) ?_
          refine AllReadyH.cons (o := ⟨some 94, _, _, _, _, _⟩) rfl (fun KK hKK => ?_) AllReadyH.nil
          go_simp
          ((with_reducible refine (HC2.out _ Z1.out).mono ?_); rintro e w11 ⟨A11, c11, rfl, ho1, hb1⟩; have Y11 := Lib.hid ho1.bytes; have hx11 := Lib.hid hb1; have Z2 := Lib.hid (Z1.out.trans (hb1.mono Z1.out.size)); clear ho1 hb1)
          try go_wp2_with fail
          refine hKK.out _ _ (by exact (HSW.out _ Z2.out)) (fun hHeld => ?_)
          clear hKK KK
          try simp only [Act.put, List.setIfInBounds_toArray, List.set_cons_zero, List.set_cons_succ]
          refine wpAnyH_ready (rs := [6]) (by kernel_rfl) (by simp) ?_
          refine AllReadyH.cons (o := ⟨some 95, _, _, _, _, _⟩) rfl (fun KK hKK => ?_) AllReadyH.nil
          go_simp
          ((with_reducible refine (same_yes2 A10 A11 _ _ _ _ _ _ (Y10.out.below hx11.out (Nat.le_refl _)) Y11.out HL1.out HL1.out).mono ?_); rintro e w' ⟨rfl, rfl⟩)
          try go_wp2_with fail
          refine hKK.out _ _ (by exact (HSW.out _ Z2.out)) (fun hHeld => ?_)
          clear hKK KK
          try simp only [Act.put, List.setIfInBounds_toArray, List.set_cons_zero, List.set_cons_succ]
          refine wpAnyH_take (i := 7) (oi := ⟨some 96, _, _, _, _, _⟩) (v := ?_) rfl (by kernel_rfl) (by kernel_rfl) (by kernel_rfl) (fun _ _ _ h => h) (Or.inl ⟨by rfl, ?_⟩) (by assumption) ?_
          rotate_left
          · intro W hSw; obtain ⟨_, _, x0, x1⟩ := hSw; go_simp; try (with_reducible rfl)
          try simp only [Act.put, List.setIfInBounds_toArray, List.set_cons_zero, List.set_cons_succ]
          refine wpAnyH_take (i := 8) (oi := ⟨some 97, _, _, _, _, _⟩) (v := ?_) rfl (by kernel_rfl) (by kernel_rfl) (by kernel_rfl) (fun _ _ _ h => h) (Or.inl ⟨by rfl, ?_⟩) (by assumption) ?_
          rotate_left
          · intro W hSw; obtain ⟨_, _, x0, x1⟩ := hSw; go_simp; try (with_reducible rfl)
          try simp only [Act.put, List.setIfInBounds_toArray, List.set_cons_zero, List.set_cons_succ]
          refine wpAnyH_take (i := 9) (oi := ⟨some 98, _, _, _, _, _⟩) (v := ?_) rfl (by kernel_rfl) (by kernel_rfl) (by kernel_rfl) (fun _ _ _ h => h) (Or.inl ⟨by rfl, ?_⟩) (by assumption) ?_
          rotate_left
          · intro W hSw; obtain ⟨_, _, x0, x1⟩ := hSw; go_simp; try (with_reducible rfl)
          try simp only [Act.put, List.setIfInBounds_toArray, List.set_cons_zero, List.set_cons_succ]
          refine wpAnyH_take (i := 11) (oi := ⟨some 100, _, _, _, _, _⟩) (v := ?_) rfl (by kernel_rfl) (by kernel_rfl) (by kernel_rfl) (fun _ _ _ h => h) (Or.inl ⟨by rfl, ?_⟩) (by assumption) ?_
          rotate_left
          · intro W hSw; obtain ⟨_, _, x0, x1⟩ := hSw; go_simp; try (with_reducible rfl)
          try simp only [Act.put, List.setIfInBounds_toArray, List.set_cons_zero, List.set_cons_succ]
          refine wpAnyH_take (i := 12) (oi := ⟨some 101, _, _, _, _, _⟩) (v := ?_) rfl (by kernel_rfl) (by kernel_rfl) (by kernel_rfl) (fun _ _ _ h => h) (Or.inl ⟨by rfl, ?_⟩) (by assumption) ?_
          rotate_left
          · intro W hSw; obtain ⟨_, _, x0, x1⟩ := hSw; go_simp; try (with_reducible rfl)
          try simp only [Act.put, List.setIfInBounds_toArray, List.set_cons_zero, List.set_cons_succ]
          refine wpAnyH_take (i := 13) (oi := ⟨some 102, _, _, _, _, _⟩) (v := ?_) rfl (by kernel_rfl) (by kernel_rfl) (by kernel_rfl) (fun _ _ _ h => h) (Or.inl ⟨by rfl, ?_⟩) (by assumption) ?_
          rotate_left
          · intro W hSw; obtain ⟨_, _, x0, x1⟩ := hSw; go_simp; try (with_reducible rfl)
          try simp only [Act.put, List.setIfInBounds_toArray, List.set_cons_zero, List.set_cons_succ]
          refine wpAnyH_take (i := 14) (oi := ⟨some 103, _, _, _, _, _⟩) (v := ?_) rfl (by kernel_rfl) (by kernel_rfl) (by kernel_rfl) (fun _ _ _ h => h) (Or.inl ⟨by rfl, ?_⟩) (by assumption) ?_
          rotate_left
          · intro W hSw; obtain ⟨_, _, x0, x1⟩ := hSw; go_simp; try (with_reducible rfl)
          try simp only [Act.put, List.setIfInBounds_toArray, List.set_cons_zero, List.set_cons_succ]
          refine wpAnyH_take (i := 15) (oi := ⟨some 104, _, _, _, _, _⟩) (v := ?_) rfl (by kernel_rfl) (by kernel_rfl) (by kernel_rfl) (fun _ _ _ h => h) (Or.inl ⟨by rfl, ?_⟩) (by assumption) ?_
          rotate_left
          · intro W hSw; obtain ⟨_, _, x0, x1⟩ := hSw; go_simp; try (with_reducible rfl)
          try simp only [Act.put, List.setIfInBounds_toArray, List.set_cons_zero, List.set_cons_succ]
          refine wpAnyH_ready (rs := [10]) (by kernel_rfl) (by simp) ?_
          refine AllReadyH.cons (o := ⟨some 99, _, _, _, _, _⟩) rfl (fun KK hKK => ?_) AllReadyH.nil
          go_simp
          ((with_reducible refine (HC3.out _ Z2.out).mono ?_); rintro e w12 ⟨A12, c12, rfl, ho2, hb2⟩; have Y12 := Lib.hid ho2.bytes; have Z3 := Lib.hid (Z2.out.trans (hb2.mono Z2.out.size)); clear ho2 hb2)
          try go_wp2_with fail
          refine hKK.out _ _ (by exact (HSW.out _ Z3.out)) (fun hHeld => ?_)
          clear hKK KK
          try simp only [Act.put, List.setIfInBounds_toArray, List.set_cons_zero, List.set_cons_succ]
          refine wpAnyH_ready (rs := [16]) (by kernel_rfl) (by simp) ?_
          refine AllReadyH.cons (o := ⟨some 105, _, _, _, _, _⟩) rfl (fun KK hKK => ?_) AllReadyH.nil
          go_simp
          ((with_reducible refine (HC4.out _ Z3.out).mono ?_); rintro e w13 ⟨A13, c13, rfl, ho3, hb3⟩; have Y13 := Lib.hid ho3.bytes; have hx13 := Lib.hid hb3; have Z4 := Lib.hid (Z3.out.trans (hb3.mono Z3.out.size)); clear ho3 hb3)
          try go_wp2_with fail
          refine hKK.out _ _ (by exact (HSW.out _ Z4.out)) (fun hHeld => ?_)
          clear hKK KK
          try simp only [Act.put, List.setIfInBounds_toArray, List.set_cons_zero, List.set_cons_succ]
          refine wpAnyH_ready (rs := [17]) (by kernel_rfl) (by simp) ?_
          refine AllReadyH.cons (o := ⟨some 106, _, _, _, _, _⟩) rfl (fun KK hKK => ?_) AllReadyH.nil
          go_simp
          ((with_reducible refine (same_yes2 A12 A13 _ _ _ _ _ _ (Y12.out.below hx13.out (Nat.le_refl _)) Y13.out HL2.out HL2.out).mono ?_); rintro e w' ⟨rfl, rfl⟩)
          try go_wp2_with fail
          refine hKK.out _ _ (by exact (HSW.out _ Z4.out)) (fun hHeld => ?_)
          clear hKK KK
          try simp only [Act.put, List.setIfInBounds_toArray, List.set_cons_zero, List.set_cons_succ]
          refine wpAnyH_take (i := 18) (oi := ⟨some 107, _, _, _, _, _⟩) (v := ?_) rfl (by kernel_rfl) (by kernel_rfl) (by kernel_rfl) (fun _ _ _ h => h) (Or.inl ⟨by rfl, ?_⟩) (by assumption) ?_
          rotate_left
          · intro W hSw; obtain ⟨_, _, x0, x1⟩ := hSw; go_simp; try (with_reducible rfl)
          try simp only [Act.put, List.setIfInBounds_toArray, List.set_cons_zero, List.set_cons_succ]
          refine wpAnyH_take (i := 19) (oi := ⟨some 108, _, _, _, _, _⟩) (v := ?_) rfl (by kernel_rfl) (by kernel_rfl) (by kernel_rfl) (fun _ _ _ h => h) (Or.inl ⟨by rfl, ?_⟩) (by assumption) ?_
          rotate_left
          · intro W hSw; obtain ⟨_, _, x0, x1⟩ := hSw; go_simp; try (with_reducible rfl)
          try simp only [Act.put, List.setIfInBounds_toArray, List.set_cons_zero, List.set_cons_succ]
          refine wpAnyH_take (i := 20) (oi := ⟨some 109, _, _, _, _, _⟩) (v := ?_) rfl (by kernel_rfl) (by kernel_rfl) (by kernel_rfl) (fun _ _ _ h => h) (Or.inl ⟨by rfl, ?_⟩) (by assumption) ?_
          rotate_left
          · intro W hSw; obtain ⟨_, _, x0, x1⟩ := hSw; go_simp; try (with_reducible rfl)
          try simp only [Act.put, List.setIfInBounds_toArray, List.set_cons_zero, List.set_cons_succ]
          refine wpAnyH_take (i := 21) (oi := ⟨some 110, _, _, _, _, _⟩) (v := ?_) rfl (by kernel_rfl) (by kernel_rfl) (by kernel_rfl) (fun _ _ _ h => h) (Or.inl ⟨by rfl, ?_⟩) (by assumption) ?_
          rotate_left
          · intro W hSw; obtain ⟨_, _, x0, x1⟩ := hSw; go_simp; try (with_reducible rfl)
          try simp only [Act.put, List.setIfInBounds_toArray, List.set_cons_zero, List.set_cons_succ]
          refine wpAnyH_take (i := 23) (oi := ⟨some 112, _, _, _, _, _⟩) (v := ?_) rfl (by kernel_rfl) (by kernel_rfl) (by kernel_rfl) (fun _ _ _ h => h) (Or.inl ⟨by rfl, ?_⟩) (by assumption) ?_
          rotate_left
          · intro W hSw; obtain ⟨_, _, x0, x1⟩ := hSw; go_simp; try (with_reducible rfl)
          try simp only [Act.put, List.setIfInBounds_toArray, List.set_cons_zero, List.set_cons_succ]
          refine wpAnyH_take (i := 24) (oi := ⟨some 113, _, _, _, _, _⟩) (v := ?_) rfl (by kernel_rfl) (by kernel_rfl) (by kernel_rfl) (fun _ _ _ h => h) (Or.inl ⟨by rfl, ?_⟩) (by assumption) ?_
          rotate_left
          · intro W hSw; obtain ⟨_, _, x0, x1⟩ := hSw; go_simp; try (with_reducible rfl)
          try simp only [Act.put, List.setIfInBounds_toArray, List.set_cons_zero, List.set_cons_succ]
          refine wpAnyH_ready (rs := [22]) (by kernel_rfl) (by simp) ?_
          refine AllReadyH.cons (o := ⟨some 111, _, _, _, _, _⟩) rfl (fun KK hKK => ?_) AllReadyH.nil
          go_simp
          ((with_reducible refine (HC5.out _ Z4.out).mono ?_); rintro e w14 ⟨A14, m14, c14, rfl, ho4, hl4, hb4⟩; have Y14 := Lib.hid ho4; have M14 := Lib.hid hl4; have Z5 := Lib.hid (Z4.out.trans (hb4.mono Z4.out.size)); clear ho4 hl4 hb4)
          try go_wp2_with fail
          refine hKK.out _ _ (by exact (HSW.out _ Z5.out)) (fun hHeld => ?_)
          clear hKK KK
          try simp only [Act.put, List.setIfInBounds_toArray, List.set_cons_zero, List.set_cons_succ]
          refine wpAnyH_ready (rs := [25]) (by kernel_rfl) (by simp) ?_
          refine AllReadyH.cons (o := ⟨some 114, _, _, _, _, _⟩) rfl (fun KK hKK => ?_) AllReadyH.nil
          go_simp
          ((with_reducible refine (HC6.out _ Z5.out).mono ?_); rintro e w15 ⟨A15, m15, c15, rfl, ho5, hl5, hb5⟩; have Y15 := Lib.hid ho5; have M15 := Lib.hid hl5; have hx15 := Lib.hid hb5; have Z6 := Lib.hid (Z5.out.trans (hb5.mono Z5.out.size)); clear ho5 hl5 hb5)
          try go_wp2_with fail
          refine hKK.out _ _ (by exact (HSW.out _ Z6.out)) (fun hHeld => ?_)
          clear hKK KK
          try simp only [Act.put, List.setIfInBounds_toArray, List.set_cons_zero, List.set_cons_succ]
          refine wpAnyH_ready (rs := [26]) (by kernel_rfl) (by simp) ?_
          refine AllReadyH.cons (o := ⟨some 115, _, _, _, _, _⟩) rfl (fun KK hKK => ?_) AllReadyH.nil
          go_simp
          ((with_reducible refine (same_yes2 A14 A15 _ _ _ _ _ _ (Y14.out.below hx15.out (Nat.le_refl _)) Y15.out M14.out M15.out).mono ?_); rintro e w' ⟨rfl, rfl⟩)
          try go_wp2_with fail
          refine hKK.out _ _ (by exact (HSW.out _ Z6.out)) (fun hHeld => ?_)
          clear hKK KK
          try simp only [Act.put, List.setIfInBounds_toArray, List.set_cons_zero, List.set_cons_succ]
          refine wpAnyH_take (i := 27) (oi := ⟨some 116, _, _, _, _, _⟩) (v := ?_) rfl (by kernel_rfl) (by kernel_rfl) (by kernel_rfl) (fun _ _ _ h => h) (Or.inl ⟨by rfl, ?_⟩) (by assumption) ?_
          rotate_left
          · intro W hSw; obtain ⟨_, _, x0, x1⟩ := hSw; go_simp; try (with_reducible rfl)
          try simp only [Act.put, List.setIfInBounds_toArray, List.set_cons_zero, List.set_cons_succ]
          refine wpAnyH_take (i := 28) (oi := ⟨some 8, _, _, _, _, _⟩) (v := ?_) rfl (by kernel_rfl) (by kernel_rfl) (by kernel_rfl) (fun _ _ _ h => h) (Or.inl ⟨by rfl, ?_⟩) (by assumption) ?_
          rotate_left
          · intro W hSw; obtain ⟨_, _, x0, x1⟩ := hSw; go_simp; try (with_reducible rfl)
          try simp only [Act.put, List.setIfInBounds_toArray, List.set_cons_zero, List.set_cons_succ]
          refine wpAnyH_done (by kernel_rfl) ?_ _
          refine NoPanic.normal ?_
          go_wp2
          go_ret
          exact ⟨rfl, Bq.out.trans (Z6.out.mono Bq.out.size)⟩

theorem walk (s r m : Int) (K : Nat → Int) (x : Int) (A : Option Addr) (n c : Nat) (f g : Nat → Int) (ax : Int) (B : Option Addr) (nb cb : Nat) (fb : Nat → Int) (kd : Int) (D : Option Addr) (nd cd : Nat) (fd gd : Nat → Int) (w : World)
    (h0 : (0 ≤ s ∧ s ≤ 18446744073709551615) ∧ (0 ≤ r ∧ r ≤ 18446744073709551615) ∧ (0 ≤ m ∧ m ≤ 18446744073709551615) ∧ IdOk K ∧ (0 ≤ x ∧ x ≤ 18446744073709551615) ∧ In2 w A n f g)
    (h1 : (0 ≤ ax ∧ ax ≤ 18446744073709551615) ∧ InInts .u64 w B nb fb) (h2 : (Lit.int .i64 kd).wf = true) (h3 : In2 w D nd fd gd) :
    Calls Try.prog 4 #[entV s r m K x A n c, arrV ax B nb cb, .int .i64 kd, .slice D nd cd] w fun e w' => e = .returned (.bool true) ∧ Below w.heap.size w w' := by
  obtain ⟨hs, hr, hm, hK, hx, hi⟩ := h0
  obtain ⟨hax, hib⟩ := h1
  by_cases hall : n ≤ 60 ∧ nb ≤ 60 ∧ nd ≤ 60
  · exact walk_main s r m K x A n c f g ax B nb cb fb kd D nd cd fd gd w hi hall.1 hK hs hr hm hx hax hib hall.2.1 h3 hall.2.2
  have P0 := Lib.hid ((show Blk (w.alloc (entC 29 s r m K x A n c)) w.heap.size (entL s r m K x A n c) 29 from Blk.new w _ _).alloc (arrC 39 ax B nb cb))
  have Q0 := Lib.hid (show Blk ((w.alloc (entC 29 s r m K x A n c)).alloc (arrC 39 ax B nb cb)) (w.heap.size + 1) (aL ax B nb cb) 39 from Blk.new_at _ _ _ _ (by simp))
  have B0 := Lib.hid (((Below.refl w.heap.size w).alloc (Nat.le_refl _) (entC 29 s r m K x A n c)).alloc (by simp) (arrC 39 ax B nb cb))
  clear hi hib h3
  by_cases c1 : 60 < n
  · have d1 : decide ((60 : Int) < (n : Int)) = true := by simp; omega
    go_enter Try.func4, Try.ntmps4
    go_wp2_with (go_at_call 8; (with_reducible refine (first_any _).mono ?_); rintro e w1 ⟨rfl, hb1⟩; have B1 := Lib.hid (B0.out.trans (hb1.mono B0.out.size)); have P1 := Lib.hid (P0.out.below hb1 P0.out.lt); have Q1 := Lib.hid (Q0.out.below hb1 Q0.out.lt); have p20 := P1.out.cell (i := 20) rfl; have q1 := Q1.out.cell (i := 1) rfl; clear hb1)
    go_ret
    exact ⟨rfl, B1.out⟩
  have d1 : decide ((60 : Int) < (n : Int)) = false := by simp; omega
  by_cases c2 : 60 < nb
  · have d2 : decide ((60 : Int) < (nb : Int)) = true := by simp; omega
    go_enter Try.func4, Try.ntmps4
    go_wp2_with (go_at_call 8; (with_reducible refine (first_any _).mono ?_); rintro e w1 ⟨rfl, hb1⟩; have B1 := Lib.hid (B0.out.trans (hb1.mono B0.out.size)); have P1 := Lib.hid (P0.out.below hb1 P0.out.lt); have Q1 := Lib.hid (Q0.out.below hb1 Q0.out.lt); have p20 := P1.out.cell (i := 20) rfl; have q1 := Q1.out.cell (i := 1) rfl; clear hb1)
    go_ret
    exact ⟨rfl, B1.out⟩
  · have d2 : decide ((60 : Int) < (nb : Int)) = false := by simp; omega
    have d3 : decide ((60 : Int) < (nd : Int)) = true := by simp; omega
    go_enter Try.func4, Try.ntmps4
    go_wp2_with (go_at_call 8; (with_reducible refine (first_any _).mono ?_); rintro e w1 ⟨rfl, hb1⟩; have B1 := Lib.hid (B0.out.trans (hb1.mono B0.out.size)); have P1 := Lib.hid (P0.out.below hb1 P0.out.lt); have Q1 := Lib.hid (Q0.out.below hb1 Q0.out.lt); have p20 := P1.out.cell (i := 20) rfl; have q1 := Q1.out.cell (i := 1) rfl; clear hb1)
    go_ret
    exact ⟨rfl, B1.out⟩
end Go.Proofs.Ytoklhjooldfcfaa.EntryPutsW
