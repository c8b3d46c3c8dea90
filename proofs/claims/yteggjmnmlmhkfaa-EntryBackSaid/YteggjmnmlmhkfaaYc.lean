/-
  Numbers laid behind bytes: the program's 'with', the document's Nums of a slice that came in.
-/
import Derived.Test.YteggjmnmlmhkfaaOe
import Derived.Test.YteggjmnmlmhkfaaRows2
import Derived.Test.YteggjmnmlmhkfaaKf
import Derived.Test.YteggjmnmlmhkfaaOwnF
namespace Go.Proofs.Yteggjmnmlmhkfaa.Yc
open Go.ChangeShapes Go.WideShapes Go.ChangeAt Go.RowKit
open Bytes8 Blk8 Own8 OwnM OwnE OwnA LeA LeAl LeNum LeB LeP RefA RefB Ob Oc Od Oe Rows2 Kf
set_option linter.unusedVariables false
set_option linter.unusedSimpArgs false
set_option maxRecDepth 100000

/-- The numbers up to the k-th. -/
def ints (f : Nat → Int) (k : Nat) : List Int := (List.range k).map f
theorem ints_zero (f : Nat → Int) : ints f 0 = [] := rfl
theorem ints_succ (f : Nat → Int) (k : Nat) : ints f (k + 1) = ints f k ++ [f k] := by simp [ints, List.range_succ]
theorem ints_len (f : Nat → Int) (k : Nat) : (ints f k).length = k := by simp [ints]
theorem ints_nums (f : Nat → Int) (k : Nat) : nums (ints f (k + 1)) = nums (ints f k) ++ lowB (f k) 8 := by rw [ints_succ, nums_snoc]
theorem ints_list (l : List Int) : ints (fun i => l.getD i 0) l.length = l := by
  apply List.ext_getElem
  · simp [ints]
  · intro i h1 h2
    simp [ints, List.getD_eq_getElem?_getD, List.getElem?_eq_getElem h2]
theorem nums_ints_len (f : Nat → Int) (k : Nat) : (nums (ints f k)).length = 8 * k := by rw [nums_len, ints_len]

/-- Numbers of a block, as a slice that came in. -/
theorem blk_ints {w : World} {g : Nat} {l : List Int} {T : TypeId} (h : Blk w g (l.map (Value.int .u64)) T) (hv : I64 l) : InInts .u64 w (some ⟨g, 0, none⟩) l.length (fun i => l.getD i 0) := fun i hi => by
  have e : l.getD i 0 = l[i] := by simp [List.getElem?_eq_getElem hi]
  refine ⟨g, 0, rfl, h.lt, ?_, ?_⟩
  · rw [Nat.zero_add, h.cell (i := i) (v := .int .u64 (l.getD i 0)) (by simp [List.getElem?_eq_getElem hi])]
  · have := hv _ (List.getElem_mem hi)
    show (Lit.int .u64 (l.getD i 0)).wf = true
    rw [e]
    simp [Lit.wf, IntKind.min, IntKind.max, IntKind.signed, IntKind.bits]
    omega
theorem InInts.bd {w : World} {a : Option Addr} {n : Nat} {f : Nat → Int} (h : InInts .u64 w a n f) (i : Nat) (hi : i < n) : 0 ≤ f i ∧ f i ≤ 18446744073709551615 := by
  obtain ⟨_, _, _, _, _, hw⟩ := h i hi
  exact bounds_u64 hw
theorem InInts.keptF {k : IntKind} {w w' : World} {a : Option Addr} {n : Nat} {f : Nat → Int} {F : Nat → Prop} (h : InInts k w a n f) (hk : KeptF F w w') (hF : ∀ b off, a = some ⟨b, off, none⟩ → ¬ F b) : InInts k w' a n f := fun i hi => by
  obtain ⟨b, off, e, h1, h2, h3⟩ := h i hi
  exact ⟨b, off, e, Nat.lt_of_lt_of_le h1 hk.size, (World.cell?_of_block (hk.block b h1 (hF b off e))).trans h2, h3⟩

theorem wpList_append_gr {w : World} {ops : Array Oper} {rest : List Oper} {o : Oper} {a : Act} {Q : Exit → Act → World → Prop} (hgd : o.guard = none) (s x : Operand)
    (hop : o.op = .call { callee := .builtin .append, args := #[s, x], argTypes := #[22, 22] })
    (base : Nat) (A : Option Addr) (n c : Nat) (l : List Int) (hs : a.eval s = .slice A n c) (ho : Own w base A n c l) (A2 : Option Addr) (m c2 : Nat) (ys : List Int) (hx : a.eval x = .slice A2 m c2) (hb : Bytes w A2 ys) (hm : ys.length = m) (hsz : n + m ≤ 70368744177664)
    (h : ∀ A' c' w', Own w' base A' (n + m) c' (l ++ ys) → w.grownBy w' (ownB A) → (ownB A' = ownB A ∨ ownB A' = some w.heap.size) → wpList Try.prog ops Q rest (a.put o.dst (.slice A' (n + m) c')) w') : wpList Try.prog ops Q (o :: rest) a w :=
  wpList_plain hgd fun K hK => by
    obtain ⟨A', c', w', hr, h1, h2, h3⟩ := run_append_at w o.type base A n c l ho A2 m c2 ys hb hm hsz
    unfold Oper.wp execOp
    simp only [hop, resolve, invoke, builtin, Sem.run_bind, Sem.run_pure, Result.andThen_ok, List.map_toArray, List.map_cons, List.map_nil, hs, hx, hr]
    exact hK _ _ (h A' c' w' h1 h2 h3)

/-- The block of a slice, as a set. -/
abbrev At (A : Option Addr) (k : Nat) : Prop := ownB A = some k
/-- What is told by a call that lays numbers behind bytes of the caller's own. -/
def Laid (base : Nat) (A : Option Addr) (m : List Int) (n : Nat) (w : World) (e : Ending) (w' : World) : Prop :=
  ∃ A' c', e = .returned (.slice A' n c') ∧ Own w' base A' n c' m ∧ KeptF (At A) w w' ∧ (ownB A' = ownB A ∨ ∃ g, w.heap.size ≤ g ∧ ownB A' = some g)
theorem Laid.below {base : Nat} {w w' : World} {A : Option Addr} {n c : Nat} {l : List Int} (ho : Own w base A n c l) (hk : KeptF (At A) w w') : Below base w w' :=
  hk.below ho.2.2.1 fun k hk => (Own.block ho hk).1

set_option maxHeartbeats 2000000 in
theorem with_any (base : Nat) (A : Option Addr) (n c : Nat) (l : List Int) (Ai : Option Addr) (m ci : Nat) (f : Nat → Int) (w : World) (ho : Own w base A n c l) (hi : InInts .u64 w Ai m f) (hap : 0 < m → ∀ b off, Ai = some ⟨b, off, none⟩ → ownB A ≠ some b) (hn : n ≤ 1000000) (hm : m ≤ 1000000) :
    Calls Try.prog 36 #[.slice A n c, .slice Ai m ci] w (Laid base A (l ++ nums (ints f m)) (n + 8 * m) w) := by
  have HI := Lib.hid hi
  have HO := Lib.hid ho
  have HAp := Lib.hid hap
  clear hi ho hap
  unfold Laid
  go_enter Try.func36, Try.ntmps36
  go_wp2
  go_loopw [0, 9] (fun s i wr => ∃ (k : Nat) (A' : Option Addr) (c' : Nat), k ≤ m ∧ i = .int .i64 (k : Int) ∧ s = .slice A' (n + 8 * k) c' ∧ Hid (Own wr base A' (n + 8 * k) c' (l ++ nums (ints f k))) ∧ Hid (KeptF (At A) w wr) ∧ Hid (ownB A' = ownB A ∨ ∃ g, w.heap.size ≤ g ∧ ownB A' = some g)) (fun _ i _ => m - (intOf i).toNat)
  case atStart => exact ⟨0, A, c, Nat.zero_le _, rfl, rfl, by rw [ints_zero, nums_nil, List.append_nil]; exact HO, Lib.hid (KeptF.refl _ _), Lib.hid (.inl rfl)⟩
  case round =>
    obtain ⟨k, A', c', hk, rfl, rfl, ho, hkept, hat⟩ := hrel
    by_cases hlt : k < m
    · obtain ⟨b, off, rfl, hb, hc, hw⟩ := (InInts.keptF HI.out hkept.out (fun b off e => HAp.out (by omega) b off e)) k hlt
      obtain ⟨x0, x1⟩ := bounds_u64 hw
      have HN := Lib.hid (ints_nums f k)
      have HA := Lib.hid (add8 none [] 0 0 (f k) wr rfl (by decide) (Bytes.nil _ _))
      generalize f k = x at *
      go_wp2_with (first
        | (go_at_call 47; (with_reducible refine HA.out.mono ?_); rintro e w2 ⟨rfl, hr2, hb2⟩; have HR2 := Lib.hid hr2; have HB2 := Lib.hid hb2; clear hr2 hb2)
        | (at_builtin; refine wpList_append_gr rfl (.tmp 13) (.tmp 15) rfl base A' (n + 8 * k) c' _ rfl (ho.out.kept HB2.out (Nat.le_refl _)) (some ⟨wr.heap.size, 0, none⟩) 8 8 ([] ++ lowB x 8) rfl (HR2.out.bytes (by simpa using lowB_all _ _)) (by simp [lowB_len]) (by omega) ?_; intro A3 c3 w3 ho3 hg3 hat3; have HO3 := Lib.hid ho3; have HG3 := Lib.hid hg3; have HT3 := Lib.hid hat3; clear ho3 hg3 hat3))
      go_roundw
      case rel =>
        have hs := hkept.out.size
        have hs2 := HB2.out.size
        refine ⟨k + 1, A3, c3, by omega, by go_num, rfl, ?_, ?_, ?_⟩
        · rw [HN.out, ← List.append_assoc]
          exact HO3
        · refine Lib.hid ((hkept.out.trans (G := None') (KeptF.of_below HB2.out) (fun _ _ h => h.elim)).grown HG3.out (fun g hg hlt => ?_))
          rcases hat.out with h | ⟨g2, h2, h3⟩
          · exact h.symm.trans hg
          · rw [h3] at hg
            injection hg with hg
            omega
        · refine Lib.hid ?_
          rcases HT3.out with h | h
          · rw [h]; exact hat.out
          · exact .inr ⟨_, by omega, h⟩
      case measure => simp [intOf]; omega
    · obtain rfl : k = m := by omega
      go_wp2
      go_ret
      exact ⟨A', c', rfl, ho.out, hkept.out, hat.out⟩

set_option maxHeartbeats 1000000 in
theorem rnums_in (Ai : Option Addr) (n cap : Nat) (f : Nat → Int) (w : World) (hi : InInts .u64 w Ai n f) (hmax : n ≤ 100000) :
    Calls Try.prog 38 #[.slice Ai n cap] w fun e w' => ∃ A c, e = .returned (.slice A (8 * n) c) ∧ Own w' w.heap.size A (8 * n) c (nums (ints f n)) ∧ Below w.heap.size w w' := by
  have HI := Lib.hid hi
  clear hi
  go_enter Try.func38, Try.ntmps38
  go_wp2
  go_loopw [3, 4] (fun s i wr => ∃ (k : Nat) (A : Option Addr) (c : Nat), k ≤ n ∧ i = .int .i64 (k : Int) ∧ s = .slice A (8 * k) c ∧ Hid (Own wr w.heap.size A (8 * k) c (nums (ints f k))) ∧ Hid (Below w.heap.size w wr)) (fun _ i _ => n - (intOf i).toNat)
  case atStart => exact ⟨0, none, 0, Nat.zero_le _, rfl, rfl, Own.nil w _ (Nat.le_refl _), Below.refl _ _⟩
  case round =>
    obtain ⟨k, A, c, hk, rfl, rfl, ho, hbel⟩ := hrel
    by_cases hlt2 : k < n
    · obtain ⟨b, off, rfl, hb, hc, hw⟩ := (HI.out.below hbel.out) k hlt2
      obtain ⟨x0, x1⟩ := bounds_u64 hw
      have HN := Lib.hid (ints_nums f k)
      have hsz := hbel.out.size
      generalize f k = x at *
      have HLo := Lib.hid fun (W : World) => rlow_at x 8 8 W x0 x1 (by decide) rfl
      go_wp2_with (first | (go_at_call 51; (with_reducible refine (HLo.out _).mono ?_); rintro e w2 ⟨A2, c2, rfl, ho2, hbel2⟩; have HO2 := Lib.hid ho2; have HB2 := Lib.hid hbel2; clear ho2 hbel2) | (at_builtin; refine wpList_append_bytes rfl (.tmp 11) (.tmp 16) rfl w.heap.size A (8 * k) c (nums (ints f k)) rfl (ho.out.kept HB2.out (Nat.le_refl _)) A2 8 c2 _ rfl HO2.out.bytes (lowB_len _ _) (by omega) ?_; intro A3 c3 w3 ho3 hbel3; have HO3 := Lib.hid ho3; have HB3 := Lib.hid hbel3; clear ho3 hbel3))
      go_roundw
      case rel =>
        refine ⟨k + 1, A3, c3, by omega, by go_num, rfl, ?_, Lib.hid ((hbel.out.trans (HB2.out.mono hsz)).trans HB3.out)⟩
        rw [HN.out]
        exact HO3
      case measure => simp [intOf]; omega
    · obtain rfl : k = n := by omega
      go_wp2
      go_ret
      exact ⟨A, c, rfl, ho.out, hbel.out⟩

/-! ## numbers of a literal -/
theorem with_blk (base : Nat) (A : Option Addr) (n c : Nat) (l : List Int) (g : Nat) (ls : List Int) (m ci z : Nat) (T : TypeId) (w : World) (ho : Own w base A n c l) (hb : Blk w g (ls.map (Value.int .u64)) T) (hv : I64 ls) (hm : ls.length = m) (hap : ownB A ≠ some g) (hn : n ≤ 1000000) (hmx : m ≤ 1000000) (hz : n + 8 * m = z) :
    Calls Try.prog 36 #[.slice A n c, .slice (some ⟨g, 0, none⟩) m ci] w (Laid base A (l ++ nums ls) z w) := by
  subst hm hz
  have h := with_any base A n c l (some ⟨g, 0, none⟩) ls.length ci _ w ho (blk_ints hb hv) (fun _ b off e => by injection e with e; injection e with e; subst e; exact hap) hn hmx
  rw [ints_list] at h
  exact h
/-- What is told, for whoever asks less. -/
def Laid' (base : Nat) (m : List Int) (n : Nat) (w : World) (e : Ending) (w' : World) : Prop :=
  ∃ A' c', e = .returned (.slice A' n c') ∧ Own w' base A' n c' m ∧ Below base w w'
theorem with_new (base : Nat) (A : Option Addr) (n c : Nat) (l : List Int) (ls : List Int) (m z g : Nat) (W : World) (hg : W.heap.size = g) (ho : Own W base A n c l) (hv : I64 ls) (hm : ls.length = m) (hn : n ≤ 1000000) (hmx : m ≤ 1000000) (hz : n + 8 * m = z) :
    Calls Try.prog 36 #[.slice A n c, .slice (some ⟨g, 0, none⟩) m m] (W.alloc (.cells (ls.map (Value.int .u64)).toArray 23)) (Laid' base (l ++ nums ls) z W) := by
  subst hg
  have ho2 := ho.alloc (.cells (ls.map (Value.int .u64)).toArray 23)
  refine (with_blk base A n c l W.heap.size ls m m z 23 _ ho2 (Blk.new W _ _) hv hm (fun e => ?_) hn hmx hz).mono fun e w' ⟨A', c', h1, h2, h3, h4⟩ => ⟨A', c', h1, h2, ((Below.refl base W).alloc ho.2.2.1 _).trans (Laid.below ho2 h3)⟩
  have := (Own.block ho e).2
  omega
theorem with1 (base : Nat) (A : Option Addr) (n c : Nat) (l : List Int) (x : Int) (z g : Nat) (W : World) (hg : W.heap.size = g) (ho : Own W base A n c l) (hv : 0 ≤ x ∧ x ≤ 18446744073709551615) (hn : n ≤ 1000000) (hz : n + 8 = z) :
    Calls Try.prog 36 #[.slice A n c, .slice (some ⟨g, 0, none⟩) 1 1] (W.alloc (.cells #[.int .u64 x] 23)) (Laid' base (l ++ nums [x]) z W) :=
  with_new base A n c l [x] 1 z g W hg ho (fun v h => by simp at h; subst h; exact hv) rfl hn (by decide) hz
theorem with2 (base : Nat) (A : Option Addr) (n c : Nat) (l : List Int) (x y : Int) (z g : Nat) (W : World) (hg : W.heap.size = g) (ho : Own W base A n c l) (hx : 0 ≤ x ∧ x ≤ 18446744073709551615) (hy : 0 ≤ y ∧ y ≤ 18446744073709551615) (hn : n ≤ 1000000) (hz : n + 16 = z) :
    Calls Try.prog 36 #[.slice A n c, .slice (some ⟨g, 0, none⟩) 2 2] (W.alloc (.cells #[.int .u64 x, .int .u64 y] 23)) (Laid' base (l ++ nums [x, y]) z W) :=
  with_new base A n c l [x, y] 2 z g W hg ho (fun v h => by simp at h; rcases h with rfl | rfl <;> assumption) rfl hn (by decide) hz

/-! ## pairs of numbers that came in -/
def In2 (w : World) (a : Option Addr) (n : Nat) (f g : Nat → Int) : Prop :=
  ∀ i, i < n → ∃ b off, a = some ⟨b, off, none⟩ ∧ b < w.heap.size ∧ w.cell? ⟨b, off + i * 2, none⟩ = some (.int .u64 (f i)) ∧ w.cell? ⟨b, off + i * 2 + 1, none⟩ = some (.int .u64 (g i)) ∧ (0 ≤ f i ∧ f i ≤ 18446744073709551615) ∧ (0 ≤ g i ∧ g i ≤ 18446744073709551615)
theorem In2.below {w w' : World} {a : Option Addr} {n : Nat} {f g : Nat → Int} {B : Nat} (h : In2 w a n f g) (hb : Below B w w') (hB : ∀ b off, a = some ⟨b, off, none⟩ → b < B) : In2 w' a n f g := fun i hi => by
  obtain ⟨b, off, e, h1, h2, h3, h4⟩ := h i hi
  have hlt := hB b off e
  exact ⟨b, off, e, Nat.lt_of_lt_of_le h1 hb.size, (hb.cell (p := ⟨b, off + i * 2, none⟩) hlt).trans h2, (hb.cell (p := ⟨b, off + i * 2 + 1, none⟩) hlt).trans h3, h4⟩
theorem In2.keep {w w' : World} {a : Option Addr} {n : Nat} {f g : Nat → Int} (h : In2 w a n f g) (hb : Below w.heap.size w w') : In2 w' a n f g := fun i hi => by
  obtain ⟨b, off, e, h1, h2, h3, h4⟩ := h i hi
  exact ⟨b, off, e, Nat.lt_of_lt_of_le h1 hb.size, (hb.cell (p := ⟨b, off + i * 2, none⟩) h1).trans h2, (hb.cell (p := ⟨b, off + i * 2 + 1, none⟩) h1).trans h3, h4⟩
/-- The pairs up to the k-th, one number behind the other. -/
def prs (f g : Nat → Int) (k : Nat) : List Int := (List.range k).flatMap fun i => [f i, g i]
theorem prs_zero (f g : Nat → Int) : prs f g 0 = [] := rfl
theorem prs_succ (f g : Nat → Int) (k : Nat) : prs f g (k + 1) = prs f g k ++ [f k, g k] := by simp [prs, List.range_succ, List.flatMap_append]
theorem prs_len (f g : Nat → Int) (k : Nat) : (prs f g k).length = 2 * k := by
  induction k with
  | zero => rfl
  | succ k ih => rw [prs_succ, List.length_append, ih]; simp; omega
theorem nums_prs (f g : Nat → Int) (k : Nat) : nums (prs f g (k + 1)) = nums (prs f g k) ++ nums [f k, g k] := by rw [prs_succ, nums_app]
theorem nums_prs_len (f g : Nat → Int) (k : Nat) : (nums (prs f g k)).length = 16 * k := by rw [nums_len, prs_len]; omega

/-! ## room made -/
theorem make_room (p : Nat) (z : Int) (hz : z = (p : Int)) (hp : p ≤ 100000000) (w : World) : (Instr.makeSlice 22 (.int .i64 0) (.int .i64 z)).run Try.prog w = .ok (.slice (some ⟨w.heap.size, 0, none⟩) 0 p) (w.alloc (.cells (Array.replicate p (Value.int .u8 0)) 5)) := by
  subst hz
  obtain ⟨i, hi, hzz⟩ := Option.map_eq_some_iff.1 info8
  simp only [Prod.mk.injEq] at hzz
  obtain ⟨hz, hs, hb⟩ := hzz
  have h := run_make (P := Try.prog) w 22 5 i (.int .u8 0) Try.underlying22 hi hz .i64 .i64 0 (p : Int) (Int.le_refl _) (by omega) (by rw [hb]; omega) (by omega)
  have e : madeCells (Value.int .u8 0).cells ((p : Int).toNat * i.size) = Array.replicate p (Value.int .u8 0) := by
    apply Array.ext'
    rw [hs, Nat.mul_one, Int.toNat_natCast]
    show (madeCells #[Value.int .u8 0] p).toList = _
    rw [toList_madeCells_one]
    simp
  rw [e] at h
  exact h
theorem own_room (p g base : Nat) (w : World) (hg : w.heap.size = g) (hb : base ≤ g) (hp : p ≤ maxLen) : Own (w.alloc (.cells (Array.replicate p (Value.int .u8 0)) 5)) base (some ⟨g, 0, none⟩) 0 p [] := by
  subst hg
  exact ⟨(fun _ h => by cases h), rfl, by simp; omega, World.ownsRow_made w _ p hb hp (by simp)⟩
end Go.Proofs.Yteggjmnmlmhkfaa.Yc
