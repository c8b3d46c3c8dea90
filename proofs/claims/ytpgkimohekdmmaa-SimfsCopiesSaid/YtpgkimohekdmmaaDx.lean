/-
  The program's directory: Crash: what is pending undone, the last one first.
-/
import Derived.Test.YtpgkimohekdmmaaDf
import Derived.Test.YtpgkimohekdmmaaDr
import Derived.Test.YtpgkimohekdmmaaDs
import Derived.Test.YtpgkimohekdmmaaSfe
import Derived.Test.YtpgkimohekdmmaaIt
namespace Go.Proofs.Ytpgkimohekdmmaa.Dx
open Go.ChangeShapes Go.WideShapes Go.ChangeAt Go.RowKit Go.Shelf
open Bytes8 Blk8 Own8 OwnA OwnM OwnE Fa Fo Ta Ua Kf Dm Dp Da Db Dc Dd Ds Df Dr Sfb Do8 Go.Maps
set_option linter.unusedVariables false
set_option linter.unusedSimpArgs false
set_option maxRecDepth 100000
attribute [local go_sem] Oper.semAt_some

theorem ownE_cap {E : TypeId} {size : Nat} {w : World} {base n c : Nat} {A : Option Addr} {xs : List Value} (h : OwnE E size w base A n c xs) : n ≤ c := by
  rcases h.2.2 with ⟨h1, h2⟩ | ⟨g, cap, cur, h1, _, _, h2, _⟩
  · omega
  · injection h1 with _ _ e; omega
theorem cell_lt {W : World} {b i : Nat} {v : Value} (h : W.cell? ⟨b, i, none⟩ = some v) : b < W.heap.size := by
  rcases Nat.lt_or_ge b W.heap.size with h1 | h1
  · exact h1
  · unfold World.cell? at h
    rw [Array.getElem?_eq_none h1] at h
    cases h
theorem own_fresh {w : World} {own : Nat → Nat} (h : ∀ k, own k ≠ 0 → k < w.heap.size) {k : Nat} (hk : w.heap.size ≤ k) : own k = 0 := by
  rcases Nat.eq_zero_or_pos (own k) with e | e
  · exact e
  · have := h k (by omega); omega
theorem undo_len {r : RowD} (hr : Rises r) (cs : List Bd) : (undo r cs).length ≤ r.length + cs.length := by
  unfold undo
  induction cs generalizing r with
  | nil => simp
  | cons b cs ih =>
    have := ih (setRow_rises hr b)
    rw [List.foldl_cons, List.length_cons]
    have h2 : (setRow r b).length ≤ r.length + 1 := by
      unfold setRow; split
      · rw [out_length hr]; split <;> omega
      · rw [put_length hr]; split <;> omega
    omega
theorem undo_snoc (r : RowD) (cs : List Bd) (b : Bd) : undo r (cs ++ [b]) = setRow (undo r cs) b := by simp [undo]
theorem undo_take {r : RowD} {cs : List Bd} {k : Nat} (hk : k < cs.length) : undo r (cs.take (k + 1)) = setRow (undo r (cs.take k)) (cs.getD k ([], 0)) := by
  rw [take_snoc ([], 0) hk, undo_snoc]
def backs (us : List Und) (row : RowD) (pre : List Nat) : RowD := pre.foldl (fun r j => undo r (us.getD j default).cs) row
theorem backs_snoc (us : List Und) (row : RowD) (pre : List Nat) (j : Nat) : backs us row (pre ++ [j]) = undo (backs us row pre) (us.getD j default).cs := by simp [backs]

theorem backs_down {past : List RowD} {row : RowD} {us : List Und} {n st : Nat} (hn : us.length = n) (hl : us.length = past.length) (hch : ∀ j, j < us.length → undo ((past ++ [row]).getD (j + 1) []) (us.getD j default).cs = past.getD j []) (hst : st ≤ n) {k : Nat} (hk : k ≤ n - st) :
    backs us row ((down (n - st) k).map (st + ·)) = (past ++ [row]).getD (n - k) [] := by
  induction k with
  | zero =>
    show row = _
    rw [← hn, hl]; simp
  | succ k ih =>
    rw [down_succ, List.map_append, List.map_singleton, backs_snoc, ih (by omega)]
    have h1 := hch (n - 1 - k) (by omega)
    rw [show n - 1 - k + 1 = n - k by omega] at h1
    rw [show st + (n - st - 1 - k) = n - 1 - k by omega, h1]
    rw [show n - (k + 1) = n - 1 - k by omega, List.getD_eq_getElem?_getD, List.getD_eq_getElem?_getD, List.getElem?_append_left (by omega)]
/-- The numbers of a row's files, in order. -/
def idsOf (r : RowD) (made : Nat) : List Nat := ((List.range made).map (· + 1)).filter fun i => (r.map (·.2)).contains i
theorem idsOf_mem {r : RowD} {made : Nat} (h : GoodRow made r) (i : Nat) : i ∈ idsOf r made ↔ (r.map (·.2)).contains i = true := by
  unfold idsOf
  rw [List.mem_filter]
  constructor
  · exact fun h => h.2
  · intro hc
    refine ⟨?_, hc⟩
    have h2 := hc
    simp only [List.contains_eq_mem, decide_eq_true_eq] at h2
    obtain ⟨p, hp, e⟩ := List.mem_map.1 h2
    have := h.ids p hp
    rw [← e]
    exact List.mem_map.2 ⟨p.2 - 1, List.mem_range.2 (by omega), by omega⟩
theorem idsOf_rise (r : RowD) (made : Nat) : (idsOf r made).Pairwise (· < ·) := by
  unfold idsOf
  refine List.Pairwise.filter _ ?_
  rw [List.pairwise_map]
  exact List.pairwise_lt_range.imp fun h => by omega
theorem sorted_ids {w : World} {b k : Nat} {D : DU} {gs : Nat → Nat} {r : RowD} {made : Nat} {ss : List Int} (h : w.ownsMap Try.prog 3 rP b k D) (hV : FilesV D (fun i => (r.map (·.2)).contains i) gs) (hg : GoodRow made r) (hp : ss.Perm (intKeys D)) :
    ss.mergeSort (fun x y => decide (x ≤ y)) = (idsOf r made).map fun i => ((i : Nat) : Int) := by
  obtain ⟨es, rfl, hko⟩ := h.keysOf
  obtain ⟨es', e, hpw⟩ := hV.tidy
  obtain rfl : es = es' := by injection e
  have hks : ∀ p ∈ es, ∃ x, p.1 = .int .i64 x := fun p hp => by
    obtain ⟨key, hk⟩ := hko p hp
    obtain ⟨x, _, hx, _⟩ := Maps.keyOf_i64 Try.underlying3 hk
    exact ⟨x, hx⟩
  have hnd : ((idsOf r made).map fun i => ((i : Nat) : Int)).Nodup := by
    rw [List.Nodup, List.pairwise_map]
    exact (idsOf_rise r made).imp fun h e => by omega
  have hm : ∀ x, x ∈ ((idsOf r made).map fun i => ((i : Nat) : Int)) ↔ Maps.has (DataW.map es : DU) (.int .i64 x) = true := fun x => by
    constructor
    · intro hx
      obtain ⟨i, hi, rfl⟩ := List.mem_map.1 hx
      have := hV.has i
      rw [(idsOf_mem hg i).1 hi] at this
      exact this
    · intro hx
      obtain ⟨i, e⟩ := hV.keys _ hx
      unfold kI at e
      injection e with _ e
      subst e
      have := hV.has i
      unfold kI at this
      rw [hx] at this
      exact List.mem_map.2 ⟨i, (idsOf_mem hg i).2 this.symm, rfl⟩
  have hperm := perm_intKeys (H := Unit) hpw hks hnd hm
  have e1 := mergeSort_of_perm_i (hp.trans hperm.symm)
  refine e1.trans (List.mergeSort_of_pairwise ?_)
  rw [List.pairwise_map]
  exact (idsOf_rise r made).imp fun h => by simp [leI]; omega
/-- Where the kept ones lie that are not asked for yet. -/
def Lies (a a' : Option Addr) (p len : Nat) : Prop := ∀ b off, a = some ⟨b, off, none⟩ → 0 < len → a' = some ⟨b, off + p, none⟩
theorem Lies.bools {w : World} {a a' : Option Addr} {p L : Nat} {K : Nat → Bool} (h : Lies a a' p (L - p)) (hK : InBools w a L K) : InBools w a' (L - p) (fun j => K (p + j)) := fun i hi => by
  obtain ⟨b, off, e, h1, h2⟩ := hK (p + i) (by omega)
  exact ⟨b, off + p, h b off e (by omega), h1, by rw [Nat.add_assoc]; exact h2⟩
theorem Lies.cut {a a' : Option Addr} {p len c m : Nat} (h : Lies a a' p len) (hc : len ≤ c) (hm : m ≤ len) : Lies a (cutA a' c m) (p + m) (len - m) := fun b off e h0 => by
  rw [h b off e (by omega), cutA_some, if_neg (by omega), Nat.add_assoc]
theorem bools_keptF {w w' : World} {a : Option Addr} {L : Nat} {K : Nat → Bool} {G : Nat → Prop} (h : InBools w a L K) (hk : KeptF G w w') (ho : ∀ b off, a = some ⟨b, off, none⟩ → 0 < L → b < w.heap.size → ¬ G b) : InBools w' a L K := fun i hi => by
  obtain ⟨b, off, e, h1, h2⟩ := h i hi
  exact ⟨b, off, e, Nat.lt_of_lt_of_le h1 hk.size, (World.cell?_of_block (hk.block b h1 (ho b off e (by omega) h1))).trans h2⟩
theorem bools_lt {w : World} {a : Option Addr} {L : Nat} {K : Nat → Bool} (h : InBools w a L K) {b off : Nat} (e : a = some ⟨b, off, none⟩) (hL : 0 < L) : b < w.heap.size := by
  obtain ⟨b', off', e', h6, _⟩ := h 0 hL
  rw [e] at e'
  injection e' with e'
  injection e' with e1 e2
  subst e1; exact h6

/-- One element of the loop 'for _, was := range ..': its bindings laid, one behind the other. -/
structure Turn (w W : World) (own : Nat → Nat) (g room made : Nat) (row : RowD) (fl : Nat → Fl) (fz : Int) (off : Bool) (Mf Mn : Nat) (Df : DU) (A : Option Addr) (n c : Nat) (us : List Und) (S : Nat → Bool) (gs : Nat → Nat) (fb : Nat) : Prop where
  core : ∃ Dn, Core W own g room made row fl fz off Mf Mn Df Dn A n c us S gs
  box : W.cell? ⟨fb, 0, none⟩ = some (.pointer (some ⟨g, 0, none⟩))
  kept : KeptF (Mine own) w W

theorem sized_cut (t : TypeId) (A : Option Addr) (len cap lo : Nat) (w : World) (hs : (sizeOf (Try.prog.elem t)).run Try.prog w = .ok 1 w) (ht : Try.prog.underlying t = some (.slice (Try.prog.elem t))) (h1 : lo ≤ cap) :
    (Instr.slice t (.slice A len cap) none (some (.int .i64 lo)) none).run Try.prog w = .ok (.slice A lo cap) w := by
  rw [run_slice_h w t A len cap ht .i64 lo (by omega) (by omega), hs]
  simp [Result.andThen, sliced]
  intro _
  cases A with
  | none => rfl
  | some a => simp [Addr.add]
theorem sizeOfT {E : TypeId} {z : Value} {bytes : Nat} (h : (Try.prog.info? E).map (fun i => (i.zero, i.size, i.bytes)) = some (some z, 1, bytes)) (w : World) : (sizeOf E).run Try.prog w = .ok 1 w := by
  obtain ⟨i, hi, hzz⟩ := Option.map_eq_some_iff.1 h
  simp only [Prod.mk.injEq] at hzz
  simp [sizeOf, typeInfo, hi, hzz]
theorem elemP : Try.prog.elem 54 = 73 := by kernel_rfl
theorem elemK : Try.prog.elem 36 = 4 := by kernel_rfl
theorem infoB : (Try.prog.info? 4).map (fun i => (i.zero, i.size, i.bytes)) = some (some (.bool false), 1, 1) := by kernel_rfl
theorem cutP (A : Option Addr) (len cap lo : Nat) (h1 : lo ≤ len) (w : World) :
    (Instr.slice 54 (.slice A len cap) (some (.int .i64 lo)) none none).run Try.prog w = .ok (.slice (cutA A cap lo) (len - lo) (cap - lo)) w :=
  sliced_low _ A len cap lo w (by rw [elemP]; exact sizeOfT pendElt.info w) (by rw [elemP]; exact Try.underlying54) h1
theorem cutKl (A : Option Addr) (len cap lo : Nat) (h1 : lo ≤ len) (w : World) :
    (Instr.slice 36 (.slice A len cap) (some (.int .i64 lo)) none none).run Try.prog w = .ok (.slice (cutA A cap lo) (len - lo) (cap - lo)) w :=
  sliced_low _ A len cap lo w (by rw [elemK]; exact sizeOfT infoB w) (by rw [elemK]; exact Try.underlying36) h1
theorem cutKh (A : Option Addr) (len cap hi : Nat) (h1 : hi ≤ cap) (w : World) :
    (Instr.slice 36 (.slice A len cap) none (some (.int .i64 hi)) none).run Try.prog w = .ok (.slice A hi cap) w :=
  sized_cut _ A len cap hi w (by rw [elemK]; exact sizeOfT infoB w) (by rw [elemK]; exact Try.underlying36) h1

set_option maxHeartbeats 8000000 in
theorem crash_any (w : World) (own : Nat → Nat) (g : Nat) (d : Dir) (h : DirP w own g d) (a : Option Addr) (L cL : Nat) (K : Nat → Bool) (hK : InBools w a L K) (hL : L ≤ cL) (hL2 : cL ≤ maxLen) (hoff : ∀ b off, a = some ⟨b, off, none⟩ → ¬ Mine own b) (dirs : Int) (hd1 : -9223372036854775808 ≤ dirs) (hd2 : dirs ≤ 9223372036854775807) :
    Calls Try.prog 20 #[.pointer (some ⟨g, 0, none⟩), .slice a L cL, .int .i64 dirs] w fun e w' => e = .returned (.tuple #[]) ∧ Did w own g (d.crash L K dirs) w' := by
  have H := Lib.hid h
  have HG := Lib.hid h.good
  obtain ⟨fz, Mf, Mn, Df, Dn, A, n, c, us, S, gs, hc, _, hf, hl, hch, hcov⟩ := h
  have hn0 : us.length = n := by have := hc.pend.len; rw [List.length_map] at this; omega
  have hn2 := hc.pmax
  -- what stays
  obtain ⟨st, hst⟩ : ∃ st : Nat, st = min (max dirs 0).toNat n := ⟨_, rfl⟩
  have hstn : st ≤ n := by omega
  obtain ⟨mx, hmx⟩ : ∃ mx : Int, (if dirs < 0 then (0 : Int) else dirs) = mx := ⟨_, rfl⟩
  have hmn : (if (n : Int) < mx then (n : Int) else mx) = (st : Int) := by
    split at hmx <;> split <;> omega
  have e0 : max dirs 0 = mx := by split at hmx <;> omega
  have e1 : min mx (n : Int) = (st : Int) := by split at hmn <;> omega
  have hcn : n ≤ c := ownE_cap hc.pend
  have hcut := cutP A n c st hstn
  have b1 := (Below.refl w.heap.size w).alloc (Nat.le_refl _) (.cells #[.pointer (some ⟨g, 0, none⟩)] 23)
  have h1 := hc.below b1
  have c4 := h1.blk.cell (i := 4) rfl
  have hbox := (Blk.new w [.pointer (some ⟨g, 0, none⟩)] 23).cell (i := 0) rfl
  have HC := Lib.hid hc
  have HCh := Lib.hid hch
  have HCov := Lib.hid hcov
  have HL := Lib.hid hl
  have HF := Lib.hid hf
  have HKb := Lib.hid hK
  have HSt := Lib.hid hst
  clear h1 hc hch hcov hl hf hK hst
  refine (callsIn_wide (n := 6)).1 ?_
  refine callsIn_of_wp_marks Try.func20 rfl trivial ?_ rfl
  refine wpIn_wide.2 ?_
  simp only [Try.ntmps20, List.size_toArray, List.length_cons, List.length_nil, Nat.reduceAdd, Nat.reduceSub, Array.replicate_succ, Array.replicate_zero, List.push_toArray, List.append_toArray, List.nil_append, List.cons_append]
  go_wp2_with (go_at_call 39; (with_reducible refine (back_any _ _ _ _).mono ?_); rintro e w2 ⟨rfl, rfl⟩)
  have hMn := HC.out.foot Mn (by rw [HC.out.tMn]; decide)
  have hgl := HC.out.foot g (by rw [HC.out.tg]; decide)
  have HAlt := Lib.hid (fun k (e : ownB A = some k) => And.intro (HC.out.foot k (by rw [(HC.out.tA k e).1]; decide)) (HC.out.tA k e).2.2.2)
  have hb2 : Below w.heap.size w ((w.alloc (.cells #[.pointer (some ⟨g, 0, none⟩)] 23)).alloc (.cells #[.slice (cutA A c st) (n - st) (c - st)] 54)) := ((Below.refl _ _).alloc (Nat.le_refl _) _).alloc (by simp) _
  have hsz2 : ((w.alloc (.cells #[.pointer (some ⟨g, 0, none⟩)] 23)).alloc (.cells #[.slice (cutA A c st) (n - st) (c - st)] 54)).heap.size = w.heap.size + 1 + 1 := by simp
  have hbx2 : ((w.alloc (.cells #[.pointer (some ⟨g, 0, none⟩)] 23)).alloc (.cells #[.slice (cutA A c st) (n - st) (c - st)] 54)).cell? ⟨w.heap.size, 0, none⟩ = some (.pointer (some ⟨g, 0, none⟩)) := ((Blk.new w [.pointer (some ⟨g, 0, none⟩)] 23).alloc _).cell rfl
  have hbs2 : ((w.alloc (.cells #[.pointer (some ⟨g, 0, none⟩)] 23)).alloc (.cells #[.slice (cutA A c st) (n - st) (c - st)] 54)).cell? ⟨w.heap.size + 1, 0, none⟩ = some (.slice (cutA A c st) (n - st) (c - st)) := by
    have := (Blk.new (w.alloc (.cells #[.pointer (some ⟨g, 0, none⟩)] 23)) [.slice (cutA A c st) (n - st) (c - st)] 54).cell (i := 0) rfl
    rwa [World.size_alloc] at this
  have HB2 := Lib.hid hb2
  have HC2 := Lib.hid (HC.out.below hb2)
  clear hb2
  generalize ((w.alloc (.cells #[.pointer (some ⟨g, 0, none⟩)] 23)).alloc (.cells #[.slice (cutA A c st) (n - st) (c - st)] 54)) = w2 at *
  refine wpIn_wide.1 (wpIn_rangeFunc_ownG (F := Fence.wide) (n := 5) rfl (by omega) (gf := 54) (lb := #[.pointer (some ⟨w.heap.size + 1, 0, none⟩)]) rfl trivial (enters_of Try.func54 (by kernel_rfl) rfl)
    (back_stops Fence.wide 4 trivial rfl (by omega) (w.heap.size + 1) Mn w2.heap.size (n - st) (c - st) (cutA A c st) (fun x => Und.val (us.getD (st + x) default)) (fun j => ⟨_, _, _, rfl⟩) (by omega) w2 (by omega) (by omega) (Nat.le_refl _) hbs2 ?cells)
    (fun h k => Kp.trans h k) (fun W l o o' h1 h2 h3 h4 => Kp.put (Nat.le_refl _) W l o o' h1 h2 h3 h4) (Below.refl _ _) (fun _ => rfl)
    (fun pre W => Turn w W own g d.room d.made (backs us d.row (pre.map (st + ·))) d.fl fz d.off Mf Mn Df A n c us S gs w.heap.size ∧ Rises (backs us d.row (pre.map (st + ·))) ∧ (backs us d.row (pre.map (st + ·))).length ≤ 24 + 2 * pre.length)
    (fun _ _ _ => False) ?ownI (fun _ _ _ _ _ hs _ _ => hs) ?start
    (fun x => { tmps := #[.pointer (some ⟨g, 0, none⟩), .slice a L cL, .int .i64 dirs, .pointer (some ⟨w.heap.size, 0, none⟩), undef, undef, .int .i64 (st : Int), undef, Und.val (us.getD (st + x) default), undef, undef, undef, undef, undef, undef, .int .i64 dirs, .int .i64 mx, .pointer (some ⟨g, 0, none⟩), .pointer (some ⟨g, 0, none⟩), .pointer (some ⟨g, 4, none⟩), .slice A n c, .int .i64 (n : Int), .int .i64 (st : Int), .pointer (some ⟨g, 0, none⟩), .pointer (some ⟨g, 0, none⟩), .pointer (some ⟨g, 4, none⟩), .slice A n c, .int .i64 (st : Int), .slice (cutA A c st) (n - st) (c - st), .func (.func 54) #[] #[.pointer (some ⟨w.heap.size + 1, 0, none⟩)], .int .i64 ((x : Nat) : Int), Und.val (us.getD (st + x) default), undef, undef, undef, undef, undef, undef, undef, undef, undef, undef, undef, undef, undef, undef, undef, undef, undef, undef, undef, undef, undef, undef, undef, undef, undef, undef, undef, undef, undef, undef, undef, undef, undef, undef, undef, undef, undef, undef, undef, undef, undef, undef, undef, undef, undef, undef, undef, undef, undef, undef], defers := [] }) ?assign ?body ?done ?stop)
  case cells =>
    intro j hj
    have hlen := HC2.out.pend.len
    have hjn : st + j < us.length := by omega
    obtain ⟨b, e, h1, h2, h3⟩ := HC2.out.pend.cell (i := st + j) (by rw [List.length_map]; omega)
    have hA := HAlt.out b (by rw [e]; rfl)
    refine ⟨b, st, ?_, by omega, hA.2, ?_⟩
    · rw [e, cutA_some, if_neg (by omega), Nat.zero_add]
    · rw [h3, List.getElem?_map, List.getElem?_eq_getElem hjn, List.getD_eq_getElem?_getD, List.getElem?_eq_getElem hjn]; rfl
  case ownI =>
    rintro s W W' row ⟨⟨⟨Dn', hcr⟩, hbx, hkp⟩, hr2⟩ hg hr
    have hrow : ∀ k, row = some k → w.heap.size + 1 + 1 ≤ k := fun k e => by have := (hr k e).1; omega
    refine ⟨⟨⟨Dn', hcr.keptF (KeptF.grow row hg) (fun k h0 e => by have := HC.out.foot k h0; have := hrow k e; omega)⟩, ?_, hkp.grown hg (fun k e hk => by have := hrow k e; omega)⟩, hr2⟩
    have hlt : w.heap.size < W.heap.size := cell_lt hbx
    exact (World.cell?_of_block (hg.block w.heap.size hlt (fun e => by have := hrow _ e.symm; omega))).trans hbx
  case start =>
    refine ⟨⟨⟨Dn, HC2.out⟩, hbx2, KeptF.of_below HB2.out⟩, HG.out.row.rises, ?_⟩
    have := HG.out.row.few
    show d.row.length ≤ _
    omega
  case assign =>
    intro l x W K hK
    generalize Und.val (us.getD (st + x) default) = vx at *
    gi_wp2
    exact hK
  case stop =>
    rintro D c pre W _ _ h _
    exact h.elim
  case body =>
    rintro l pre x W ⟨⟨⟨Dn', hcr⟩, hbx, hkp⟩, hri, hle⟩ hlt
    have hWl : w.heap.size < W.heap.size := cell_lt hbx
    have hU : OwnE 62 2 W 0 (us.getD (st + x) default).A (us.getD (st + x) default).n (us.getD (st + x) default).c (cellsB (us.getD (st + x) default).cs) ∧ (∀ k, ownB (us.getD (st + x) default).A = some k → own k = 2) ∧ (∀ b ∈ (us.getD (st + x) default).cs, nmOk b.1 = true ∧ b.2 ≤ d.made) ∧ (us.getD (st + x) default).n ≤ 2 := by
      rcases Nat.lt_or_ge (st + x) us.length with h | h
      · have : us.getD (st + x) default = us[st + x] := by rw [List.getD_eq_getElem?_getD, List.getElem?_eq_getElem h]; rfl
        rw [this]
        exact hcr.each _ (List.getElem_mem h)
      · have : us.getD (st + x) default = default := by rw [List.getD_eq_getElem?_getD, List.getElem?_eq_none h]; rfl
        rw [this]
        exact ⟨OwnE.nil _ _ (Nat.zero_le _), (fun k e => by cases e), (fun b hb => by cases hb), by decide⟩
    have hmap : (pre ++ [x]).map (st + ·) = pre.map (st + ·) ++ [st + x] := by simp
    have HB := Lib.hid (show backs us d.row ((pre ++ [x]).map (st + ·)) = undo (backs us d.row (pre.map (st + ·))) (us.getD (st + x) default).cs by rw [hmap, backs_snoc])
    clear hmap
    generalize us.getD (st + x) default = u at *
    obtain ⟨ua, un, uc, ucs⟩ := u
    simp only [Und.val] at hU ⊢
    obtain ⟨hU1, hU2, hU3, hU4⟩ := hU
    have hul : ucs.length = un := by have := hU1.len; rw [cellsB_len] at this; omega
    have HU1 := Lib.hid hU1
    have HU2 := Lib.hid hU2
    have HU3 := Lib.hid hU3
    have HUl := Lib.hid hul
    have HCr := Lib.hid hcr
    have HKp2 := Lib.hid hkp
    have HRi := Lib.hid hri
    have HLe := Lib.hid hle
    have HLt := Lib.hid hlt
    have hn5 : pre.length ≤ 2000000 := by omega
    have HMn := Lib.hid (And.intro HC.out.tMn hMn)
    clear hU1 hU2 hU3 hul hcr hkp hri hle hlt
    generalize hR : backs us d.row (pre.map (st + ·)) = R at *
    have hd1' : 1 ≤ 5 - 1 - 1 := by omega
    gi_wp2
    gi_loopw [34] (fun i wr => ∃ (k : Nat) (D2 : DU), k ≤ un ∧ i = .int .i64 (k : Int) ∧ Hid (Core wr own g d.room d.made (undo R (ucs.take k)) d.fl fz d.off Mf Mn Df D2 A n c us S gs) ∧ Hid (KeptF (One Mn) W wr)) (fun i _ => un - (RowKit.intOf i).toNat)
    case atStart => exact ⟨0, Dn', by omega, rfl, HCr, Lib.hid (KeptF.refl _ _)⟩
    case round =>
      obtain ⟨k, D2, hk, rfl, hC, hKK⟩ := hrel
      rcases Nat.lt_or_ge k un with hku | hku
      · have hin : (k : Int) < (un : Int) := by omega
        have hkl : k < ucs.length := by rw [HUl.out]; exact hku
        obtain ⟨qb, rfl, _, hql, q0⟩ := HU1.out.cell (i := k * 2) (by rw [cellsB_len]; omega)
        obtain ⟨qb', e', _, _, q1⟩ := HU1.out.cell (i := k * 2 + 1) (by rw [cellsB_len]; omega)
        injection e' with e'
        injection e' with e'
        subst e'
        have hqo := HU2.out qb rfl
        have hqM : ¬ One Mn qb := fun e => by rw [show qb = Mn from e, HMn.out.1] at hqo; omega
        obtain ⟨z0, z1⟩ := cellsB_at ucs k hkl
        rw [z0] at q0
        rw [z1] at q1
        have q0 := (World.cell?_of_block (hKK.out.block qb hql hqM)).trans q0
        have q1 := (World.cell?_of_block (hKK.out.block qb hql hqM)).trans q1
        have hbxr := (World.cell?_of_block (hKK.out.block w.heap.size hWl (fun e => by have e1 : w.heap.size = Mn := e; have := HMn.out.2; omega))).trans hbx
        have hmem : ucs.getD k ([], 0) ∈ ucs := by rw [List.getD_eq_getElem?_getD, List.getElem?_eq_getElem hkl]; exact List.getElem_mem hkl
        obtain ⟨o1, o2⟩ := HU3.out _ hmem
        have HSt := Lib.hid (undo_take (r := R) hkl)
        generalize hX : ucs.getD k ([], 0) = X at *
        obtain ⟨s, id⟩ := X
        simp only at o1 o2 q0 q1
        have HSet := Lib.hid (set_any (wr.alloc (.cells #[.string (T s), .int .i64 (id : Int)] 62)) own g _ _ (undo R (ucs.take k)) _ _ _ _ _ _ _ _ _ _ _ _ _ (hC.out.alloc _) (undo_rises HRi.out _) (by
          have h1 := undo_len HRi.out (ucs.take k)
          have h2 := HLe.out
          rw [List.length_take] at h1
          omega) (s, id) o1 o2)
        have hbxa : (wr.alloc (.cells #[.string (T s), .int .i64 (id : Int)] 62)).cell? ⟨w.heap.size, 0, none⟩ = some (.pointer (some ⟨g, 0, none⟩)) := by
          have h1 : w.heap.size < wr.heap.size := Nat.lt_of_lt_of_le hWl hKK.out.size
          exact (World.cell?_of_block (Below.heap_alloc _ _ _ h1)).trans hbxr
        have ht0 := (Blk.new wr [.string (T s), .int .i64 (id : Int)] 62).cell (i := 0) rfl
        have ht1 := (Blk.new wr [.string (T s), .int .i64 (id : Int)] 62).cell (i := 1) rfl
        simp only at HSet
        clear z0 z1 hX hmem o1 o2
        generalize T s = Y at *
        gi_wp2_with (refine ⟨trivial, ?_⟩; gi_at_call 40; refine (CallsIn.inRound l (callsIn_wide.2 HSet.out)).mono ?_; rintro e w4 ⟨rfl, ⟨D4, hC4⟩, hk4⟩)
        go_roundw
        case rel =>
          refine ⟨k + 1, D4, by omega, by go_num, Lib.hid ?_, Lib.hid ((hKK.out.alloc _).trans hk4 fun _ _ e => e)⟩
          rw [HSt.out]; exact hC4
        case measure => simp [RowKit.intOf]; omega
      · obtain rfl : k = un := by omega
        have hin : ¬ ((k : Int) < (k : Int)) := by omega
        have htk : ucs.take k = ucs := by rw [List.take_of_length_le]; rw [HUl.out]; exact Nat.le_refl _
        have hC2 := hC.out
        rw [htk] at hC2
        have HC2 := Lib.hid hC2
        clear hC2 htk
        gi_wp2
        have hk1 : ∀ j, One Mn j → j = Mn := fun j e => e
        refine ⟨⟨hKK.out.size, fun j o hB hj ho => (hKK.out.block j (Array.getElem?_eq_some_iff.1 hj).1 (fun e => by have := hk1 j e; omega)).trans hj⟩, hKK.out.mono fun j e => .inl e, ⟨⟨D2, by rw [HB.out]; exact HC2.out⟩, ?_, HKp2.out.trans hKK.out fun j _ e => by rw [hk1 j e]; exact HC.out.mine_n⟩, by rw [HB.out]; exact undo_rises HRi.out _, ?_⟩
        · exact (World.cell?_of_block (hKK.out.block w.heap.size hWl (fun e => by have := hk1 _ e; omega))).trans hbx
        · rw [HB.out]
          have h1 := undo_len HRi.out ucs
          have h2 := HLe.out
          have h3 := HUl.out
          rw [List.length_append, List.length_singleton]
          show (undo R ucs).length ≤ _
          omega
  case done =>
    rintro D xs W hD rfl ⟨⟨⟨Dn', hcr⟩, hbx, hkp⟩, hri, hle⟩ hK
    have hgb : GoodRow d.made (d.back dirs) := good_back HG.out dirs
    have hrow : backs us d.row ((down (n - st) (n - st)).map (st + ·)) = d.back dirs := by
      rw [backs_down hn0 HL.out HCh.out hstn (Nat.le_refl _), show n - (n - st) = st by omega]
      have h1 := HSt.out
      have h2 := HL.out
      unfold Dir.back
      by_cases h3 : (max dirs 0).toNat < d.past.length
      · rw [if_pos h3, show st = (max dirs 0).toNat by omega, List.getD_eq_getElem?_getD, List.getElem?_append_left h3, List.getD_eq_getElem?_getD]
      · rw [if_neg h3, show st = d.past.length by omega]; simp
    rw [hrow] at hcr
    have hcv : ∀ p ∈ d.back dirs, S p.2 = true := fun p hp => by
      refine HCov.out (d.back dirs) ?_ p hp
      unfold Dir.back
      split
      · rename_i h1
        rw [List.getD_eq_getElem?_getD, List.getElem?_eq_getElem h1]
        exact List.mem_append_left _ (List.getElem_mem h1)
      · simp
    have HSe := Lib.hid (settle_any W own g _ _ _ _ _ _ _ _ _ _ _ _ _ _ _ _ hcr hgb.rises (fun p hp => (nmOk_all (hgb.names p hp)).1) hgb.few hcv)
    have HGb := Lib.hid hgb
    have HKp := Lib.hid hkp
    have HBx := Lib.hid hbx
    have HKK := Lib.hid hK
    clear hcr hri hle hrow hcv hgb hkp hK
    go_wp2_with (first
      | (go_at_call 38; (with_reducible refine HSe.out.mono ?_); rintro e W3 ⟨rfl, own3, Mf3, Df3, hc3, hk3, ho3⟩
         have hbx3 := (World.cell?_of_block (hk3.block w.heap.size (cell_lt HBx.out) (fun e => by have := own_fresh HC.out.foot (Nat.le_refl w.heap.size); unfold Mine at e; omega))).trans HBx.out
         have c23 := hc3.blk.cell (i := 2) rfl
         have HC3 := Lib.hid hc3
         have HK3 := Lib.hid hk3
         have HO3 := Lib.hid ho3
         have HSo := Lib.hid (It.sorted_i Mf3 _ Df3 _ W3 hc3.mf (by have := hc3.szf; have := hc3.mmax; unfold maxLen; omega) (by have := hc3.szf; have := hc3.mmax; omega))
         clear hc3 hk3 ho3)
      | (go_at_call 42; (with_reducible refine (It.keys_i _ _).mono ?_); rintro e w1 ⟨rfl, rfl⟩)
      | (go_at_call 41; (with_reducible refine HSo.out.mono ?_); rintro e W5 ⟨v, ss, rfl, hp, hrow, hnil, hb5⟩
         have hids := sorted_ids (made := d.made) HC3.out.mf HC3.out.vf HGb.out hp
         rw [hids] at hrow
         have hssl : ss.length = (idsOf (d.back dirs) d.made).length := by
           have := congrArg List.length hids
           rwa [List.length_mergeSort, List.length_map] at this
         rw [hssl] at hrow
         obtain ⟨A5, c5, rfl⟩ : ∃ A5 c5, v = .slice A5 (idsOf (d.back dirs) d.made).length c5 := by
           rcases hrow.2 with ⟨rfl, h0⟩ | ⟨q, cap, cur, rfl, _⟩
           · exact ⟨none, 0, by rw [h0]⟩
           · exact ⟨_, _, rfl⟩
         have HOw := Lib.hid hrow
         clear hrow hnil hids hp))
    have HIm := Lib.hid (idsOf_mem HGb.out)
    have HIr := Lib.hid (idsOf_rise (d.back dirs) d.made)
    have hIl : (idsOf (d.back dirs) d.made).length ≤ 2000000 := by
      have h1 := HC.out.mmax
      have h2 : (idsOf (d.back dirs) d.made).length ≤ d.made := by
        unfold idsOf
        refine Nat.le_trans (List.length_filter_le _ _) ?_
        simp
      omega
    have HTo := Lib.hid (show (crashTo (d.back dirs) d.fl L K d.made).2 = (crashL d.fl L K (idsOf (d.back dirs) d.made)).2 by rw [crashTo_eq]; rfl)
    have hb35 : Below W3.heap.size W3 W5 := ((Below.refl _ _).alloc (Nat.le_refl _) _).trans (hb5.mono (by simp))
    have HC5 := Lib.hid (HC3.out.below hb35)
    have hWD := (Array.getElem?_eq_some_iff.1 HKK.out).1
    have kW5 : KeptF (Mine own) W W5 := HK3.out.trans (KeptF.of_below hb35) fun _ _ e => e
    have hW35 := hb35.size
    have hWW3 := HK3.out.size
    have hwW := HKp.out.size
    have o30 : ∀ k, w.heap.size ≤ k → k < W.heap.size → own3 k = 0 := fun k h1 h2 => by rw [HO3.out k h2]; exact own_fresh HC.out.foot h1
    have hbx5 := hb35.cell (p := ⟨w.heap.size, 0, none⟩) (cell_lt hbx3) |>.trans hbx3
    have hE5 : OwnE 3 1 W5 W3.heap.size A5 (idsOf (d.back dirs) d.made).length c5 ((idsOf (d.back dirs) d.made).map fun i => .int .i64 ((i : Nat) : Int)) := by
      have h1 := HOw.out
      rw [List.map_map] at h1
      refine ⟨by omega, h1.1, ?_⟩
      rcases h1.2 with h2 | ⟨q, cap, cur, h2, h3, h4⟩
      · exact .inl h2
      · exact .inr ⟨q, cap, cur, h2, by simp at h3; omega, h4⟩
    have HE5 := Lib.hid hE5
    have HB5 := Lib.hid (bools_keptF HKb.out (HKp.out.trans kW5 fun _ _ e => e) (fun b off e _ _ => hoff b off e))
    have HBk := Lib.hid (fun b off (e : a = some ⟨b, off, none⟩) (h0 : 0 < L) => show ¬ Mine own3 b by
      have h1 := bools_lt HKb.out e h0
      have h2 := hoff b off e
      unfold Mine at h2 ⊢
      rw [HO3.out b (by omega)]; exact h2)
    have HKW5 := Lib.hid kW5
    have HO30 := Lib.hid o30
    have HBx5 := Lib.hid hbx5
    have HB35 := Lib.hid hb35
    clear hE5 kW5 o30 hbx5 hb5 hb35 HOw hssl HSe HSo hbx3 c23
    generalize hIds : idsOf (d.back dirs) d.made = ids at *
    generalize hnI : ids.length = nI at *
    go_loopw [1, 51] (fun kv i wr => ∃ (k Lr q c' : Nat) (a' : Option Addr) (ok : Nat → Nat), k ≤ nI ∧ i = .int .i64 (k : Int) ∧ kv = .slice a' Lr c' ∧ Lr = L - min q L ∧ Hid (q = (crashL d.fl L K (ids.take k)).1) ∧ Lr ≤ c' ∧ c' ≤ cL ∧ Hid (Lies a a' (min q L) Lr) ∧
        Hid (Core wr ok g d.room d.made (d.back dirs) (crashL d.fl L K (ids.take k)).2 fz d.off Mf3 Mn Df3 Dn' none 0 0 [] (fun i => ((d.back dirs).map (·.2)).contains i) gs) ∧ Hid (KeptF (Mine own3) W5 wr) ∧ Hid (∀ j, j < W5.heap.size → ok j = own3 j))
      (fun _ i _ => nI - (RowKit.intOf i).toNat)
    case atStart => exact ⟨0, L, 0, cL, a, own3, by omega, rfl, rfl, by omega, Lib.hid rfl, hL, Nat.le_refl _, Lib.hid (fun b off e _ => by simpa using e), HC5, Lib.hid (KeptF.refl _ _), Lib.hid fun _ _ => rfl⟩
    case round =>
      obtain ⟨k, Lr, q, c', a', ok, hk, rfl, rfl, hLr, hq, hc1, hc2, hLi, hCk, hKk, hOk⟩ := hrel
      have hbxr : wr.cell? ⟨w.heap.size, 0, none⟩ = some (.pointer (some ⟨g, 0, none⟩)) := (World.cell?_of_block (hKk.out.block w.heap.size (cell_lt HBx5.out) (fun e => by have := HO30.out w.heap.size (Nat.le_refl _) (cell_lt HBx.out); unfold Mine at e; omega))).trans HBx5.out
      rcases Nat.lt_or_ge k nI with hkn | hkn
      · have hin : (k : Int) < (nI : Int) := by omega
        have hkl : k < ids.length := by omega
        obtain ⟨i, hi⟩ : ∃ i, i = ids.getD k 0 := ⟨_, rfl⟩
        have higet : ids[k]? = some i := by rw [hi, List.getD_eq_getElem?_getD, List.getElem?_eq_getElem hkl]; rfl
        have himem : i ∈ ids := List.mem_of_getElem? higet
        obtain ⟨qb, rfl, hq3, hql, q0⟩ := HE5.out.cell (i := k) (by rw [List.length_map]; exact hkl)
        rw [List.getElem?_map, higet] at q0
        have q0 := (World.cell?_of_block (hKk.out.block qb hql (fun e => by have := own_fresh HC3.out.foot hq3; unfold Mine at e; omega))).trans q0
        simp only [Option.map_some] at q0
        have hSi := (HIm.out i).1 (by first | exact himem | (rw [hIds]; exact himem))
        have hfl : (crashL d.fl L K (ids.take k)).2 i = d.fl i := crashL_other _ _ _ _ _ fun h => by
          obtain ⟨j, hj, e⟩ := List.getElem_of_mem h
          rw [List.length_take] at hj
          have hjk : j < k := by omega
          have h1 := List.pairwise_iff_getElem.1 (show ids.Pairwise (· < ·) by first | exact HIr.out | (rw [← hIds]; exact HIr.out)) j k (by omega) hkl hjk
          rw [List.getElem_take] at e
          have h2 : ids[k] = i := by rw [List.getElem?_eq_getElem hkl] at higet; injection higet
          omega
        have hFi := (hCk.out.file i hSi)
        rw [hfl] at hFi
        have hi2 := hFi.1.2
        have hmm := hCk.out.mmax
        have r2 := hCk.out.blk.cell (i := 2) rfl
        have hlk := look_file hCk.out.mf hCk.out.vf (i := i) hSi (by omega)
        have HDi := Lib.hid (Sfd.dirty_any wr _ _ _ _ hFi.2)
        have hdl : (dirty (d.fl i).now (d.fl i).safe).length ≤ 64 := dirty_few (by have := hFi.2.len; omega)
        have HFi := Lib.hid hFi.2
        have HSn := Lib.hid (show crashL d.fl L K (ids.take (k + 1)) = cstep d.fl L K (crashL d.fl L K (ids.take k)) i by
          rw [take_snoc 0 hkl, crashL_snoc, ← hi])
        obtain ⟨dl, hdle⟩ : ∃ dl, dl = (dirty (d.fl i).now (d.fl i).safe).length := ⟨_, rfl⟩
        rw [← hdle] at hdl
        have HDl := Lib.hid hdle
        obtain ⟨m, hm⟩ : ∃ m, m = min dl Lr := ⟨_, rfl⟩
        have hmi : (if (Lr : Int) < (dl : Int) then (Lr : Int) else (dl : Int)) = (m : Int) := by split <;> omega
        have hmi2 : min (dl : Int) (Lr : Int) = (m : Int) := by omega
        have hm1 : m ≤ Lr := by omega
        have hck := cutKh a' Lr c' m (by omega)
        have hcl := cutKl a' Lr c' m hm1
        have HM := Lib.hid hm
        have HLr := Lib.hid hLr
        clear hFi hi hkl higet himem hfl hm hLr hdle
        go_wp2_with (first
          | (go_at_call 43; (with_reducible refine HDi.out.mono ?_); rintro e w4 ⟨A3, c3, rfl, _, hb4⟩; rw [← HDl.out]
             have hbx4 := (hb4.cell (p := ⟨w.heap.size, 0, none⟩) (cell_lt hbxr)).trans hbxr
             have HB4 := Lib.hid hb4
             have HCr := Lib.hid (Sfe.crash_any w4 _ _ _ _ a' m c' (fun j => K (min q L + j)) (HFi.out.below hb4) (fun j hj => (Lies.bools (by rw [← HLr.out]; exact hLi.out) (((bools_keptF HB5.out hKk.out (fun b off e h0 _ => HBk.out b off e h0))).below hb4)) j (by have := HLr.out; omega)) (by unfold maxLen at hL2 ⊢; omega))
             clear hb4)
          | (go_at_call 44; (with_reducible refine HCr.out.mono ?_); rintro e w5 ⟨rfl, hF5, hk5⟩; have HF5 := Lib.hid hF5; have HK5 := Lib.hid hk5; clear hF5 hk5))
        case roundEnd =>
          have hq4 := hq.out
          have hy := kept_part (L := L) (q := q) (K := K) (now := (d.fl i).now) (safe := (d.fl i).safe) (m := m) (by rw [← HDl.out, HM.out, HLr.out])
          have hF := HF5.out
          rw [hy] at hF
          obtain ⟨ok2, hC2, hkM, hoM⟩ := Core.fileTurn (x := ⟨_, _⟩) (hCk.out.below HB4.out) hSi hF HK5.out
          have hs4 := HB4.out.size
          have hsk := hKk.out.size
          have hst := HSn.out
          refine ⟨⟨k + 1, Lr - m, q + dl, c' - m, cutA a' c' m, ok2, by omega, by go_num, rfl, by have := HM.out; have := HLr.out; omega, Lib.hid ?_, by omega, by omega, Lib.hid ?_, Lib.hid ?_, Lib.hid ?_, Lib.hid ?_⟩, by simp [RowKit.intOf]; omega⟩
          · rw [hst]
            unfold cstep
            simp only
            rw [← hq4, ← HDl.out]
          · have h1 := hLi.out.cut hc1 hm1
            have e : min q L + m = min (q + dl) L := by have := HM.out; have := HLr.out; omega
            rw [e] at h1
            exact h1
          · rw [hst]
            unfold cstep
            simp only
            rw [← hq4]
            exact hC2
          · exact (keptF_mine (own1 := ok) hKk.out ((KeptF.of_below HB4.out).trans hkM fun _ _ e => e) hOk.out)
          · intro j hj
            rw [hoM j (by omega)]; exact hOk.out j hj
      · obtain rfl : k = nI := by omega
        have hin : ¬ ((k : Int) < (k : Int)) := by omega
        have htk : ids.take k = ids := by rw [List.take_of_length_le]; omega
        have hC := hCk.out
        rw [htk] at hC
        have r5 := hC.blk.cell (i := 5) rfl
        have r6 := hC.blk.cell (i := 6) rfl
        have s5 := hC.blk.frozen 5
        have s6 := hC.blk.frozen 6
        have HCe := Lib.hid hC
        clear hC htk
        go_wp2_with fail
        go_region
        all_goals
          go_wp2
          have C1 := HCe.out.offBlk 5 (.int .i64 (-1)) (made' := d.made) (off' := d.off) (fz' := -1) rfl HCe.out.pend HCe.out.each HCe.out.tA ⟨by omega, by omega⟩ ⟨Nat.le_refl _, HCe.out.mmax⟩ HCe.out.pmax rfl
          have C2 := (C1.offBlk 6 (.bool false) (made' := d.made) (off' := false) (fz' := -1) rfl C1.pend C1.each C1.tA ⟨by omega, by omega⟩ ⟨Nat.le_refl _, C1.mmax⟩ C1.pmax rfl).drew
          have k1 := HCe.out.set_ 5 (.int .i64 (-1))
          have k2 := (k1.trans (C1.set_ 6 (.bool false)) fun _ _ e => e).drew
          have hsk := hKk.out.size
          have hD0 : own D = 0 := own_fresh HC.out.foot (by omega)
          have hDl : D < W.heap.size := hWD
          have hok : ∀ j, j < W.heap.size → ok j = own j := fun j hj => (hOk.out j (by omega)).trans (HO3.out j hj)
          have kW : KeptF (Mine own) W wr := keptF_mine (own1 := own3) HKW5.out hKk.out HO3.out
          have kE := keptF_mine (own1 := ok) kW k2 hok
          have hKD : (((wr.setCell ⟨g, 5, none⟩ (.int .i64 (-1))).setCell ⟨g, 6, none⟩ (.bool false)).drew).heap[D]? = some (.deferred (some [])) := (kE.block D hDl (fun e => by unfold Mine at e; omega)).trans HKK.out
          refine ⟨by simp, .inl ⟨_, _, rfl, run_takeDeferred hKD, ?_⟩⟩
          refine ⟨_, results_none rfl _ _ _, rfl, ok, ?_, ?_, fun k hk => hok k (by omega)⟩
          · have kD : KeptF (fun k => k = D) (((wr.setCell ⟨g, 5, none⟩ (.int .i64 (-1))).setCell ⟨g, 6, none⟩ (.bool false)).drew) ((((wr.setCell ⟨g, 5, none⟩ (.int .i64 (-1))).setCell ⟨g, 6, none⟩ (.bool false)).drew).putObj D (.deferred none)) :=
              (KeptF.grow _ (grownBy_putObj' _ D _)).mono fun k e => (Option.some.inj e).symm
            refine DirP.keptF (G := fun k => k = D) ?_ kD (fun k h0 e => h0 (by rw [e, hok D hDl]; exact hD0))
            refine ⟨-1, Mf3, Mn, Df3, Dn', none, 0, 0, [], (fun i => ((d.back dirs).map (·.2)).contains i), gs, ?_, good_crash HG.out L K dirs, rfl, rfl, (fun j hj => absurd hj (by simp)), ?_⟩
            · have e : (d.crash L K dirs).fl = (crashL d.fl L K ids).2 := HTo.out
              show Core _ ok g d.room d.made (d.back dirs) (d.crash L K dirs).fl (-1) false Mf3 Mn Df3 Dn' none 0 0 [] _ gs
              rw [e]
              exact C2
            · intro r hr p hp
              have hr : r ∈ ([] : List RowD) ++ [d.back dirs] := hr
              simp only [List.nil_append, List.mem_cons, List.not_mem_nil, or_false] at hr
              subst hr
              simp only [List.contains_eq_mem, decide_eq_true_eq]
              exact List.mem_map.2 ⟨p, hp, rfl⟩
          · exact (HKp.out.trans kE fun _ _ e => e).trans (G := fun k => k = D) ((KeptF.grow _ (grownBy_putObj' _ D _)).mono fun k e => (Option.some.inj e).symm) fun k hk e => by omega
end Go.Proofs.Ytpgkimohekdmmaa.Dx
