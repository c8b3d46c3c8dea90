/-
  Texts beneath the proof, one behind the other.
-/
import Derived.Deep.CutBlock
import Derived.Deep.RegionLaw
import Derived.Test.YtpfkhcgeblihcaaQa7
import Derived.Test.YtpfkhcgeblihcaaQa2
import Derived.Test.YtpfkhcgeblihcaaQa3

/-
  The row that pairs ask for: the program's way.
-/
namespace Go.Proofs.Ytpfkhcgeblihcaa.Qk
open Go.ChangeShapes Go.WideShapes Go.ChangeAt Go.RowKit
open Bytes8 Blk8 Own8 OwnM OwnE OwnA Dc Fa Fb Fo Pr8 Pv8 Qa Qb Qd Qj
open Qi (compact_any)
open Qg (sort_any)
set_option linter.unusedVariables false
set_option maxRecDepth 100000
set_option linter.unusedSimpArgs false

theorem grp_len : ∀ (l : List PR) (r : RW), (l.foldl grpS r).length ≤ r.length + l.length
  | [], r => Nat.le_refl _
  | p :: l, r => by
    have h := grp_len l (grpS r p)
    have h1 : (grpS r p).length ≤ r.length + 1 := by
      unfold grpS
      split
      · split
        · simp <;> omega
        · simp
      · simp
    rw [List.foldl_cons, List.length_cons]
    omega
theorem grp_ok : ∀ (l : List PR) (r : RW) (N : Nat), (∀ a ∈ r, AllB a.1 ∧ a.2.length ≤ N) → (∀ p ∈ l, AllB p.1) → ∀ a ∈ l.foldl grpS r, AllB a.1 ∧ a.2.length ≤ N + l.length
  | [], r, N, h, _, a, ha => h a ha
  | p :: l, r, N, h, hl, a, ha => by
    have h1 : ∀ b ∈ grpS r p, AllB b.1 ∧ b.2.length ≤ N + 1 := by
      rcases List.eq_nil_or_concat r with rfl | ⟨m, x, rfl⟩
      · intro b hb
        obtain rfl : b = (p.1, [p.2]) := by simpa [grpS] using hb
        exact ⟨hl p (by simp), by simp⟩
      · rw [List.concat_eq_append] at *
        intro b hb
        unfold grpS at hb
        rw [show (m ++ [x]).getLast? = some x by rw [List.getLast?_append]; rfl] at hb
        dsimp only at hb
        split at hb
        · rw [List.dropLast_concat] at hb
          rcases List.mem_append.1 hb with h2 | h2
          · have := h b (by simp [h2]); exact ⟨this.1, by omega⟩
          · obtain rfl : b = (x.1, x.2 ++ [p.2]) := by simpa using h2
            have := h x (by simp)
            exact ⟨this.1, by simp; exact this.2⟩
        · rcases List.mem_append.1 hb with h2 | h2
          · have := h b h2; exact ⟨this.1, by omega⟩
          · obtain rfl : b = (p.1, [p.2]) := by simpa using h2
            exact ⟨hl p (by simp), by simp⟩
    have := grp_ok l (grpS r p) (N + 1) h1 (fun q hq => hl q (by simp [hq])) a ha
    exact ⟨this.1, by have := this.2; simp; omega⟩
theorem grp_take {l : List PR} {k : Nat} (hk : k < l.length) : grp (l.take (k + 1)) = grpS (grp (l.take k)) (l.getD k nil2) := by
  rw [take_step hk]; unfold grp; rw [List.foldl_append]; rfl
theorem grpS_new {r : RW} {p : PR} (h : ∀ r0 a, r = r0 ++ [a] → a.1 ≠ p.1) : grpS r p = r ++ [(p.1, [] ++ [p.2])] := by
  rcases List.eq_nil_or_concat r with rfl | ⟨m, a, rfl⟩
  · rfl
  · rw [List.concat_eq_append] at *
    unfold grpS
    rw [show (m ++ [a]).getLast? = some a by rw [List.getLast?_append]; rfl]
    dsimp only
    rw [if_neg (h m a rfl), List.nil_append]
theorem grpS_old {r0 : RW} {a : AL} {p : PR} (h : a.1 = p.1) : grpS (r0 ++ [a]) p = r0 ++ [(a.1, a.2 ++ [p.2])] := by
  unfold grpS
  rw [show (r0 ++ [a]).getLast? = some a by rw [List.getLast?_append]; rfl]
  dsimp only
  rw [if_pos h, List.dropLast_concat]
/-- A row under way that has an alt. -/
def Und1 (w : World) (B0 B1 : Nat) (g n c : Nat) (r0 : RW) (a : AL) (V0 : List VC) (Al : Option Addr) (cl : Nat) : Prop :=
  n = r0.length + 1 ∧ V0.length = r0.length ∧ B0 ≤ B1 ∧ OwnE 38 2 w B0 (some ⟨g, 0, none⟩) n c (cellsA (r0 ++ [a]) (V0 ++ [(Al, cl)])) ∧ g < B1 ∧
    (∀ i, i < r0.length → TxF (fun b => B0 ≤ b ∧ b < B1 ∧ b ≠ g) w (V0.getD i (none, 0)).1 (r0.getD i nilA).2) ∧ OwnT w B1 Al a.2.length cl a.2
theorem Und.one {w : World} {B0 B1 : Nat} {A : Option Addr} {n c : Nat} {r0 : RW} {a : AL} (h : Und w B0 B1 A n c (r0 ++ [a])) : ∃ g V0 Al cl, A = some ⟨g, 0, none⟩ ∧ Und1 w B0 B1 g n c r0 a V0 Al cl := by
  rcases h with ⟨h, _⟩ | ⟨g, r1, a1, V0, Al, cl, hr, hA, hn, hV, hB, hO, hg, hT, hL⟩
  · exact absurd h (by simp)
  · obtain ⟨e1, e2⟩ := List.append_inj' hr rfl
    obtain rfl := e1
    obtain rfl : a = a1 := by simpa using e2
    subst hA
    exact ⟨g, V0, Al, cl, rfl, by simpa using hn, hV, hB, hO, hg, hT, hL⟩
theorem Und1.kept {w w' : World} {B0 B1 g n c : Nat} {r0 : RW} {a : AL} {V0 : List VC} {Al : Option Addr} {cl : Nat} (h : Und1 w B0 B1 g n c r0 a V0 Al cl) (hb : Below w.heap.size w w') : Und1 w' B0 B1 g n c r0 a V0 Al cl := by
  obtain ⟨h1, h2, h3, h4, h5, h6, h7⟩ := h
  exact ⟨h1, h2, h3, h4.kept hb (Nat.le_refl _), h5, fun i hi => (h6 i hi).kept hb.size (fun b _ hlt => hb.block b hlt) (fun _ hf _ => hf), h7.1, h7.2.kept hb (Nat.le_refl _)⟩
theorem Und.kept {w w' : World} {B0 B1 : Nat} {A : Option Addr} {n c : Nat} {r : RW} (h : Und w B0 B1 A n c r) (hb : Below w.heap.size w w') : Und w' B0 B1 A n c r := by
  rcases h with ⟨h1, h2, h3, h4, h5⟩ | ⟨g, r0, a, V0, Al, cl, e1, e2, e3, h1, h2, h3, h4, h5, h6⟩
  · exact .inl ⟨h1, h2, h3, h4, Nat.le_trans h5 hb.size⟩
  · exact .inr ⟨g, r0, a, V0, Al, cl, e1, e2, e3, h1, h2, h3.kept hb (Nat.le_refl _), h4, fun i hi => (h5 i hi).kept hb.size (fun b _ hlt => hb.block b hlt) (fun _ hf _ => hf), h6.1, h6.2.kept hb (Nat.le_refl _)⟩
/-- The cells of its last alt. -/
theorem Und1.cells {w : World} {B0 B1 g n c : Nat} {r0 : RW} {a : AL} {V0 : List VC} {Al : Option Addr} {cl : Nat} (h : Und1 w B0 B1 g n c r0 a V0 Al cl) :
    w.cell? ⟨g, r0.length * 2, none⟩ = some (.string (T a.1)) ∧ w.cell? ⟨g, r0.length * 2 + 1, none⟩ = some (.slice Al a.2.length cl) ∧ w.frozen? ⟨g, r0.length * 2 + 1, none⟩ = false ∧ g < w.heap.size := by
  obtain ⟨hn, hV, _, hO, _, _, _⟩ := h
  have hVs : (V0 ++ [(Al, cl)]).length = (r0 ++ [a]).length := by simp [hV]
  obtain ⟨c0, c1⟩ := cellsA_at (r0 ++ [a]) (V0 ++ [(Al, cl)]) r0.length hVs (by simp)
  have hl := cellsA_len (r0 ++ [a]) (V0 ++ [(Al, cl)]) hVs
  have hl2 : (r0 ++ [a]).length = r0.length + 1 := by simp
  obtain ⟨g1, e1, _, _, k1⟩ := hO.cell (i := r0.length * 2) (by omega)
  obtain ⟨g2, e2, _, _, k2⟩ := hO.cell (i := r0.length * 2 + 1) (by omega)
  injection e1 with e1; injection e1 with e1; subst e1
  injection e2 with e2; injection e2 with e2; subst e2
  have q1 : (r0 ++ [a]).getD r0.length nilA = a := by simp
  have q2 : (V0 ++ [(Al, cl)]).getD r0.length (none, 0) = (Al, cl) := by rw [← hV]; simp
  rw [q1] at c0 c1
  rw [q2] at c1
  refine ⟨k1.trans c0, k2.trans c1, ?_, (OwnE.ltB hO g rfl).2⟩
  rcases hO.2.2 with ⟨he, _⟩ | ⟨k, cap, cur, he, _, hg, _⟩
  · cases he
  · injection he with e1 _ _
    injection e1 with e1
    injection e1 with e1
    subst e1
    simp [World.frozen?, hg]
theorem Und1.after {w w' : World} {B0 B1 g n c : Nat} {r0 : RW} {a : AL} {V0 : List VC} {Al : Option Addr} {cl : Nat} (h : Und1 w B0 B1 g n c r0 a V0 Al cl) (hb : Below B1 w w') :
    w'.cell? ⟨g, r0.length * 2 + 1, none⟩ = some (.slice Al a.2.length cl) ∧ w'.frozen? ⟨g, r0.length * 2 + 1, none⟩ = false := by
  obtain ⟨_, k1, k2, _⟩ := h.cells
  have e := hb.block g h.2.2.2.2.1
  refine ⟨(World.cell?_of_block (a := ⟨g, r0.length * 2 + 1, none⟩) e).trans k1, ?_⟩
  rw [← k2]
  simp only [World.frozen?]
  rw [show w'.heap[(⟨g, r0.length * 2 + 1, none⟩ : Addr).block]? = w.heap[(⟨g, r0.length * 2 + 1, none⟩ : Addr).block]? from e]
set_option maxHeartbeats 8000000 in
theorem alts_any (g n c B0 : Nat) (l : List PR) (w : World) (hO : OwnP w B0 (some ⟨g, 0, none⟩) n c l) (h1 : 1 ≤ n) (hn : n ≤ 1000) :
    Calls Try.prog 17 #[.slice (some ⟨g, 0, none⟩) n c] w fun e w' => ∃ A' c', e = .returned (.slice A' (canon l).length c') ∧ AlF (fun b => w.heap.size ≤ b ∧ b < w'.heap.size) w' A' (canon l) ∧ Below B0 w w' := by
  have HS := Lib.hid (sort_any g n c B0 l w hO (by omega))
  have HC := Lib.hid fun w (h : OwnP w B0 (some ⟨g, 0, none⟩) n c (sortN l)) => compact_any g n c B0 (sortN l) w h (by omega) h1
  have hdl := Qh.dd_len (sortN l) n
  rw [List.take_of_length_le (by rw [sortN_len, hO.2.1]; exact Nat.le_refl _)] at hdl
  have HG := Lib.hid (grp_canon l)
  have hb0 := hO.2.2.1
  have HA := Lib.hid (Qh.dd_all (l := sortN l) fun p hp => hO.1 p ((sortN_mem l p).1 hp))
  unfold Qi.Cmpd at HC
  obtain ⟨L, hL⟩ : ∃ L, dd (sortN l) = L := ⟨_, rfl⟩
  rw [hL] at HC hdl HG HA
  obtain ⟨m, hm⟩ : ∃ m, L.length = m := ⟨_, rfl⟩
  have HM := Lib.hid hm
  rw [hm] at HC hdl
  clear hO hL hm
  go_enter Try.func17, Try.ntmps17
  go_upto_region 3 with (go_at_call 30; (with_reducible refine HS.out.mono ?_); rintro e w1 ⟨rfl, ho1, hb1⟩; have O1 := Lib.hid ho1; have B1' := Lib.hid hb1; clear ho1 hb1)
  go_wp2_with (go_at_call 34; (with_reducible refine (HC.out _ O1.out).mono ?_); rintro e w2 ⟨rfl, hp2, hb2⟩; have P2 := Lib.hid hp2; have B2 := Lib.hid (B1'.out.trans hb2); clear hp2 hb2)
  have hw2 := B2.out.size
  go_loopw [3, 12] (fun z i wr => ∃ (k n1 c1 B1 : Nat) (A1 : Option Addr), k ≤ m ∧ n1 ≤ k ∧ i = .int .i64 (k : Int) ∧ z = .slice A1 n1 c1 ∧ B1 ≤ wr.heap.size ∧ Hid (Und wr w2.heap.size B1 A1 n1 c1 (grp (L.take k))) ∧ Hid (Below w2.heap.size w2 wr)) (fun _ i _ => m - (intOf i).toNat)
  case atStart => exact ⟨0, 0, 0, 0, none, by omega, by omega, rfl, rfl, by omega, Lib.hid (.inl ⟨rfl, rfl, rfl, rfl, Nat.le_refl _⟩), Lib.hid (Below.refl _ _)⟩
  case round =>
    obtain ⟨k, n1, c1, B1, A1, hk, hn1, rfl, rfl, hB1, hU, hB⟩ := hrel
    by_cases hlt : k < m
    · obtain ⟨b, off, heq, hbl, hc0, hc1⟩ := (P2.out.below hB.out).2 k (by have := HM.out; omega)
      injection heq with heq
      injection heq with heq1 heq2
      subst heq1; subst heq2
      rw [Nat.zero_add] at hc0 hc1
      have hin : (k : Int) < (m : Int) := by omega
      have hp := HA.out.at_ k
      have HGS := Lib.hid (grp_take (l := L) (k := k) (by have := HM.out; omega))
      have HPk := Lib.hid hp
      clear hp
      generalize L.getD k nil2 = p at *
      obtain ⟨pn, pu⟩ := p
      dsimp only at hc0 hc1
      have HV := Lib.hid (grp_ok (L.take k) [] 0 (fun _ h => by cases h) (fun p hp => (HA.out p (List.mem_of_mem_take hp)).1))
      rw [Nat.zero_add, List.length_take, Nat.min_eq_left (by have := HM.out; omega)] at HV
      change Hid (∀ a ∈ grp (L.take k), _) at HV
      obtain ⟨R, hR⟩ : ∃ R, grp (L.take k) = R := ⟨_, rfl⟩
      rw [hR] at hU HGS HV
      clear hR
      have HN := Lib.hid hU.out.own
      go_upto_region 6 with fail
      have bA := (Below.refl wr.heap.size wr).alloc (Nat.le_refl _) (.cells #[.string (T pn), .string (T pu)] 40)
      have U3 := Lib.hid (Und.kept hU.out bA)
      have R5 := Lib.hid (Blk.new wr [.string (T pn), .string (T pu)] 40)
      have B3 := Lib.hid (hB.out.trans (bA.mono hB.out.size))
      have hb3 := Nat.le_trans hB1 bA.size
      have hz3 : (wr.alloc (.cells #[.string (T pn), .string (T pu)] 40)).heap.size = wr.heap.size + 1 := by simp
      have HZ3 := Lib.hid hz3
      clear bA hU hc0 hc1 hz3
      have hw2r := hB.out.size
      generalize hg5 : wr.heap.size = g5 at *
      clear hg5
      change Hid (Blk (wr.alloc (.cells #[.string (T pn), .string (T pu)] 40)) g5 _ _) at R5
      generalize wr.alloc (.cells #[.string (T pn), .string (T pu)] 40) = w3 at *
      have s0 := R5.out.cell (i := 0) rfl
      have s1 := R5.out.cell (i := 1) rfl
      have hmx : Try.prog.follows .mixedOrders = true := by kernel_rfl
      rcases List.eq_nil_or_concat R with hR0 | ⟨r0, a, hR0⟩
      · subst hR0
        have hn0 : n1 = 0 := by obtain ⟨_, _, h, _⟩ := HN.out; simpa using h
        have hA0 : A1 = none := by
          rcases U3.out with ⟨_, h, _⟩ | ⟨_, _, _, _, _, _, h, _⟩
          · exact h
          · exact absurd h (by simp)
        subst hA0
        subst hn0
        go_wp2_with fail
        go_quiet (fail)
        have U4 := Lib.hid (Und.kept U3.out (below_drewN (Below.refl w3.heap.size w3) nq))
        have HR5 := Lib.hid (R5.out.drewN nq)
        have HBq := Lib.hid (below_drewN B3.out nq)
        have Hnew := Lib.hid (grpS_new (r := []) (p := (pn, pu)) fun r1 b h => absurd h (by simp))
        have HNeq := Lib.hid (show ownB none ≠ some g5 from fun e => by cases e)
        have hs0 := (R5.out.drewN nq).cell (i := 0) rfl
        clear s0 s1 R5 HV
        generalize w3.drewN nq = wq at *
        obtain ⟨Vo, hVo, hnl, hOV⟩ := (Und.kept U4.out ((Below.refl wq.heap.size wq).alloc (Nat.le_refl _) (.cells #[.string (T pn), .slice none 0 0] 38))).own
        have HOa := Lib.hid hOV
        have HNa := Lib.hid (Blk.news (Blk.new wq [.string (T pn), .slice none 0 0] 38))
        have HAt := Lib.hid fun b (e : ownB none = some b) => OwnE.ltB hOV b e
        have HM7 := Lib.hid fun (A5 : Option Addr) (c5 : Nat) (w5 : World) ho hg hat => Und.more (A' := A5) (c' := c5) (w' := w5) pn (Und.kept U4.out ((Below.refl wq.heap.size wq).alloc (Nat.le_refl _) (.cells #[.string (T pn), .slice none 0 0] 38))) hVo hOV ho hg hat
        have HBl := Lib.hid (HBq.out.alloc HBq.out.size (.cells #[.string (T pn), .slice none 0 0] 38))
        have HRl := Lib.hid (HR5.out.alloc (.cells #[.string (T pn), .slice none 0 0] 38))
        clear hOV hnl
        go_upto_region 8 with (at_builtin; refine wpList_append_elt_at altElt rfl (.tmp 31) (.tmp 35) rfl w2.heap.size none 0 c1 (cellsA ([] : RW) Vo) rfl HOa.out ⟨wq.heap.size, 0, none⟩ 1 1 [.string (T pn), .slice none 0 0] rfl rfl HNa.out (by intro u hu; simp at hu; rcases hu with rfl | rfl <;> rfl) (by omega) (by omega) (by unfold maxLen; omega) ?_; intro A5 c5 w5 ho5 hg5 hat5; have HU5 := Lib.hid (HM7.out A5 c5 w5 ho5 hg5 hat5); obtain ⟨n6, hn6⟩ : ∃ n6, 0 + 1 = n6 := ⟨_, rfl⟩; rw [hn6]; rw [hn6] at HU5; have HN6 := Lib.hid hn6; have HG5 := Lib.hid hg5; clear ho5 hg5 hat5 hn6)
        have hU5 := HU5.out
        obtain ⟨a6, ha6⟩ : ∃ a6 : AL, a6 = (pn, []) := ⟨_, rfl⟩
        rw [← ha6] at hU5
        obtain ⟨g6, V6, Al6, cl6, hA5, hU6⟩ := Und.one hU5
        subst hA5
        have HVL := Lib.hid (show a6.2.length ≤ 1000 by rw [ha6]; simp)
        have Hgs := Lib.hid (show grpS ([] : RW) (pn, pu) = ([] : RW) ++ [(a6.1, a6.2 ++ [pu])] by rw [ha6]; exact Hnew.out)
        have hb5 : Below w2.heap.size w2 w5 := HBl.out.trans (below_grown HG5.out (Nat.le_trans HBl.out.size (Nat.le_refl _)) (fun b e => (HAt.out b e).1))
        have HBX5 := Lib.hid hb5
        have HR6 : Hid (Blk w5 g5 [.string (T pn), .string (T pu)] 40) := Lib.hid ((grown_keeps HG5.out HRl.out.lt (fun e => HNeq.out e)).trans HRl.out)
        obtain ⟨B6, hB6⟩ : ∃ B6, w5.heap.size = B6 := ⟨_, rfl⟩
        rw [hB6] at hU6
        have HBS6 := Lib.hid (show B6 ≤ w5.heap.size by omega)
        have HNQ1 : Hid (n6 ≤ k + 1) := Lib.hid (by have := HN6.out; omega)
        have hn6q : n6 = (([] : RW)).length + 1 := hU6.1
        obtain ⟨q, hq⟩ : ∃ q, (([] : RW)).length = q := ⟨_, rfl⟩
        have hm8 : (n6 : Int) - 1 = (q : Int) := by omega
        have hi8 : (q : Int) < (n6 : Int) := by omega
        have hk8 : n6 ≤ 1001 := by have := HN6.out; omega
        have HQ := Lib.hid hq
        have HU := Lib.hid hU6
        have HR5 := HR6
        clear hU5 hU6 hb5 ha6 hB6 hn6q hq HU5 HG5 HM7 HOa HNa HAt HBl HRl HBq Hnew HNeq U4 hVo
        obtain ⟨hx0, hx1, hxf, hxl⟩ := Und1.cells HU.out
        rw [HQ.out] at hx0 hx1 hxf
        have y1 := HR5.out.cell (i := 1) rfl
        have HOl := Lib.hid HU.out.2.2.2.2.2.2
        have HB2 := Lib.hid HU.out.2.2.1
        have hv := HVL.out
        have hbw : w2.heap.size ≤ w5.heap.size := HBX5.out.size
        have HZ := Lib.hid fun w4 (h : Below B6 ((w5.alloc (.cells #[.string (T pu)] 9)).drew) w4) => show w4.cell? ⟨g6, q * 2 + 1, none⟩ = some (.slice Al6 a6.2.length cl6) ∧ w4.frozen? ⟨g6, q * 2 + 1, none⟩ = false from by
          have h5 := Und1.after HU.out (((Below.refl B6 w5).alloc HBS6.out (.cells #[.string (T pu)] 9)).drew.trans h)
          rw [HQ.out] at h5
          exact h5
        have HOw := Lib.hid ((HOl.out.2.alloc (.cells #[.string (T pu)] 9)).drew)
        have HNw := Lib.hid (Blk.news (Blk.new w5 [.string (T pu)] 9).drew)
        have HF := Lib.hid fun (A4 : Option Addr) (c4 : Nat) (w4 : World) (ho : OwnE 9 1 w4 B6 A4 (a6.2.length + 1) c4 (cellsT a6.2 ++ [.string (T pu)])) (hb : Below B6 ((w5.alloc (.cells #[.string (T pu)] 9)).drew) w4) => show Und (w4.setCell ⟨g6, q * 2 + 1, none⟩ (.slice A4 (a6.2.length + 1) c4)) w2.heap.size B6 (some ⟨g6, 0, none⟩) n6 c5 (grp (L.take (k + 1))) ∧ Below w2.heap.size w2 (w4.setCell ⟨g6, q * 2 + 1, none⟩ (.slice A4 (a6.2.length + 1) c4)) ∧ B6 ≤ (w4.setCell ⟨g6, q * 2 + 1, none⟩ (.slice A4 (a6.2.length + 1) c4)).heap.size from by
          obtain ⟨u1, u2, u3, u4, u5, u6, u7⟩ := HU.out
          have hbb := ((Below.refl B6 w5).alloc HBS6.out (.cells #[.string (T pu)] 9)).drew.trans hb
          have h := Und.value (w' := w4) (Al' := A4) (cl' := c4) pu u1 u2 u3 u4 u5 u6 hbb ⟨by simp, by rw [show cellsT (a6.2 ++ [pu]) = cellsT a6.2 ++ [.string (T pu)] from by simp [cellsT]]; exact ho⟩ HBS6.out
          rw [HQ.out] at h
          rw [HGS.out, Hgs.out]
          refine ⟨h, (HBX5.out.trans (hbb.mono HB2.out)).setCell (p := ⟨g6, q * 2 + 1, none⟩) (OwnE.ltB u4 g6 rfl).1 _, ?_⟩
          have := hbb.size
          have := HBS6.out
          simp
          omega
        have HK := Lib.hid HNQ1
        clear hx0 HU
        go_wp2_with fail
        go_region_law (refine step_append_elt textElt (o := ⟨some 50, _, _, _, _, _⟩) rfl (.tmp 46) (.tmp 49) rfl B6 Al6 a6.2.length cl6 (cellsT a6.2) rfl HOw.out ⟨w5.heap.size, 0, none⟩ 1 1 [.string (T pu)] rfl rfl (by simpa using HNw.out) (by intro u hu; simp at hu; subst hu; rfl) (by omega) (by omega) ?_; intro A4 c4 w4 ho4 hb4; obtain ⟨z1, zf⟩ := HZ.out w4 hb4; obtain ⟨f1, f2, f3⟩ := HF.out A4 c4 w4 ho4 hb4; have F1 := Lib.hid f1; have F2 := Lib.hid f2; have F3 := Lib.hid f3; clear ho4 hb4 f1 f2 f3)
        all_goals
          go_wp2_with fail
          go_roundw
          case rel => exact ⟨k + 1, n6, c5, B6, some ⟨g6, 0, none⟩, by omega, HK.out, by go_num, rfl, F3.out, F1, F2⟩
          case measure => simp [intOf]; omega
      · rw [List.concat_eq_append] at hR0
        subst hR0
        obtain ⟨g', V0, Al, cl, hA1, hU1⟩ := Und.one U3.out
        subst hA1
        obtain ⟨q, hq⟩ : ∃ q, r0.length = q := ⟨_, rfl⟩
        have hnq : n1 = q + 1 := hU1.1.trans (by rw [hq])
        obtain ⟨x0, x1, xf, xl⟩ := Und1.cells hU1
        rw [hq] at x0 x1 xf
        have hm6 : (n1 : Int) - 1 = (q : Int) := by omega
        have hi6 : (q : Int) < (n1 : Int) := by omega
        have hz6 : ((n1 : Int) == 0) = false := by simp; omega
        have HNQ := Lib.hid hnq
        clear hnq
        have hU := Lib.hid hU1
        have HQ := Lib.hid hq
        obtain ⟨hn5, hv5⟩ := HV.out a (by simp)
        have HVL := Lib.hid (show a.2.length ≤ 1000 by omega)
        have hte := Qc.T_eq hn5 HPk.out.1
        clear hU1 hq hn5 hv5
        by_cases he : a.1 = pn
        · rw [decide_eq_true he] at hte
          have Hgs := Lib.hid (grpS_old (r0 := r0) (a := a) (p := (pn, pu)) he)
          have hS : T a.1 = T pn := by rw [he]
          rw [hS] at x0 hte
          clear he hS
          go_wp2_with fail
          go_quiet (fail)
          have HU := Lib.hid (Und1.kept hU.out (below_drewN (Below.refl w3.heap.size w3) nq))
          have HR5 := Lib.hid (R5.out.drewN nq)
          have HB3x := Lib.hid (below_drewN B3.out nq)
          have HBSx := Lib.hid (show B1 ≤ (w3.drewN nq).heap.size from hb3)
          have HNQ1 : Hid (n1 ≤ k + 1) := Lib.hid (by omega)
          clear x0 x1 xf s0 s1 hte hU R5 xl
          generalize w3.drewN nq = wq at *
          obtain ⟨hx0, hx1, hxf, hxl⟩ := Und1.cells HU.out
          rw [HQ.out] at hx0 hx1 hxf
          have y1 := HR5.out.cell (i := 1) rfl
          have HOl := Lib.hid HU.out.2.2.2.2.2.2
          have HB2 := Lib.hid HU.out.2.2.1
          have hv := HVL.out
          have hbw : w2.heap.size ≤ wq.heap.size := HB3x.out.size
          have HZ := Lib.hid fun w4 (h : Below B1 ((wq.alloc (.cells #[.string (T pu)] 9)).drew) w4) => show w4.cell? ⟨g', q * 2 + 1, none⟩ = some (.slice Al a.2.length cl) ∧ w4.frozen? ⟨g', q * 2 + 1, none⟩ = false from by
            have h5 := Und1.after HU.out (((Below.refl B1 wq).alloc HBSx.out (.cells #[.string (T pu)] 9)).drew.trans h)
            rw [HQ.out] at h5
            exact h5
          have HOw := Lib.hid ((HOl.out.2.alloc (.cells #[.string (T pu)] 9)).drew)
          have HNw := Lib.hid (Blk.news (Blk.new wq [.string (T pu)] 9).drew)
          have HF := Lib.hid fun (A4 : Option Addr) (c4 : Nat) (w4 : World) (ho : OwnE 9 1 w4 B1 A4 (a.2.length + 1) c4 (cellsT a.2 ++ [.string (T pu)])) (hb : Below B1 ((wq.alloc (.cells #[.string (T pu)] 9)).drew) w4) => show Und (w4.setCell ⟨g', q * 2 + 1, none⟩ (.slice A4 (a.2.length + 1) c4)) w2.heap.size B1 (some ⟨g', 0, none⟩) n1 c1 (grp (L.take (k + 1))) ∧ Below w2.heap.size w2 (w4.setCell ⟨g', q * 2 + 1, none⟩ (.slice A4 (a.2.length + 1) c4)) ∧ B1 ≤ (w4.setCell ⟨g', q * 2 + 1, none⟩ (.slice A4 (a.2.length + 1) c4)).heap.size from by
            obtain ⟨u1, u2, u3, u4, u5, u6, u7⟩ := HU.out
            have hbb := ((Below.refl B1 wq).alloc HBSx.out (.cells #[.string (T pu)] 9)).drew.trans hb
            have h := Und.value (w' := w4) (Al' := A4) (cl' := c4) pu u1 u2 u3 u4 u5 u6 hbb ⟨by simp, by rw [show cellsT (a.2 ++ [pu]) = cellsT a.2 ++ [.string (T pu)] from by simp [cellsT]]; exact ho⟩ HBSx.out
            rw [HQ.out] at h
            rw [HGS.out, Hgs.out]
            refine ⟨h, (HB3x.out.trans (hbb.mono HB2.out)).setCell (p := ⟨g', q * 2 + 1, none⟩) (OwnE.ltB u4 g' rfl).1 _, ?_⟩
            have := hbb.size
            have := HBSx.out
            simp
            omega
          have HK := Lib.hid HNQ1
          clear hx0 HU
          go_wp2_with fail
          go_region_law (refine step_append_elt textElt (o := ⟨some 50, _, _, _, _, _⟩) rfl (.tmp 46) (.tmp 49) rfl B1 Al a.2.length cl (cellsT a.2) rfl HOw.out ⟨wq.heap.size, 0, none⟩ 1 1 [.string (T pu)] rfl rfl (by simpa using HNw.out) (by intro u hu; simp at hu; subst hu; rfl) (by omega) (by omega) ?_; intro A4 c4 w4 ho4 hb4; obtain ⟨z1, zf⟩ := HZ.out w4 hb4; obtain ⟨f1, f2, f3⟩ := HF.out A4 c4 w4 ho4 hb4; have F1 := Lib.hid f1; have F2 := Lib.hid f2; have F3 := Lib.hid f3; clear ho4 hb4 f1 f2 f3)
          all_goals
            go_wp2_with fail
            go_roundw
            case rel => exact ⟨k + 1, n1, c1, B1, some ⟨g', 0, none⟩, by omega, HK.out, by go_num, rfl, F3.out, F1, F2⟩
            case measure => simp [intOf]; omega
        · rw [decide_eq_false he] at hte
          have Hgs := Lib.hid (grpS_new (r := r0 ++ [a]) (p := (pn, pu)) fun r1 b h => by
            obtain ⟨_, e2⟩ := List.append_inj' h rfl
            obtain rfl : a = b := by simpa using e2
            exact he)
          clear he
          generalize T a.1 = S2 at *
          go_wp2_with fail
          go_quiet (fail)
          have U4 := Lib.hid (Und.kept U3.out (below_drewN (Below.refl w3.heap.size w3) nq))
          have HR5 := Lib.hid (R5.out.drewN nq)
          have HBq := Lib.hid (below_drewN B3.out nq)
          have Hnew := Hgs
          have HNeq := Lib.hid (show ownB (some ⟨g', 0, none⟩) ≠ some g5 from fun e => by change some g' = some g5 at e; injection e with e; have := hU.out.2.2.2.2.1; omega)
          have hs0 := (R5.out.drewN nq).cell (i := 0) rfl
          clear x0 x1 xf s0 s1 hte hU R5 xl HVL HQ hm6 hi6 hz6 HNQ Hgs HV

          generalize w3.drewN nq = wq at *
          obtain ⟨Vo, hVo, hnl, hOV⟩ := (Und.kept U4.out ((Below.refl wq.heap.size wq).alloc (Nat.le_refl _) (.cells #[.string (T pn), .slice none 0 0] 38))).own
          have HOa := Lib.hid hOV
          have HNa := Lib.hid (Blk.news (Blk.new wq [.string (T pn), .slice none 0 0] 38))
          have HAt := Lib.hid fun b (e : ownB (some ⟨g', 0, none⟩) = some b) => OwnE.ltB hOV b e
          have HM7 := Lib.hid fun (A5 : Option Addr) (c5 : Nat) (w5 : World) ho hg hat => Und.more (A' := A5) (c' := c5) (w' := w5) pn (Und.kept U4.out ((Below.refl wq.heap.size wq).alloc (Nat.le_refl _) (.cells #[.string (T pn), .slice none 0 0] 38))) hVo hOV ho hg hat
          have HBl := Lib.hid (HBq.out.alloc HBq.out.size (.cells #[.string (T pn), .slice none 0 0] 38))
          have HRl := Lib.hid (HR5.out.alloc (.cells #[.string (T pn), .slice none 0 0] 38))
          clear hOV hnl
          go_upto_region 8 with (at_builtin; refine wpList_append_elt_at altElt rfl (.tmp 31) (.tmp 35) rfl w2.heap.size (some ⟨g', 0, none⟩) n1 c1 (cellsA (r0 ++ [a]) Vo) rfl HOa.out ⟨wq.heap.size, 0, none⟩ 1 1 [.string (T pn), .slice none 0 0] rfl rfl HNa.out (by intro u hu; simp at hu; rcases hu with rfl | rfl <;> rfl) (by omega) (by omega) (by unfold maxLen; omega) ?_; intro A5 c5 w5 ho5 hg5 hat5; have HU5 := Lib.hid (HM7.out A5 c5 w5 ho5 hg5 hat5); obtain ⟨n6, hn6⟩ : ∃ n6, n1 + 1 = n6 := ⟨_, rfl⟩; rw [hn6]; rw [hn6] at HU5; have HN6 := Lib.hid hn6; have HG5 := Lib.hid hg5; clear ho5 hg5 hat5 hn6)
          have hU5 := HU5.out
          obtain ⟨a6, ha6⟩ : ∃ a6 : AL, a6 = (pn, []) := ⟨_, rfl⟩
          rw [← ha6] at hU5
          obtain ⟨g6, V6, Al6, cl6, hA5, hU6⟩ := Und.one hU5
          subst hA5
          have HVL := Lib.hid (show a6.2.length ≤ 1000 by rw [ha6]; simp)
          have Hgs := Lib.hid (show grpS (r0 ++ [a]) (pn, pu) = (r0 ++ [a]) ++ [(a6.1, a6.2 ++ [pu])] by rw [ha6]; exact Hnew.out)
          have hb5 : Below w2.heap.size w2 w5 := HBl.out.trans (below_grown HG5.out (Nat.le_trans HBl.out.size (Nat.le_refl _)) (fun b e => (HAt.out b e).1))
          have HBX5 := Lib.hid hb5
          have HR6 : Hid (Blk w5 g5 [.string (T pn), .string (T pu)] 40) := Lib.hid ((grown_keeps HG5.out HRl.out.lt (fun e => HNeq.out e)).trans HRl.out)
          obtain ⟨B6, hB6⟩ : ∃ B6, w5.heap.size = B6 := ⟨_, rfl⟩
          rw [hB6] at hU6
          have HBS6 := Lib.hid (show B6 ≤ w5.heap.size by omega)
          have HNQ1 : Hid (n6 ≤ k + 1) := Lib.hid (by have := HN6.out; omega)
          have hn6q : n6 = ((r0 ++ [a])).length + 1 := hU6.1
          obtain ⟨q, hq⟩ : ∃ q, ((r0 ++ [a])).length = q := ⟨_, rfl⟩
          have hm8 : (n6 : Int) - 1 = (q : Int) := by omega
          have hi8 : (q : Int) < (n6 : Int) := by omega
          have hk8 : n6 ≤ 1001 := by have := HN6.out; omega
          have HQ := Lib.hid hq
          have HU := Lib.hid hU6
          have HR5 := HR6
          clear hU5 hU6 hb5 ha6 hB6 hn6q hq HU5 HG5 HM7 HOa HNa HAt HBl HRl HBq Hnew HNeq U4 hVo
          obtain ⟨hx0, hx1, hxf, hxl⟩ := Und1.cells HU.out
          rw [HQ.out] at hx0 hx1 hxf
          have y1 := HR5.out.cell (i := 1) rfl
          have HOl := Lib.hid HU.out.2.2.2.2.2.2
          have HB2 := Lib.hid HU.out.2.2.1
          have hv := HVL.out
          have hbw : w2.heap.size ≤ w5.heap.size := HBX5.out.size
          have HZ := Lib.hid fun w4 (h : Below B6 ((w5.alloc (.cells #[.string (T pu)] 9)).drew) w4) => show w4.cell? ⟨g6, q * 2 + 1, none⟩ = some (.slice Al6 a6.2.length cl6) ∧ w4.frozen? ⟨g6, q * 2 + 1, none⟩ = false from by
            have h5 := Und1.after HU.out (((Below.refl B6 w5).alloc HBS6.out (.cells #[.string (T pu)] 9)).drew.trans h)
            rw [HQ.out] at h5
            exact h5
          have HOw := Lib.hid ((HOl.out.2.alloc (.cells #[.string (T pu)] 9)).drew)
          have HNw := Lib.hid (Blk.news (Blk.new w5 [.string (T pu)] 9).drew)
          have HF := Lib.hid fun (A4 : Option Addr) (c4 : Nat) (w4 : World) (ho : OwnE 9 1 w4 B6 A4 (a6.2.length + 1) c4 (cellsT a6.2 ++ [.string (T pu)])) (hb : Below B6 ((w5.alloc (.cells #[.string (T pu)] 9)).drew) w4) => show Und (w4.setCell ⟨g6, q * 2 + 1, none⟩ (.slice A4 (a6.2.length + 1) c4)) w2.heap.size B6 (some ⟨g6, 0, none⟩) n6 c5 (grp (L.take (k + 1))) ∧ Below w2.heap.size w2 (w4.setCell ⟨g6, q * 2 + 1, none⟩ (.slice A4 (a6.2.length + 1) c4)) ∧ B6 ≤ (w4.setCell ⟨g6, q * 2 + 1, none⟩ (.slice A4 (a6.2.length + 1) c4)).heap.size from by
            obtain ⟨u1, u2, u3, u4, u5, u6, u7⟩ := HU.out
            have hbb := ((Below.refl B6 w5).alloc HBS6.out (.cells #[.string (T pu)] 9)).drew.trans hb
            have h := Und.value (w' := w4) (Al' := A4) (cl' := c4) pu u1 u2 u3 u4 u5 u6 hbb ⟨by simp, by rw [show cellsT (a6.2 ++ [pu]) = cellsT a6.2 ++ [.string (T pu)] from by simp [cellsT]]; exact ho⟩ HBS6.out
            rw [HQ.out] at h
            rw [HGS.out, Hgs.out]
            refine ⟨h, (HBX5.out.trans (hbb.mono HB2.out)).setCell (p := ⟨g6, q * 2 + 1, none⟩) (OwnE.ltB u4 g6 rfl).1 _, ?_⟩
            have := hbb.size
            have := HBS6.out
            simp
            omega
          have HK := Lib.hid HNQ1
          clear hx0 HU
          go_wp2_with fail
          go_region_law (refine step_append_elt textElt (o := ⟨some 50, _, _, _, _, _⟩) rfl (.tmp 46) (.tmp 49) rfl B6 Al6 a6.2.length cl6 (cellsT a6.2) rfl HOw.out ⟨w5.heap.size, 0, none⟩ 1 1 [.string (T pu)] rfl rfl (by simpa using HNw.out) (by intro u hu; simp at hu; subst hu; rfl) (by omega) (by omega) ?_; intro A4 c4 w4 ho4 hb4; obtain ⟨z1, zf⟩ := HZ.out w4 hb4; obtain ⟨f1, f2, f3⟩ := HF.out A4 c4 w4 ho4 hb4; have F1 := Lib.hid f1; have F2 := Lib.hid f2; have F3 := Lib.hid f3; clear ho4 hb4 f1 f2 f3)
          all_goals
            go_wp2_with fail
            go_roundw
            case rel => exact ⟨k + 1, n6, c5, B6, some ⟨g6, 0, none⟩, by omega, HK.out, by go_num, rfl, F3.out, F1, F2⟩
            case measure => simp [intOf]; omega
    · obtain rfl : k = m := by omega
      have hUd := hU.out
      rw [List.take_of_length_le (by have := HM.out; omega), HG.out] at hUd
      obtain ⟨hn1', hF⟩ := hUd.done
      have HF := Lib.hid (hF.kept (G := fun b => w.heap.size ≤ b ∧ b < wr.heap.size) (Nat.le_refl _) (fun _ _ _ => rfl) (fun b hf _ => ⟨Nat.le_trans hw2 hf.1, hf.2⟩))
      have HN := Lib.hid hn1'
      clear hUd hn1' hF hU
      go_wp2_with fail
      go_ret
      exact ⟨A1, c1, by rw [HN.out]; rfl, HF.out, B2.out.trans (hB.out.mono (Nat.le_trans hb0 hw2))⟩
end Go.Proofs.Ytpfkhcgeblihcaa.Qk

/-
  The rows of a match under way, in memory.
-/
namespace Go.Proofs.Ytpfkhcgeblihcaa.Ql
open Go.ChangeShapes Go.WideShapes Go.ChangeAt Go.RowKit
open Bytes8 Blk8 Own8 OwnM OwnE OwnA Dc Fa Fb Fo Pr8 Pv8 Qa Qb Qd Qj
set_option linter.unusedVariables false
set_option maxRecDepth 100000
set_option linter.unusedSimpArgs false

def cellsR : List RW → List VC → List Value
  | r :: M, v :: V => .slice v.1 r.length v.2 :: cellsR M V
  | _, _ => []
theorem cellsR_len : ∀ (M : List RW) (V : List VC), V.length = M.length → (cellsR M V).length = M.length
  | [], [], _ => rfl
  | r :: M, v :: V, h => by simp [cellsR, cellsR_len M V (by simpa using h)]
  | [], _ :: _, h => by cases h
  | _ :: _, [], h => by cases h
theorem cellsR_at : ∀ (M : List RW) (V : List VC) (i : Nat), V.length = M.length → i < M.length → (cellsR M V)[i]? = some (.slice (V.getD i (none, 0)).1 (M.getD i []).length (V.getD i (none, 0)).2)
  | r :: M, v :: V, 0, _, _ => rfl
  | r :: M, v :: V, i + 1, h, hi => by simpa [cellsR] using cellsR_at M V i (by simpa using h) (by simpa using hi)
  | [], _, i, _, hi => absurd hi (by simp)
  | _ :: _, [], i, h, _ => by cases h
theorem cellsR_snoc : ∀ (M : List RW) (V : List VC) (r : RW) (v : VC), V.length = M.length → cellsR (M ++ [r]) (V ++ [v]) = cellsR M V ++ [.slice v.1 r.length v.2]
  | [], [], r, v, _ => rfl
  | s :: M, u :: V, r, v, h => by simp [cellsR, cellsR_snoc M V r v (by simpa using h)]
  | [], _ :: _, _, _, h => by cases h
  | _ :: _, [], _, _, h => by cases h
/-- The rows told so far, all in blocks ahead of B5. -/
def RowsC (w : World) (B0 B5 : Nat) (A : Option Addr) (n c : Nat) (M : List RW) : Prop :=
  n = M.length ∧ B5 ≤ w.heap.size ∧ ∃ V : List VC, V.length = M.length ∧ OwnE 36 1 w B0 A n c (cellsR M V) ∧ (∀ b, ownB A = some b → b < B5) ∧
    ∀ i, i < M.length → AlF (fun b => B0 ≤ b ∧ b < B5 ∧ ownB A ≠ some b) w (V.getD i (none, 0)).1 (M.getD i [])
theorem RowsC.nil (w : World) (B0 : Nat) (h : B0 ≤ w.heap.size) : RowsC w B0 w.heap.size none 0 0 [] := ⟨rfl, Nat.le_refl _, [], rfl, OwnE.nil w B0 h, (fun _ h => by cases h), fun i hi => absurd hi (by simp)⟩
theorem ownE_keptB {E : TypeId} {size : Nat} {w w' : World} {base B n c : Nat} {A : Option Addr} {xs : List Value} (h : OwnE E size w base A n c xs) (hA : ∀ b, ownB A = some b → b < B) (hb : Below B w w') : OwnE E size w' base A n c xs := by
  refine ⟨Nat.le_trans h.1 hb.size, h.2.1, ?_⟩
  rcases h.2.2 with h1 | ⟨k, cap, cur, h1, h2, h3, h4⟩
  · exact .inl h1
  · refine .inr ⟨k, cap, cur, h1, h2, ?_, h4⟩
    injection h1 with e1 _ _
    subst e1
    rw [hb.block k (hA k rfl)]; exact h3
theorem RowsC.kept {w w' : World} {B0 B5 : Nat} {A : Option Addr} {n c : Nat} {M : List RW} (h : RowsC w B0 B5 A n c M) (hb : Below B5 w w') : RowsC w' B0 B5 A n c M := by
  obtain ⟨h1, h0, V, h2, h3, h4, h5⟩ := h
  exact ⟨h1, Nat.le_trans h0 hb.size, V, h2, ownE_keptB h3 h4 hb, h4, fun i hi => (h5 i hi).kept hb.size (fun b hf _ => hb.block b hf.2.1) (fun b hf _ => hf)⟩
theorem RowsC.mts {w : World} {B0 B5 : Nat} {A : Option Addr} {n c : Nat} {M : List RW} (h : RowsC w B0 B5 A n c M) : Mts w A M := fun i hi => by
  obtain ⟨h1, h0, V, h2, h3, h4, h5⟩ := h
  obtain ⟨g, e, _, hlt, hc⟩ := h3.cell (i := i) (by rw [cellsR_len _ _ h2]; exact hi)
  exact ⟨g, 0, _, _, e, hlt, by rw [Nat.zero_add, hc, cellsR_at M V i h2 hi], (h5 i hi).als⟩
theorem RowsC.far {w : World} {B0 B5 : Nat} {A : Option Addr} {n c : Nat} {M : List RW} (h : RowsC w B0 B5 A n c M) {p : Addr} (hp : p.block < B0) (v : Value) : RowsC (w.setCell p v) B0 B5 A n c M := by
  obtain ⟨h1, h0, V, h2, h3, h4, h5⟩ := h
  have hs : (w.setCell p v).heap.size = w.heap.size := by simp
  refine ⟨h1, by rw [hs]; exact h0, V, h2, ⟨by rw [hs]; exact h3.1, h3.2.1, ?_⟩, h4, fun i hi => (h5 i hi).kept (by rw [hs]; exact Nat.le_refl _) (fun b hf _ => far_keeps (by have := hf.1; omega)) (fun b hf _ => hf)⟩
  rcases h3.2.2 with k1 | ⟨k, cap, cur, k1, k2, k3, k4⟩
  · exact .inl k1
  · exact .inr ⟨k, cap, cur, k1, k2, (far_keeps (by omega)).trans k3, k4⟩
/-- One row more: told by a call (w to w1), boxed (w2), appended (w3). -/
theorem RowsC.more {w w1 w2 w3 : World} {B0 B5 : Nat} {A A3 A' : Option Addr} {n c c3 c' : Nat} {M : List RW} {r : RW} (h : RowsC w B0 B5 A n c M) (hr : AlF (fun b => w.heap.size ≤ b ∧ b < w1.heap.size) w1 A' r) (hb1 : Below B5 w w1) (hb2 : Below w1.heap.size w1 w2) (hB0 : B0 ≤ w.heap.size)
    (hO : ∀ V : List VC, V.length = M.length → OwnE 36 1 w2 B0 A n c (cellsR M V) → OwnE 36 1 w3 B0 A3 (n + 1) c3 (cellsR M V ++ [.slice A' r.length c'])) (hg : w2.grownBy w3 (ownB A)) (hat : ownB A3 = ownB A ∨ ownB A3 = some w2.heap.size) :
    RowsC w3 B0 w3.heap.size A3 (n + 1) c3 (M ++ [r]) := by
  obtain ⟨h1, h0, V, h2, h3, h4, h5⟩ := h
  have s1 := hb1.size
  have s2 := hb2.size
  have s3 := hg.size
  have hb12 := hb1.trans (hb2.mono (Nat.le_trans h0 s1))
  have hX := hO V h2 (ownE_keptB h3 h4 hb12)
  have hA3 : ∀ b, ownB A3 = some b → b < w3.heap.size := fun b e => (OwnE.ltB hX b e).2
  have hAw : ∀ b, ownB A = some b → b < w.heap.size := fun b e => Nat.lt_of_lt_of_le (h4 b e) h0
  refine ⟨by simp [h1], Nat.le_refl _, V ++ [(A', c')], by simp [h2], by rw [cellsR_snoc _ _ _ _ h2]; exact hX, hA3, fun i hi => ?_⟩
  rcases Nat.lt_or_ge i M.length with hlt | hge
  · rw [List.getD_eq_getElem?_getD, List.getElem?_append_left (by omega), ← List.getD_eq_getElem?_getD, List.getD_eq_getElem?_getD (l := M ++ [r]), List.getElem?_append_left hlt, ← List.getD_eq_getElem?_getD]
    refine (h5 i hlt).kept (by omega) (fun b hf hbw => ?_) (fun b hf hbw => ⟨hf.1, by omega, fun e => ?_⟩)
    · rw [grown_keeps hg (by omega) hf.2.2]; exact hb12.block b hf.2.1
    · rcases hat with h | h
      · exact hf.2.2 (h ▸ e)
      · rw [h] at e; injection e with e; omega
  · have e1 : i = M.length := by simp at hi; omega
    subst e1
    rw [List.getD_eq_getElem?_getD, List.getElem?_append_right (by omega), List.getD_eq_getElem?_getD (l := M ++ [r]), List.getElem?_append_right (by omega), h2, Nat.sub_self]
    refine hr.kept (by omega) (fun b hf hbw => ?_) (fun b hf hbw => ⟨by omega, by omega, fun e => ?_⟩)
    · rw [grown_keeps hg (by omega) (fun e => by have := hAw b e; omega)]; exact hb2.block b hbw
    · rcases hat with h | h
      · rw [h] at e; have := hAw b e; omega
      · rw [h] at e; injection e with e; omega
end Go.Proofs.Ytpfkhcgeblihcaa.Ql

/-
  The match that words ask for: the program's Compile.
-/
namespace Go.Proofs.Ytpfkhcgeblihcaa.Qm
open Go.ChangeShapes Go.WideShapes Go.ChangeAt Go.RowKit
open Bytes8 Blk8 Own8 OwnM OwnE OwnA Dc Fa Fb Fc Fo Pr8 Pv8 Qa Qb Qd Qj Ql
open Fsp (split_any Splitted)
set_option linter.unusedVariables false
set_option maxRecDepth 100000
set_option linter.unusedSimpArgs false

theorem at_slot (n : Nat) {P : Program} {ops : Array Oper} {Q : Exit → Act → World → Prop} {rest : List Oper} {a : Act} {w : World} {op : Op} {ty : TypeId} {pos : String} {af : Array Edge} {gd : Option (Nat × Bool)}
    (h : wpList P ops Q (⟨some n, op, ty, pos, af, gd⟩ :: rest) a w) : wpList P ops Q (⟨some n, op, ty, pos, af, gd⟩ :: rest) a w := h
theorem drop_cons {ws : List TX} {k : Nat} (hk : k < ws.length) : ws.drop k = ws.getD k [] :: ws.drop (k + 1) := by
  rw [List.drop_eq_getElem_cons hk, List.getD_eq_getElem?_getD, List.getElem?_eq_getElem hk]; rfl
theorem comp_plus {ws : List TX} {k : Nat} {M : List RW} {row : List PR} (hk : k < ws.length) (hx : ws.getD k [] = [43]) (h : row = [] ∨ ws.drop (k + 1) = []) : comp (ws.drop k) M row = (20, []) := by
  rw [drop_cons hk, comp, if_pos hx, if_pos h]
theorem comp_more {ws : List TX} {k : Nat} {M : List RW} {row : List PR} (hk : k < ws.length) (hx : ws.getD k [] = [43]) (h : ¬ (row = [] ∨ ws.drop (k + 1) = [])) : comp (ws.drop k) M row = comp (ws.drop (k + 1)) (M ++ [canon row]) [] := by
  rw [drop_cons hk, comp, if_pos hx, if_neg h]
theorem comp_bad {ws : List TX} {k : Nat} {M : List RW} {row : List PR} (hk : k < ws.length) (hx : ws.getD k [] ≠ [43]) (h : splitE (ws.getD k []) ≠ 0) : comp (ws.drop k) M row = (splitE (ws.getD k []), []) := by
  rw [drop_cons hk, comp, if_neg hx, if_neg h]
theorem comp_word {ws : List TX} {k : Nat} {M : List RW} {row : List PR} (hk : k < ws.length) (hx : ws.getD k [] ≠ [43]) (h : splitE (ws.getD k []) = 0) : comp (ws.drop k) M row = comp (ws.drop (k + 1)) M (row ++ [(splitN (ws.getD k []), splitV (ws.getD k []))]) := by
  rw [drop_cons hk, comp, if_neg hx, if_pos h]
theorem T_plus (x : TX) (hx : AllB x) : ((T x).toList == [43]) = decide (x = [43]) := by
  rw [show ([43] : List UInt8) = (T [43]).toList by rw [T_toList]; rfl]
  exact T_beq hx (fun y hy => by simp at hy; subst hy; decide)
theorem ownP_some {w : World} {base n c : Nat} {A : Option Addr} {l : List PR} (h : OwnP w base A n c l) (hn : 0 < n) : ∃ g, A = some ⟨g, 0, none⟩ := by
  rcases h.2.2.2.2 with ⟨_, h0⟩ | ⟨g, cap, cur, he, hb, _⟩
  · omega
  · injection he with e1 e2 e3; exact ⟨g, e1⟩
def Compd (r : Int × List RW) (w : World) (e : Ending) (w' : World) : Prop := ∃ A' c', e = .returned (.tuple #[.agg #[.slice A' r.2.length c'], .int .i64 r.1]) ∧ Mts w' A' r.2 ∧ Below w.heap.size w w' ∧ r.2.length ≤ c' ∧ ∀ (p : Addr) (v : Value), p.block < w.heap.size → Mts (w'.setCell p v) A' r.2
theorem compd_none {ws : List TX} {r : Int} {w w' : World} {e : Ending} (h : compM ws = (r, [])) (he : e = .returned (.tuple #[.agg #[.slice none 0 0], .int .i64 r])) (hb : Below w.heap.size w w') : Compd (compM ws) w e w' := by
  rw [h]; exact ⟨none, 0, he, Mts.nil _ _, hb, Nat.le_refl _, fun _ _ _ => Mts.nil _ _⟩
theorem rowsC_cap {w : World} {B0 B5 : Nat} {A : Option Addr} {n c : Nat} {M : List RW} (h : RowsC w B0 B5 A n c M) : M.length ≤ c := by
  obtain ⟨h1, _, V, _, h3, _⟩ := h
  rcases h3.2.2 with ⟨_, h0⟩ | ⟨g, cap, cur, he, _, _, hnc, _⟩
  · omega
  · injection he with _ _ e3
    omega
theorem ownP_keptB {w w' : World} {base B n c : Nat} {A : Option Addr} {l : List PR} (h : OwnP w base A n c l) (hb : Below B w w') (hB : w.heap.size ≤ B) : OwnP w' base A n c l := h.kept hb hB
theorem split_ok {x : TX} (hx : AllB x) (hl : x.length ≤ 900000) : okP (splitN x, splitV x) := by
  have h1 : (splitN x).length ≤ x.length := by
    unfold splitN
    split
    · rw [List.length_take]; exact Nat.min_le_right _ _
    · exact Nat.zero_le _
  have h2 : (splitV x).length ≤ x.length := by
    unfold splitV
    split
    · rw [List.length_drop]; omega
    · exact Nat.zero_le _
  exact ⟨splitN_all hx, splitV_all hx, by unfold maxLen; show (splitN x).length ≤ _; omega, by unfold maxLen; show (splitV x).length ≤ _; omega⟩
set_option maxHeartbeats 16000000 in
theorem compile_any (a : Option Addr) (ws : List TX) (n c : Nat) (w : World) (hT : Txts w a ws) (hL : ws.length = n) (hA : ∀ v ∈ ws, AllB v ∧ v.length ≤ 900000) (hn : n ≤ 1000000) :
    Calls Try.prog 6 #[.slice a n c] w (Compd (compM ws) w) := by
  have HT := Lib.hid hT
  have HL := Lib.hid hL
  have HA := Lib.hid hA
  have b1 := (Below.refl w.heap.size w).alloc (Nat.le_refl _) (.cells #[.slice none 0 0] 25)
  have R1 := Lib.hid (Blk.new w [.slice none 0 0] 25)
  have hz1 : (w.alloc (.cells #[.slice none 0 0] 25)).heap.size = w.heap.size + 1 := by simp
  have HB1 := Lib.hid b1
  have HN1 := Lib.hid (RowsC.nil (w.alloc (.cells #[.slice none 0 0] 25)) (w.heap.size + 1) (by rw [hz1]; exact Nat.le_refl _))
  have HO1 := Lib.hid (OwnP.nil (w.alloc (.cells #[.slice none 0 0] 25)) (w.alloc (.cells #[.slice none 0 0] 25)).heap.size (Nat.le_refl _))
  have HZ1 := Lib.hid (Nat.le_of_eq hz1.symm)
  by_cases h32 : 32 < n
  · have HR := Lib.hid (show compM ws = (21, []) by unfold compM; rw [if_pos (by omega)])
    have r0 := R1.out.cell (i := 0) rfl
    have rf := R1.out.frozen 0
    clear hT hL hA b1 hz1
    go_enter Try.func6, Try.ntmps6
    go_wp2_with fail
    refine bodyPost_ret (v := .tuple #[.agg #[.slice none 0 0], .int .i64 21]) (by simp [results_cell_tmp Try.results6, go_sem, r0, rf, Result.andThen]) rfl (compd_none HR.out rfl ?_)
    (repeat (first | (with_reducible exact HB1.out) | refine Below.setCell ?_ (by simp) _ | refine Below.alloc ?_ (by simp) _ | refine below_drewN ?_ _))
  · have HR := Lib.hid (show compM ws = comp (ws.drop 0) [] [] by unfold compM; rw [if_neg (by omega)]; rfl)
    clear hT hL hA b1 hz1
    go_enter Try.func6, Try.ntmps6
    go_upto_region 1 with fail
    generalize w.alloc (.cells #[.slice none 0 0] 25) = w1 at *
    go_wp2_with fail
    go_loopw [4, 5, 16] (fun z4 z5 i wr => ∃ (k nr n5 c4 c5 B5 : Nat) (A4 A5 : Option Addr) (M : List RW) (row : List PR), k ≤ n ∧ i = .int .i64 (k : Int) ∧ z4 = .slice A4 nr c4 ∧ z5 = .slice A5 n5 c5 ∧ nr ≤ k ∧ n5 ≤ k ∧ Hid (compM ws = comp (ws.drop k) M row) ∧ Hid (RowsC wr (w.heap.size + 1) B5 A4 nr c4 M) ∧ Hid (OwnP wr B5 A5 n5 c5 row) ∧ Hid (Blk wr w.heap.size [.slice none 0 0] 25) ∧ Hid (Below w.heap.size w wr) ∧ Hid (w.heap.size + 1 ≤ B5)) (fun _ _ i _ => n - (intOf i).toNat)
    case atStart => exact ⟨0, 0, 0, 0, 0, w1.heap.size, none, none, [], [], by omega, rfl, rfl, rfl, by omega, by omega, HR, HN1, HO1, R1, HB1, HZ1⟩
    case round =>
      clear HR HN1 HO1 R1 HB1 HZ1
      obtain ⟨k, nr, n5, c4, c5, B5, A4, A5, M, row, hk, rfl, rfl, rfl, hnr, hn5, HC, HRw, HOw, HBk, hB, hB5⟩ := hrel
      have k0 := HBk.out.cell (i := 0) rfl
      have kf := HBk.out.frozen 0
      by_cases hlt : k < n
      · obtain ⟨b, off, rfl, hbl, hc0⟩ := (HT.out.below hB.out) k (by have := HL.out; omega)
        have hin : (k : Int) < (n : Int) := by omega
        obtain ⟨hxA, hxl⟩ := HA.out (ws.getD k []) (getD_in (by have := HL.out; omega))
        have hp := T_plus (ws.getD k []) hxA
        by_cases hx : ws.getD k [] = [43]
        · rw [decide_eq_true hx] at hp
          by_cases hbad : row = [] ∨ k + 1 = n
          · have HCp := Lib.hid (HC.out.trans (comp_plus (by have := HL.out; omega) hx (hbad.imp id fun h => List.drop_eq_nil_of_le (by have := HL.out; omega))))
            have hcase : n5 = 0 ∨ (n5 ≠ 0 ∧ (k : Int) = (n : Int) - 1) := by
              rcases Nat.eq_zero_or_pos n5 with h | h
              · exact .inl h
              · refine .inr ⟨by omega, ?_⟩
                rcases hbad with h2 | h2
                · have := HOw.out.2.1; rw [h2] at this; simp at this; omega
                · omega
            clear hbad hx HC HRw HOw
            generalize T (ws.getD k []) = S at *
            rcases hcase with h0 | ⟨h0, h1⟩
            · subst h0
              go_wp2_with fail
              refine bodyPost_ret (v := .tuple #[.agg #[.slice none 0 0], .int .i64 20]) (by simp [results_cell_tmp Try.results6, go_sem, k0, kf, Result.andThen]) rfl (compd_none HCp.out rfl ?_)
              (repeat (first | (with_reducible exact hB.out) | refine Below.setCell ?_ (by simp) _ | refine Below.alloc ?_ (by simp) _ | refine below_drewN ?_ _))
            · have hz : ((n5 : Int) == 0) = false := by simp; omega
              have hz2 : ((k : Int) == (n : Int) - 1) = true := by simp; omega
              clear h1
              go_wp2_with fail
              refine bodyPost_ret (v := .tuple #[.agg #[.slice none 0 0], .int .i64 20]) (by simp [results_cell_tmp Try.results6, go_sem, k0, kf, Result.andThen]) rfl (compd_none HCp.out rfl ?_)
              (repeat (first | (with_reducible exact hB.out) | refine Below.setCell ?_ (by simp) _ | refine Below.alloc ?_ (by simp) _ | refine below_drewN ?_ _))
          · have hne : row ≠ [] := fun h => hbad (.inl h)
            have hkn : k + 1 ≠ n := fun h => hbad (.inr h)
            have hn5p : 1 ≤ n5 := by
              have := HOw.out.2.1
              have := List.length_pos_iff.2 hne
              omega
            have HCp := Lib.hid (HC.out.trans (comp_more (by have := HL.out; omega) hx (fun h => h.elim hne fun h => by have := List.drop_eq_nil_iff.1 h; have := HL.out; omega)))
            have hz : ((n5 : Int) == 0) = false := by simp; omega
            have hz2 : ((k : Int) == (n : Int) - 1) = false := by simp; omega
            clear hbad hx HC hne
            obtain ⟨g5, rfl⟩ := ownP_some HOw.out hn5p
            have HAl := Lib.hid (Qk.alts_any g5 n5 c5 B5 row wr HOw.out hn5p (by omega))
            obtain ⟨-, hB5s, V, hV, hOV, hAV, -⟩ := HRw.out
            have HV := Lib.hid hV
            have HOV := Lib.hid hOV
            have HAV := Lib.hid hAV
            have HAb := Lib.hid fun b (e : ownB A4 = some b) => (OwnE.ltB hOV b e).1
            clear hV hOV hAV
            have hB5' := hB5.out
            generalize T (ws.getD k []) = S at *
            go_wp2_with (first
                | (go_at_call 17; (with_reducible refine HAl.out.mono ?_); rintro e w2 ⟨A6, c6, rfl, hF, hb⟩; have HF := Lib.hid hF; have Hb := Lib.hid hb; have HOx := Lib.hid ((ownE_keptB HOV.out HAV.out hb).alloc (.cells #[.slice A6 (canon row).length c6] 36)); clear hF hb)
                | (at_builtin; refine wpList_append_elt_at rowElt rfl (.tmp 34) (.tmp 37) rfl (w.heap.size + 1) A4 nr c4 (cellsR M V) rfl HOx.out ⟨w2.heap.size, 0, none⟩ 1 1 [.slice A6 (canon row).length c6] rfl rfl (Blk.news (Blk.new w2 [.slice A6 (canon row).length c6] 36)) (by intro u hu; simp at hu; subst hu; rfl) (by omega) (by omega) (by unfold maxLen; omega) ?_; intro A7 c7 w3 ho7 hg7 hat7; have HM7 := Lib.hid (RowsC.more (w1 := w2) (w2 := w2.alloc (.cells #[.slice A6 (canon row).length c6] 36)) (A3 := A7) (c3 := c7) HRw.out HF.out Hb.out ((Below.refl _ _).alloc (Nat.le_refl _) _) (by have := hB5.out; omega) (fun V' _ h => by rw [ownE_one h HOx.out]; exact ho7) hg7 hat7); have HB7 := Lib.hid ((((Hb.out.mono hB5.out).alloc (Nat.le_trans hB5' (Nat.le_trans hB5s Hb.out.size)) _)).trans (below_grown hg7 (by have := Hb.out.size; simp; omega) (fun b e => HAb.out b e))); clear ho7 hg7 hat7))
            have HB8 := Lib.hid (hB.out.trans (HB7.out.mono (Nat.le_succ _)))
            have HK8 := Lib.hid (HBk.out.below HB7.out (Nat.lt_succ_self _))
            have HS8 := Lib.hid (Nat.le_trans (Nat.le_trans hB5' hB5s) HB7.out.size)
            have HO8 := Lib.hid (OwnP.nil w3 w3.heap.size (Nat.le_refl _))
            go_round
            case rel => exact ⟨k + 1, nr + 1, 0, c7, 0, w3.heap.size, A7, none, M ++ [canon row], [], by omega, by go_num, rfl, rfl, by omega, by omega, HCp, HM7, HO8, HK8, HB8, HS8⟩
            case measure => simp [intOf]; omega
        · rw [decide_eq_false hx] at hp
          have HCw := Lib.hid fun (he : splitE (ws.getD k []) = 0) => HC.out.trans (comp_word (by have := HL.out; omega) hx he)
          have HCb := Lib.hid fun (he : splitE (ws.getD k []) ≠ 0) => HC.out.trans (comp_bad (by have := HL.out; omega) hx he)
          clear hx HC
          generalize ws.getD k [] = x at *
          have HS := Lib.hid fun (cb : Nat) (W : World) (h : Bytes W (some ⟨wr.heap.size, 0, none⟩) x) => split_any (some ⟨wr.heap.size, 0, none⟩) x x.length cb W h rfl (by omega)
          unfold Splitted at HS
          dsimp only [pv] at HS
          have HOp := Lib.hid (split_ok hxA hxl)
          have HX := Lib.hid hxA
          have HXl := Lib.hid hxl
          clear hxA hxl
          go_upto_region 14 with (first
            | ((with_reducible apply at_slot 41); refine wpList_text rfl (.tmp 40) rfl x HX.out x.length rfl wr.heap.size rfl rfl ?_; intro cb w2 hbb hG; have HBb := Lib.hid hbb; have HG := Lib.hid hG.below; clear hbb hG)
            | (go_at_call 18; (with_reducible refine (HS.out _ _ HBb.out).mono ?_); rintro e w3 ⟨rfl, hb3⟩; have H3 := Lib.hid (HG.out.trans (hb3.mono HG.out.size)); clear hb3))
          have H4 := Lib.hid (H3.out.alloc H3.out.size (.cells #[.string (T (splitN x)), .string (T (splitV x))] 40))
          have R4 := Lib.hid (Blk.new w3 [.string (T (splitN x)), .string (T (splitV x))] 40)
          generalize hW4 : w3.alloc (.cells #[.string (T (splitN x)), .string (T (splitV x))] 40) = w4 at *
          clear hW4 H3 HG HBb HS
          generalize w3.heap.size = g3 at *
          have m0 := R4.out.cell (i := 0) rfl
          have m1 := R4.out.cell (i := 1) rfl
          have HB4 := Lib.hid (hB.out.trans (H4.out.mono hB.out.size))
          have HK4 := Lib.hid (HBk.out.below H4.out HBk.out.lt)
          have l0 := HK4.out.cell (i := 0) rfl
          have lf := HK4.out.frozen 0
          clear k0 kf hc0 hbl hp
          by_cases he : splitE x = 0
          · have HCp := Lib.hid (HCw.out he)
            have HO4 := Lib.hid (HOw.out.kept H4.out (Nat.le_refl _))
            have hB5s := HRw.out.2.1
            have HR4 := Lib.hid (HRw.out.kept (H4.out.mono hB5s))
            rw [he]
            clear he HCb HCw HX
            generalize splitN x = sn at *
            generalize splitV x = sv at *
            go_wp2_with (at_builtin; refine wpList_append_elt pairElt rfl (.tmp 49) (.tmp 51) rfl B5 A5 n5 c5 (cellsP row) rfl (HO4.out.2.2.alloc (.cells #[.string (T sn), .string (T sv)] 40)) ⟨w4.heap.size, 0, none⟩ 1 1 [.string (T sn), .string (T sv)] rfl rfl (Blk.news (Blk.new w4 [.string (T sn), .string (T sv)] 40)) (by intro u hu; simp at hu; rcases hu with rfl | rfl <;> rfl) (by omega) (by omega) ?_; intro A7 c7 w7 ho7 hb7; have HO7 := Lib.hid (show OwnP w7 B5 A7 (n5 + 1) c7 (row ++ [(sn, sv)]) from ⟨fun p hp => by rcases List.mem_append.1 hp with h | h; exact HO4.out.1 p h; rw [List.mem_singleton.1 h]; exact HOp.out, by rw [List.length_append, HO4.out.2.1]; rfl, by rw [cellsP_app]; exact ho7⟩); have H7 := Lib.hid (((Below.refl B5 w4).alloc (Nat.le_trans hB5s (H4.out.size)) (.cells #[.string (T sn), .string (T sv)] 40)).trans hb7); clear ho7 hb7)
            have HR7 := Lib.hid (HR4.out.kept H7.out)
            have HK7 := Lib.hid (HK4.out.below H7.out (by have := hB5.out; omega))
            have HB7 := Lib.hid (HB4.out.trans (H7.out.mono (by have := hB5.out; omega)))
            go_round
            case rel => exact ⟨k + 1, nr, n5 + 1, c4, c7, B5, A4, A7, M, row ++ [(sn, sv)], by omega, by go_num, rfl, rfl, by omega, by omega, HCp, HR7, HO7, HK7, HB7, hB5⟩
            case measure => simp [intOf]; omega
          · have HCp := Lib.hid (HCb.out he)
            have hbe : (splitE x != 0) = true := by simpa using he
            clear he HCb HCw HX HRw HOw
            generalize splitE x = se at *
            go_wp2_with fail
            refine bodyPost_ret (v := .tuple #[.agg #[.slice none 0 0], .int .i64 se]) (by simp [results_cell_tmp Try.results6, go_sem, l0, lf, Result.andThen]) rfl (compd_none HCp.out rfl ?_)
            (repeat (first | (with_reducible exact HB4.out) | refine Below.setCell ?_ (by simp) _ | refine Below.alloc ?_ (by simp) _ | refine below_drewN ?_ _))
      · obtain rfl : k = n := by omega
        have hdr : ws.drop k = [] := List.drop_eq_nil_of_le (by have := HL.out; omega)
        by_cases hrow : row = []
        · have hn0 : n5 = 0 := by have := HOw.out.2.1; rw [hrow] at this; simpa using this.symm
          have HCp := Lib.hid (show compM ws = (0, M) by rw [HC.out, hdr, comp, if_pos hrow])
          have HMt := Lib.hid fun v => (HRw.out.far (p := ⟨w.heap.size, 0, none⟩) (Nat.lt_succ_self _) v).mts
          have HFr := Lib.hid fun u (p : Addr) v (hp : p.block < w.heap.size) => ((HRw.out.far (p := ⟨w.heap.size, 0, none⟩) (Nat.lt_succ_self _) u).far (p := p) (Nat.lt_succ_of_lt hp) v).mts
          have HNr := Lib.hid HRw.out.1
          have HCr := Lib.hid (rowsC_cap HRw.out)
          have hg0 := HBk.out.lt
          have HBf := Lib.hid hg0
          subst hn0
          clear hrow hdr HC HRw HOw hg0
          go_wp2_with fail
          refine bodyPost_ret (v := .tuple #[.agg #[.slice A4 nr c4], .int .i64 0]) (by simp [results_cell_tmp Try.results6, go_sem, k0, kf, Result.andThen]) rfl ?_
          unfold Compd
          rw [HCp.out]
          exact ⟨A4, c4, by rw [HNr.out], HMt.out _, hB.out.setCell (p := ⟨w.heap.size, 0, none⟩) (Nat.le_refl _) _, HCr.out, HFr.out _⟩
        · have hn5p : 1 ≤ n5 := by
            have := HOw.out.2.1
            have := List.length_pos_iff.2 hrow
            omega
          have hz : decide (0 < (n5 : Int)) = true := by simp; omega
          have HCp := Lib.hid (show compM ws = (0, M ++ [canon row]) by rw [HC.out, hdr, comp, if_neg hrow])
          clear hrow hdr HC
          obtain ⟨g5, rfl⟩ := ownP_some HOw.out hn5p
          have HAl := Lib.hid (Qk.alts_any g5 n5 c5 B5 row wr HOw.out hn5p (by omega))
          obtain ⟨-, hB5s, V, hV, hOV, hAV, -⟩ := HRw.out
          have HV := Lib.hid hV
          have HOV := Lib.hid hOV
          have HAV := Lib.hid hAV
          have HAb := Lib.hid fun b (e : ownB A4 = some b) => (OwnE.ltB hOV b e).1
          clear hV hOV hAV
          have hB5' := hB5.out
          go_wp2_with (first
              | (go_at_call 17; (with_reducible refine HAl.out.mono ?_); rintro e w2 ⟨A6, c6, rfl, hF, hb⟩; have HF := Lib.hid hF; have Hb := Lib.hid hb; have HOx := Lib.hid ((ownE_keptB HOV.out HAV.out hb).alloc (.cells #[.slice A6 (canon row).length c6] 36)); clear hF hb)
              | (at_builtin; refine wpList_append_elt_at rowElt rfl (.tmp 57) (.tmp 60) rfl (w.heap.size + 1) A4 nr c4 (cellsR M V) rfl HOx.out ⟨w2.heap.size, 0, none⟩ 1 1 [.slice A6 (canon row).length c6] rfl rfl (Blk.news (Blk.new w2 [.slice A6 (canon row).length c6] 36)) (by intro u hu; simp at hu; subst hu; rfl) (by omega) (by omega) (by unfold maxLen; omega) ?_; intro A7 c7 w3 ho7 hg7 hat7; have HM7 := Lib.hid (RowsC.more (w1 := w2) (w2 := w2.alloc (.cells #[.slice A6 (canon row).length c6] 36)) (A3 := A7) (c3 := c7) HRw.out HF.out Hb.out ((Below.refl _ _).alloc (Nat.le_refl _) _) (by have := hB5.out; omega) (fun V' _ h => by rw [ownE_one h HOx.out]; exact ho7) hg7 hat7); have HB7 := Lib.hid ((((Hb.out.mono hB5.out).alloc (Nat.le_trans hB5' (Nat.le_trans hB5s Hb.out.size)) _)).trans (below_grown hg7 (by have := Hb.out.size; simp; omega) (fun b e => HAb.out b e))); clear ho7 hg7 hat7; have k8 := (HBk.out.below HB7.out (Nat.lt_succ_self _)).cell (i := 0) rfl; have f8 := (HBk.out.below HB7.out (Nat.lt_succ_self _)).frozen 0))
          refine bodyPost_ret (v := .tuple #[.agg #[.slice A7 (nr + 1) c7], .int .i64 0]) (by simp [results_cell_tmp Try.results6, go_sem, k8, f8, Result.andThen]) rfl ?_
          unfold Compd
          rw [HCp.out]
          exact ⟨A7, c7, by rw [HM7.out.1], (HM7.out.far (p := ⟨w.heap.size, 0, none⟩) (Nat.lt_succ_self _) _).mts, (hB.out.trans (HB7.out.mono (Nat.le_succ _))).setCell (p := ⟨w.heap.size, 0, none⟩) (Nat.le_refl _) _, rowsC_cap HM7.out, fun p v hp => ((HM7.out.far (p := ⟨w.heap.size, 0, none⟩) (Nat.lt_succ_self _) _).far (p := p) (Nat.lt_succ_of_lt hp) v).mts⟩
end Go.Proofs.Ytpfkhcgeblihcaa.Qm
