/-
  The program's directory: names, what is asked first, a file by its name, the fuse.
-/
import Derived.Test.YtpgkimohekdmmaaDp
import Derived.BigQuiet
namespace Go.Proofs.Ytpgkimohekdmmaa.Da
open Go.ChangeShapes Go.WideShapes Go.ChangeAt Go.RowKit
open Bytes8 Blk8 Own8 OwnA OwnM OwnE Fa Fo Ta Ua Kf Dm Dp Sfb Pv8 Go.Maps
set_option linter.unusedVariables false
set_option linter.unusedSimpArgs false
set_option maxRecDepth 100000

theorem nmOk_yes {l : List Int} (h1 : 1 ≤ l.length) (h2 : l.length ≤ 96) (h : ∀ j, j < l.length → 33 ≤ l.getD j 0 ∧ l.getD j 0 ≤ 126) : nmOk l = true := by
  unfold nmOk
  rw [decide_eq_true h1, decide_eq_true h2]
  simp only [Bool.true_and, List.all_eq_true, Bool.and_eq_true, decide_eq_true_eq]
  intro c hc
  obtain ⟨j, hj, rfl⟩ := List.getElem_of_mem hc
  have := h j hj
  rwa [List.getD_eq_getElem?_getD, List.getElem?_eq_getElem hj] at this
theorem nmOk_no {l : List Int} {j : Nat} (hj : j < l.length) (h : ¬ (33 ≤ l.getD j 0 ∧ l.getD j 0 ≤ 126)) : nmOk l = false := by
  cases h1 : nmOk l with
  | false => rfl
  | true =>
    unfold nmOk at h1
    simp only [Bool.and_eq_true, decide_eq_true_eq, List.all_eq_true] at h1
    exact absurd (h1.2 (l.getD j 0) (by rw [List.getD_eq_getElem?_getD, List.getElem?_eq_getElem hj]; exact List.getElem_mem hj)) h
theorem nmOk_len {l : List Int} (h : nmOk l = true) : 1 ≤ l.length ∧ l.length ≤ 96 := (nmOk_all h).2

theorem isName_any (l : List Int) (hA : AllB l) (w : World) : Calls Try.prog 49 #[.string (T l)] w fun e w' => e = .returned (.bool (nmOk l)) ∧ w = w' := by
  have hsz := T_size l
  have HI := Lib.hid (index_at l hA)
  by_cases hlen : l.length = 0
  · have he : nmOk l = false := by
      obtain rfl := List.eq_nil_of_length_eq_zero hlen
      rfl
    rw [he]
    generalize T l = S at *
    clear HI
    go_enter Try.func49, Try.ntmps49
    go_wp2
    go_ret
    exact ⟨rfl, rfl⟩
  by_cases h96 : 96 < l.length
  · have he : nmOk l = false := by
      cases h : nmOk l with
      | false => rfl
      | true => have := nmOk_len h; omega
    rw [he]
    have hne : ((l.length : Int) == 0) = false := beq_eq_false_iff_ne.2 (by omega)
    generalize T l = S at *
    clear HI
    go_enter Try.func49, Try.ntmps49
    go_wp2
    go_ret
    exact ⟨rfl, rfl⟩
  have HY := Lib.hid (fun h => nmOk_yes (l := l) (by omega) (by omega) h)
  have HN := Lib.hid (fun j hj h => nmOk_no (l := l) (j := j) hj h)
  have HC := Lib.hid fun j => hA.at_ j
  have hne : ((l.length : Int) == 0) = false := beq_eq_false_iff_ne.2 (by omega)
  generalize hL : l.length = len at *
  have HL := Lib.hid hL
  clear hL
  generalize T l = S at *
  go_enter Try.func49, Try.ntmps49
  go_wp2
  go_loop [14] (fun i => ∃ k : Nat, k ≤ len ∧ i = .int .i64 (k : Int) ∧ Hid (∀ j, j < k → 33 ≤ l.getD j 0 ∧ l.getD j 0 ≤ 126)) (fun i => len - (intOf i).toNat)
  case atStart => exact ⟨0, by omega, rfl, Lib.hid fun j hj => absurd hj (by omega)⟩
  case round =>
    obtain ⟨k, hk, rfl, hall⟩ := hrel
    rcases Nat.lt_or_ge k len with hlt | hge
    · have hidx := HI.out k (by have := HL.out; omega)
      have hin : (k : Int) < (len : Int) := by omega
      have hk1 : k ≤ 96 := by omega
      obtain ⟨c1, c2⟩ := HC.out k
      have HNk := Lib.hid (HN.out k hlt)
      have HKk := Lib.hid (fun (h : 33 ≤ l.getD k 0 ∧ l.getD k 0 ≤ 126) j (hj : j < k + 1) => (by
        rcases Nat.lt_or_ge j k with h1 | h1
        · exact hall.out j h1
        · obtain rfl : j = k := by omega
          exact h : 33 ≤ l.getD j 0 ∧ l.getD j 0 ≤ 126))
      clear hall
      generalize l.getD k 0 = c at *
      by_cases hc1 : c < 33
      · have hno := HNk.out (by omega)
        go_wp2
        go_ret
        exact ⟨by first | rfl | rw [hno], rfl⟩
      · by_cases hc2 : 126 < c
        · have hno := HNk.out (by omega)
          go_wp2
          go_ret
          exact ⟨by first | rfl | rw [hno], rfl⟩
        · have HKk := Lib.hid (HKk.out (by omega))
          clear HNk
          go_wp2
          go_round
          case rel => exact ⟨k + 1, by omega, by go_num, HKk⟩
          case measure => simp [intOf]; omega
    · obtain rfl : k = len := by omega
      have hin : ¬ ((k : Int) < (k : Int)) := by omega
      have hy := HY.out hall.out
      clear hall
      go_wp2
      go_ret
      exact ⟨by first | rfl | rw [hy], rfl⟩

/-- What is asked of names. -/
def askL (off : Bool) (ns : List (List Int)) : Int := if off = true then 18 else if ns.all nmOk = true then 0 else 1

theorem amiss_any (w : World) (own : Nat → Nat) (g : Nat) (d : Dir) (h : DirP w own g d) (a : Option Addr) (n c : Nat) (ns : List (List Int)) (hn : ns.length = n) (hT : Txts w a ns) (hA : ∀ l ∈ ns, AllB l) (hmax : n ≤ 1000000) :
    Calls Try.prog 29 #[.pointer (some ⟨g, 0, none⟩), .slice a n c] w fun e w' => e = .returned (.int .i64 (askL d.off ns)) ∧ w = w' := by
  obtain ⟨fz, Mf, Mn, Df, Dn, A, pn, pc, us, S, gs, hc, _⟩ := h
  have c6 := hc.blk.cell (i := 6) rfl
  clear hc
  unfold askL
  cases hoff : d.off with
  | true =>
    rw [hoff] at c6
    rw [if_pos rfl]
    clear hT
    go_enter Try.func29, Try.ntmps29
    go_wp2
    go_ret
    exact ⟨rfl, rfl⟩
  | false =>
    rw [hoff] at c6
    rw [if_neg (by simp)]
    have HT := Lib.hid hT
    have HA := Lib.hid hA
    have HN := Lib.hid hn
    clear hT hA hn
    go_enter Try.func29, Try.ntmps29
    go_wp2
    go_loop [13] (fun i => ∃ k : Nat, k ≤ n ∧ i = .int .i64 (k : Int) ∧ Hid (∀ j, j < k → nmOk (ns.getD j []) = true)) (fun i => n - (intOf i).toNat)
    case atStart => exact ⟨0, by omega, rfl, Lib.hid fun j hj => absurd hj (by omega)⟩
    case round =>
      obtain ⟨k, hk, rfl, hall⟩ := hrel
      rcases Nat.lt_or_ge k n with hlt | hge
      · have hin : (k : Int) < (n : Int) := by omega
        have hk2 : k < ns.length := by rw [HN.out]; exact hlt
        obtain ⟨b, off, rfl, hblt, hcell⟩ := HT.out k hk2
        have hmem : ns.getD k [] ∈ ns := by rw [List.getD_eq_getElem?_getD, List.getElem?_eq_getElem hk2]; exact List.getElem_mem hk2
        have HC := Lib.hid fun w => isName_any (ns.getD k []) (HA.out _ hmem) w
        have hex : nmOk (ns.getD k []) = false → ns.all nmOk = false := fun h => by
          rw [List.all_eq_false]
          exact ⟨_, hmem, by rw [h]; simp⟩
        have HK := Lib.hid (fun (h : nmOk (ns.getD k []) = true) j (hj : j < k + 1) => (by
          rcases Nat.lt_or_ge j k with h1 | h1
          · exact hall.out j h1
          · obtain rfl : j = k := by omega
            exact h : nmOk (ns.getD j []) = true))
        clear hall
        cases hb : nmOk (ns.getD k []) with
        | true =>
          have HK := Lib.hid (HK.out hb)
          rw [hb] at HC
          clear hb hex
          generalize T (ns.getD k []) = X at *
          go_wp2_with (go_at_call 49; (with_reducible refine (HC.out _).mono ?_); rintro e w' ⟨rfl, rfl⟩)
          go_round
          case rel => exact ⟨k + 1, by omega, by go_num, HK⟩
          case measure => simp [intOf]; omega
        | false =>
          rw [hb] at HC
          have hno := hex hb
          clear hb hex HK
          generalize T (ns.getD k []) = X at *
          go_wp2_with (go_at_call 49; (with_reducible refine (HC.out _).mono ?_); rintro e w' ⟨rfl, rfl⟩)
          all_goals go_ret
          all_goals exact ⟨by first | rfl | (rw [hno]; rfl), rfl⟩
      · obtain rfl : k = n := by omega
        have hin : ¬ ((k : Int) < (k : Int)) := by omega
        have hy : ns.all nmOk = true := by
          rw [List.all_eq_true]
          intro x hx
          obtain ⟨j, hj, rfl⟩ := List.getElem_of_mem hx
          have := hall.out j (by rw [← HN.out]; exact hj)
          rwa [List.getD_eq_getElem?_getD, List.getElem?_eq_getElem hj] at this
        clear hall
        go_wp2
        go_ret
        exact ⟨by first | rfl | rw [if_pos hy], rfl⟩

theorem askL_nil (d : Dir) : askL d.off [] = if d.off = true then 18 else 0 := by unfold askL; simp
theorem askL_one (d : Dir) (n : List Int) : askL d.off [n] = d.ask n := by unfold askL Dir.ask; simp

theorem find_any (w : World) (own : Nat → Nat) (g : Nat) (d : Dir) (h : DirP w own g d) (n : List Int) (hA : AllB n) (hl : n.length ≤ maxLen) :
    Calls Try.prog 33 #[.pointer (some ⟨g, 0, none⟩), .string (T n)] w fun e w' => e = .returned (.tuple #[.int .i64 ((d.file n).2 : Nat), .int .i64 (d.file n).1]) ∧ Below w.heap.size w w' := by
  have b1 := (Below.refl w.heap.size w).alloc (Nat.le_refl _) (.cells #[.string (T n)] 9)
  have hT : Txts (w.alloc (.cells #[.string (T n)] 9)) (some ⟨w.heap.size, 0, none⟩) [n] := fun i hi => by
    obtain rfl : i = 0 := by simpa using hi
    exact ⟨w.heap.size, 0, rfl, by simp, (Blk.new w [.string (T n)] 9).cell rfl⟩
  have HAm := Lib.hid (amiss_any _ own g d (h.below b1) (some ⟨w.heap.size, 0, none⟩) 1 1 [n] rfl hT (fun l hl => by simp at hl; subst hl; exact hA) (by omega))
  rw [askL_one] at HAm
  have h' := h.below b1
  have hgood := h.good
  obtain ⟨fz, Mf, Mn, Df, Dn, A, pn, pc, us, S, gs, hc, _⟩ := h'
  have c3 := hc.blk.cell (i := 3) rfl
  have hlk := look_name hc.mn hc.vn hA hl
  have B1 := Lib.hid b1
  have hids := fun b (hb : at_ d.row n = some b) => hgood.row.ids _ (at_some hb)
  have hmm := hc.mmax
  clear hc hT b1 h hgood
  unfold Dir.file
  by_cases hask : d.ask n = 0
  · rw [hask] at HAm ⊢
    rw [if_neg (by simp)]
    cases hat : at_ d.row n with
    | none =>
      rw [hat] at hlk
      have hlk : (Instr.lookup 53 (.map (some Mn)) (.string (T n)) false).run Try.prog (w.alloc (.cells #[.string (T n)] 9)) = .ok (.int .i64 0) (w.alloc (.cells #[.string (T n)] 9)) := hlk
      clear hids
      generalize T n = X at *
      go_enter Try.func33, Try.ntmps33
      go_wp2_with (go_at_call 29; (with_reducible refine HAm.out.mono ?_); rintro e w' ⟨rfl, rfl⟩)
      go_ret2
      exact ⟨rfl, B1.out⟩
    | some b =>
      rw [hat] at hlk
      simp only [Option.getD_some] at hlk
      have hid := hids b hat
      simp only at hid
      have hne : ((b : Int) == 0) = false := beq_eq_false_iff_ne.2 (by omega)
      clear hids
      generalize T n = X at *
      go_enter Try.func33, Try.ntmps33
      go_wp2_with (go_at_call 29; (with_reducible refine HAm.out.mono ?_); rintro e w' ⟨rfl, rfl⟩)
      go_ret2
      exact ⟨rfl, B1.out⟩
  · rw [if_pos hask]
    clear hlk hids
    have hne : ((d.ask n : Int) != 0) = true := by simp [hask]
    have hne2 : ((d.ask n : Int) == 0) = false := beq_eq_false_iff_ne.2 hask
    generalize d.ask n = q at *
    generalize T n = X at *
    go_enter Try.func33, Try.ntmps33
    go_wp2_with (go_at_call 29; (with_reducible refine HAm.out.mono ?_); rintro e w' ⟨rfl, rfl⟩)
    go_ret2
    exact ⟨rfl, B1.out⟩
end Go.Proofs.Ytpgkimohekdmmaa.Da
