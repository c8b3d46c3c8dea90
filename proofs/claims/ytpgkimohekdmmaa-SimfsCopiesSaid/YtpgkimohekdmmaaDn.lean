/-
  The program's directory: the names of all files, in order; a new one.
-/
import Derived.Test.YtpgkimohekdmmaaIt
import Derived.Test.YtpgkimohekdmmaaDd
namespace Go.Proofs.Ytpgkimohekdmmaa.Dn
open Go.ChangeShapes Go.WideShapes Go.ChangeAt Go.RowKit
open Bytes8 Blk8 Own8 OwnA OwnM OwnE Fa Fo Ta Ua Kf Dm Dp Da Db Dc Dd Sfb Pv8 Go.Maps
set_option linter.unusedVariables false
set_option linter.unusedSimpArgs false
set_option maxRecDepth 100000

def bs8 (n : List Int) : List UInt8 := (T n).data.toList
theorem bs8_eq (n : List Int) : bs8 n = n.map fun c => c.toNat.toUInt8 := by
  have := T_toList n
  rw [ByteArray.toList_eq] at this
  exact this
theorem bs8_inj {n m : List Int} (hn : AllB n) (hm : AllB m) (h : bs8 n = bs8 m) : n = m := kS_inj hn hm (by unfold kS; exact congrArg _ h)
theorem bs8_num (x : List UInt8) : ∃ n, AllB n ∧ bs8 n = x := by
  refine ⟨num ⟨x.toArray⟩, num_all _, ?_⟩
  unfold bs8
  rw [T_num]
theorem lt_not (l m : List Int) (hl : AllB l) (hm : AllB m) (h : ltL l m = true) : bs8 l ≤ bs8 m := by
  rw [bs8_eq, bs8_eq]
  induction l generalizing m with
  | nil => exact List.nil_le _
  | cons a l ih =>
    cases m with
    | nil => simp [ltL] at h
    | cons b m =>
      have ha := hl a (by simp)
      have hb := hm b (by simp)
      unfold ltL at h
      rw [List.map_cons, List.map_cons, List.cons_le_cons_iff, u8_lt ha hb]
      by_cases h1 : a < b
      · exact .inl h1
      · rw [if_neg h1] at h
        by_cases h2 : b < a
        · rw [if_pos h2] at h; cases h
        · rw [if_neg h2] at h
          refine .inr ⟨by rw [show a = b by omega], ih m (fun x hx => hl x (by simp [hx])) (fun x hx => hm x (by simp [hx])) h⟩

/-- The keys, sorted, are the names in their order. -/
theorem sorted_names {w : World} {b k : Nat} {D : DU} {r : RowD} {ss : List (List UInt8)} (h : w.ownsMap Try.prog 9 (plainElem Try.prog 3) b k D) (hV : NamesV D r) (hr : Rises r) (hA : ∀ p ∈ r, AllB p.1) (hp : ss.Perm (strKeys D)) :
    ss.mergeSort (fun x y => decide (x ≤ y)) = r.map fun p => bs8 p.1 := by
  obtain ⟨es, rfl, hko⟩ := h.keysOf
  obtain ⟨es', e, hpw⟩ := hV.tidy
  obtain rfl : es = es' := by injection e
  have hks : ∀ p ∈ es, ∃ x, p.1 = .string x := fun p hp => by
    obtain ⟨key, hk⟩ := hko p hp
    obtain ⟨x, _, hx, _⟩ := Maps.keyOf_str Try.underlying9 hk
    exact ⟨x, hx⟩
  have hnd : (r.map fun p => bs8 p.1).Nodup := by
    rw [List.Nodup, List.pairwise_map]
    refine List.Pairwise.imp_of_mem (fun {p q} hp hq hlt e => ?_) hr
    exact lt_ne hlt (bs8_inj (hA p hp) (hA q hq) e)
  have hm : ∀ x, x ∈ (r.map fun p => bs8 p.1) ↔ Maps.has (DataW.map es : DU) (.string x) = true := fun x => by
    obtain ⟨n, hn, rfl⟩ := bs8_num x
    rw [show (Lit.string (bs8 n)) = kS n from rfl, hV.has hn]
    constructor
    · intro hx
      obtain ⟨p, hp, he⟩ := List.mem_map.1 hx
      have := bs8_inj (hA p hp) hn he
      rw [← this, at_mem hr (show (p.1, p.2) ∈ r from hp)]; rfl
    · intro hx
      cases ha : Ua.at_ r n with
      | none => rw [ha] at hx; cases hx
      | some i => exact List.mem_map.2 ⟨(n, i), at_some ha, rfl⟩
  have hperm := perm_strKeys (H := Unit) hpw hks hnd hm
  have e1 := mergeSort_of_perm (hp.trans hperm.symm)
  refine e1.trans (List.mergeSort_of_pairwise ?_)
  rw [List.pairwise_map]
  exact List.Pairwise.imp_of_mem (fun {p q} hp hq hlt => by simpa [leB] using lt_not _ _ (hA p hp) (hA q hq) hlt) hr

/-- Texts of the call's own, all new. -/
def NewTexts (ns : List (List Int)) (w : World) (e : Ending) (w' : World) : Prop := ∃ A c, e = .returned (.slice A ns.length c) ∧ OwnE 9 1 w' 0 A ns.length c (cellsT ns) ∧ (∀ k, ownB A = some k → w.heap.size ≤ k) ∧ Below w.heap.size w w'
theorem NewTexts.txts {ns : List (List Int)} {w w' : World} {A : Option Addr} {c : Nat} (h : OwnE 9 1 w' 0 A ns.length c (cellsT ns)) : OwnT w' 0 A ns.length c ns := ⟨rfl, h⟩

set_option maxHeartbeats 1000000 in
theorem names_any (w : World) (own : Nat → Nat) (g : Nat) (d : Dir) (h : DirP w own g d) :
    Calls Try.prog 14 #[.pointer (some ⟨g, 0, none⟩)] w (NewTexts d.names w) := by
  have hgood := h.good
  obtain ⟨fz, Mf, Mn, Df, Dn, A, n, c, us, S, gs, hc, _⟩ := h
  have c6 := hc.blk.cell (i := 6) rfl
  have c3 := hc.blk.cell (i := 3) rfl
  unfold Dir.names
  cases hoff : d.off with
  | true =>
    rw [hoff] at c6
    rw [if_pos rfl]
    clear hc hgood
    go_enter Try.func14, Try.ntmps14
    go_wp2
    go_ret
    exact ⟨none, 0, rfl, OwnE.nil _ _ (Nat.zero_le _), (fun k e => by cases e), Below.refl _ _⟩
  | false =>
    rw [hoff] at c6
    rw [if_neg (by simp)]
    have hsz : Maps.size Dn ≤ 24 := by rw [hc.vn.size]; exact hgood.row.few
    have HS := Lib.hid (It.sorted_s Mn _ Dn _ w hc.mn (by unfold maxLen; omega) (by omega))
    have HE := Lib.hid fun ss hp => sorted_names (ss := ss) hc.mn hc.vn hgood.row.rises (fun p hp => (nmOk_all (hgood.row.names p hp)).1) hp
    clear hc hgood
    go_enter Try.func14, Try.ntmps14
    go_wp2_with (first
      | (go_at_call 35; (with_reducible refine (It.keys_s _ _).mono ?_); rintro e w1 ⟨rfl, rfl⟩)
      | (go_at_call 34; (with_reducible refine HS.out.mono ?_); rintro e w2 ⟨v, ss, rfl, hp, hrow, hnil, hb⟩))
    go_ret
    have e1 := HE.out ss hp
    have hlen : ss.length = (d.row.map (·.1)).length := by
      have := congrArg List.length e1
      rw [List.length_mergeSort, List.length_map] at this
      rw [this, List.length_map]
    have e2 : (ss.mergeSort (fun x y => decide (x ≤ y))).map Go.Proofs.encStr = cellsT (d.row.map (·.1)) := by
      rw [e1]
      unfold cellsT
      rw [List.map_map, List.map_map]
      refine List.map_congr_left fun p _ => ?_
      show Value.string ⟨(T p.1).data.toList.toArray⟩ = .string (T p.1)
      rw [Array.toArray_toList]
    rw [e2, hlen] at hrow
    have hb2 : Below w.heap.size w w2 := ((Below.refl w.heap.size w).alloc (Nat.le_refl _) _).trans (hb.mono (by simp))
    rcases hrow.2 with ⟨rfl, h0⟩ | ⟨q, cap, cur, rfl, hq, hq2⟩
    · refine ⟨none, 0, by rw [h0]; rfl, ⟨Nat.zero_le _, hrow.1, .inl ⟨by rw [h0], h0⟩⟩, (fun k e => by cases e), hb2⟩
    · refine ⟨_, _, rfl, ⟨Nat.zero_le _, hrow.1, .inr ⟨q, cap, cur, rfl, Nat.zero_le _, hq2⟩⟩, fun k e => ?_, hb2⟩
      have : q = k := Option.some.inj e
      simp at hq
      omega

/-- A new directory. -/
theorem dir_new (w : World) (room : Nat) (hroom : room ≤ 1000000000) :
    ∃ own, DirP ((((w.alloc (.map #[] 0)).alloc (.map #[] 0))).alloc (.cells #[.int .i64 (room : Int), .int .i64 0, .map (some w.heap.size), .map (some (w.heap.size + 1)), .slice none 0 0, .int .i64 (-1), .bool false] 56)) own (w.heap.size + 2) (Dir.new room) ∧ ∀ k, k < w.heap.size → own k = 0 := by
  refine ⟨fun k => if w.heap.size ≤ k ∧ k < w.heap.size + 3 then 1 else 0, ⟨-1, w.heap.size, w.heap.size + 1, .map [], .map [], none, 0, 0, [], fun _ => false, fun _ => 0, ?_, good_new _, rfl, rfl, (fun j hj => absurd hj (by simp)), fun r hr p hp => ?_⟩, fun k hk => if_neg (by omega)⟩
  · have hs1 : (w.alloc (.map #[] 0)).heap.size = w.heap.size + 1 := by simp
    have hs2 : ((w.alloc (.map #[] 0)).alloc (.map #[] 0)).heap.size = w.heap.size + 2 := by simp
    exact {
      blk := Blk.new_at _ _ _ _ hs2
      mf := ((World.ownsMap_made w _ _ _).alloc _).alloc _
      vf := FilesV.nil _
      mn := by
        have := (World.ownsMap_made (w.alloc (.map #[] 0)) Try.prog 9 (plainElem (H := Unit) Try.prog 3)).alloc (.cells #[.int .i64 (room : Int), .int .i64 0, .map (some w.heap.size), .map (some (w.heap.size + 1)), .slice none 0 0, .int .i64 (-1), .bool false] 56)
        rw [hs1] at this
        exact this
      vn := NamesV.nil
      pend := OwnE.nil _ _ (Nat.zero_le _)
      each := fun u hu => by cases hu
      file := fun i hi => by cases hi
      tg := by simp
      tMf := by simp
      tMn := by simp
      tA := fun k e => by cases e
      ne := ⟨by omega, by omega, by omega⟩
      foot := fun k h0 => by
        by_cases hk : w.heap.size ≤ k ∧ k < w.heap.size + 3
        · simp; omega
        · simp only [if_neg hk] at h0; exact absurd rfl h0
      fz64 := by omega
      szf := by show 0 ≤ _; omega
      mmax := by show 0 ≤ _; omega
      pmax := by omega
      rmax := hroom }
  · simp only [Dir.new, List.nil_append, List.mem_cons, List.not_mem_nil, or_false] at hr
    rw [hr] at hp; cases hp

theorem new_any (w : World) (room : Int) :
    Calls Try.prog 9 #[.int .i64 room] w fun e w' => if room < 4096 ∨ 1048576 < room then e = .returned (.tuple #[.pointer none, .int .i64 1]) ∧ w' = w
      else ∃ g, e = .returned (.tuple #[.pointer (some ⟨g, 0, none⟩), .int .i64 0]) ∧ ∃ own, DirP w' own g (Dir.new room.toNat) ∧ (∀ k, k < w.heap.size → own k = 0) ∧ Below w.heap.size w w' := by
  have hmm := @run_makeMap Try.prog
  by_cases h1 : room < 4096
  · go_enter Try.func9, Try.ntmps9
    go_wp2
    go_ret2
    exact ⟨rfl, rfl⟩
  · by_cases h2 : 1048576 < room
    · go_enter Try.func9, Try.ntmps9
      go_wp2
      go_ret2
      exact ⟨rfl, rfl⟩
    · obtain ⟨r, rfl⟩ := Int.eq_ofNat_of_zero_le (show 0 ≤ room by omega)
      have HD := Lib.hid (dir_new w r (by omega))
      go_enter Try.func9, Try.ntmps9
      go_wp2
      go_ret2
      obtain ⟨own, h3, h4⟩ := HD.out
      exact ⟨_, rfl, own, h3, h4, (((Below.refl w.heap.size w).alloc (Nat.le_refl _) _).alloc (by simp) _).alloc (by simp; omega) _⟩
end Go.Proofs.Ytpgkimohekdmmaa.Dn
