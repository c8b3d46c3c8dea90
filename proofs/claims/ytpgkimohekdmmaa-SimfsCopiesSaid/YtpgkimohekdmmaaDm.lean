/-
  Two maps told by plain words: texts to numbers, by a row of names; numbers to places of files.
-/
import Derived.Test.YtpgkimohekdmmaaUb
import Derived.Test.YtpgkimohekdmmaaKf
import Derived.Maps.RangeWalk
import Derived.Maps.OwnSet
import Derived.Sort.KeysCollected
namespace Go.Proofs.Ytpgkimohekdmmaa.Dm
open Go.ChangeShapes Go.WideShapes Go.ChangeAt Go.RowKit
open Bytes8 Blk8 Own8 Fa Fo Ua Kf Go.Maps
set_option linter.unusedVariables false
set_option linter.unusedSimpArgs false
set_option maxRecDepth 100000

abbrev DU := DataW Unit
def kS (n : List Int) : Lit := .string (T n).data.toList
def kI (i : Nat) : Lit := .int .i64 (i : Int)
def dI (i : Nat) : DU := .lit (.int .i64 (i : Int))
theorem lawS : Keyed Try.prog 9 := string_keyed Try.underlying9
theorem lawI : Keyed Try.prog 3 := int_keyed Try.underlying3
theorem kS_mk {n : List Int} (h : n.length ≤ maxLen) : keyOf Try.prog 9 (.string (T n)) = some (kS n) := WideMaps.keyOf_string_mk Try.underlying9 (by rw [T_size]; exact h)
theorem kI_wf {i : Nat} (h : i < 9223372036854775808) : (Lit.int .i64 (i : Int)).wf = true := WalkArith.wf_i64 (by omega)
theorem kI_mk {i : Nat} (h : i < 9223372036854775808) : keyOf Try.prog 3 (.int .i64 (i : Int)) = some (kI i) := keyOf_int_mk Try.underlying3 (kI_wf h)
theorem kS_key (n : List Int) : WideAt.IsKeyLit (kS n) := trivial
theorem kI_key (i : Nat) : WideAt.IsKeyLit (kI i) := trivial
theorem kS_inj {n m : List Int} (hn : AllB n) (hm : AllB m) (h : kS n = kS m) : n = m := by
  unfold kS at h
  injection h with h
  refine T_inj hn hm (ByteArray.ext (Array.toList_inj.1 h))
theorem kI_inj {i j : Nat} (h : kI i = kI j) : i = j := by
  unfold kI at h
  injection h with h1 h2
  omega
theorem dI_inj {i j : Nat} (h : dI i = dI j) : i = j := by
  unfold dI at h
  injection h with h
  injection h with h1 h2
  omega

/-! ## texts to numbers -/

theorem rN_mk {i : Nat} (h : i < 9223372036854775808) : (plainElem Try.prog 3) (.int .i64 (i : Int)) = some (dI i, []) := plainElem_int Try.underlying3 (kI_wf h)
structure NamesV (D : DU) (r : RowD) : Prop where
  tidy : Tidy D
  size : size D = r.length
  at_ : ∀ n, AllB n → ∀ z, D.atKey (kS n) z = match Ua.at_ r n with | some b => dI b | none => z
theorem NamesV.has {D : DU} {r : RowD} (h : NamesV D r) {n : List Int} (hn : AllB n) : Maps.has D (kS n) = (Ua.at_ r n).isSome := by
  have := h.at_ n hn
  cases ha : Ua.at_ r n with
  | none => simp only [ha] at this; exact has_false_of_atKey this
  | some b => simp only [ha] at this; exact has_true_of_atKey this
theorem NamesV.nil : NamesV (.map []) [] := ⟨tidy_empty, rfl, fun n _ z => rfl⟩
theorem NamesV.put {D : DU} {r : RowD} (h : NamesV D r) (hr : Rises r) {n : List Int} (hn : AllB n) (b : Nat) : NamesV (D.put (kS n) (dI b)) (Ua.put r n b) := by
  refine ⟨h.tidy.put (kS_key n) _, ?_, fun m hm z => ?_⟩
  · rw [size_put h.tidy, h.has hn, put_length hr, h.size]
  · rw [put_at]
    by_cases e : m = n
    · subst e
      rw [if_pos rfl, atKey_put_same h.tidy.isMap (kS_key m)]
    · rw [if_neg e, atKey_put_other (fun e2 => e (kS_inj hm hn e2))]
      exact h.at_ m hm z
theorem NamesV.del {D : DU} {r : RowD} (h : NamesV D r) (hr : Rises r) {n : List Int} (hn : AllB n) : NamesV (D.del (kS n)) (Ua.out r n) := by
  refine ⟨h.tidy.del _, ?_, fun m hm z => ?_⟩
  · have e := size_del (k := kS n) h.tidy
    rw [h.has hn, h.size] at e
    rw [out_length hr]
    split
    · rename_i h1; rw [if_pos h1] at e; omega
    · rename_i h1; rw [if_neg h1] at e; omega
  · rw [out_at]
    by_cases e : m = n
    · subst e
      rw [if_pos rfl, atKey_del_same]
    · rw [if_neg e, atKey_del_other (fun e2 => e (kS_inj hm hn e2))]
      exact h.at_ m hm z

/-! ## numbers to places -/
def rP : Value → Option (DU × List MemPlace)
  | .pointer (some ⟨g, 0, none⟩) => some (dI g, [])
  | .pointer none => some (.nil, [])
  | _ => none
theorem rP_mk (g : Nat) : rP (.pointer (some ⟨g, 0, none⟩)) = some (dI g, []) := rfl
theorem rP_inv {v : Value} {g : Nat} {ps : List MemPlace} (h : rP v = some (dI g, ps)) : v = .pointer (some ⟨g, 0, none⟩) := by
  unfold rP at h
  split at h
  · injection h with h
    injection h with h1 h2
    rw [dI_inj h1]
  · injection h with h
    injection h with h1 h2
    cases h1
  · cases h
structure FilesV (D : DU) (S : Nat → Bool) (gs : Nat → Nat) : Prop where
  tidy : Tidy D
  at_ : ∀ i, ∀ z, D.atKey (kI i) z = if S i = true then dI (gs i) else z
  keys : ∀ kl, Maps.has D kl = true → ∃ i, kl = kI i
theorem FilesV.has {D : DU} {S : Nat → Bool} {gs : Nat → Nat} (h : FilesV D S gs) (i : Nat) : Maps.has D (kI i) = S i := by
  have := h.at_ i
  cases hs : S i with
  | false => simp only [hs] at this; exact has_false_of_atKey (by simpa using this)
  | true => simp only [hs] at this; exact has_true_of_atKey (by simpa using this)
theorem FilesV.nil (gs : Nat → Nat) : FilesV (.map []) (fun _ => false) gs := ⟨tidy_empty, fun i z => by simp; rfl, fun kl h => by cases h⟩
theorem FilesV.put {D : DU} {S : Nat → Bool} {gs : Nat → Nat} (h : FilesV D S gs) (i g : Nat) : FilesV (D.put (kI i) (dI g)) (fun j => S j || j == i) (fun j => if j = i then g else gs j) := by
  refine ⟨h.tidy.put (kI_key i) _, fun j z => ?_, fun kl hk => ?_⟩
  · by_cases e : j = i
    · subst e
      rw [atKey_put_same h.tidy.isMap (kI_key j)]
      simp
    · rw [atKey_put_other (fun e2 => e (kI_inj e2)), h.at_ j z]
      simp [e]
  · by_cases e : kl = kI i
    · exact ⟨i, e⟩
    · rw [has_put_other e] at hk
      exact h.keys kl hk

/-! ## at the operations -/
section
variable {w : World} {b k : Nat} {D : DU}
theorem map_small {P : Program} {K : TypeId} {R : Value → Option (DU × List MemPlace)} (h : w.ownsMap P K R b k D) : w.ownsMap P K R b (Maps.size D) D := by
  obtain ⟨es, clock, hb, F, hs, rfl⟩ := h
  exact ⟨es, clock, hb, F, by simp [Maps.size, length_sorted], rfl⟩
theorem map_keptF {P : Program} {K : TypeId} {R : Value → Option (DU × List MemPlace)} {w' : World} {F : Nat → Prop} (h : w.ownsMap P K R b k D) (hk : KeptF F w w') (hb : ¬ F b) : w'.ownsMap P K R b k D := by
  have hlt := h.lt
  obtain ⟨es, clock, hb', F', hs, hD⟩ := h
  exact ⟨es, clock, (hk.block b hlt hb).trans hb', F', hs, hD⟩
theorem turned_size {w' : World} (h : w.mapTurned w' b) : w'.heap.size = w.heap.size := by
  obtain ⟨es, clock, es', clock', hb, rfl⟩ := h
  simp [ChangeMaps.setBlock]
theorem turned_keptF {w' : World} (h : w.mapTurned w' b) : KeptF (One b) w w' := (KeptF.grow _ h.grown).mono fun i hi => (Option.some.inj hi).symm
theorem zeroInt (w : World) : (zeroValue 3).run Try.prog w = .ok (.int .i64 0) w := by kernel_rfl
theorem zeroFile (w : World) : (zeroValue 57).run Try.prog w = .ok (.pointer none) w := by kernel_rfl
theorem look_name {r : RowD} (h : w.ownsMap Try.prog 9 (plainElem Try.prog 3) b k D) (hV : NamesV D r) {n : List Int} (hn : AllB n) (hl : n.length ≤ maxLen) :
    (Instr.lookup 53 (.map (some b)) (.string (T n)) false).run Try.prog w = .ok (.int .i64 (((at_ r n).getD 0 : Nat) : Int)) w := by
  obtain ⟨c, hrun, hat, _⟩ := h.lookup_int lawS Try.underlying53 Try.underlying3 (zeroInt w) (kS_mk hl)
  rw [hrun]
  have e := hV.at_ n hn (.lit (.int .i64 0))
  rw [hat] at e
  cases ha : at_ r n with
  | none => simp only [ha] at e; injection e with e; injection e with e1 e2; subst e2; rfl
  | some x => simp only [ha] at e; unfold dI at e; injection e with e; injection e with e1 e2; subst e2; rfl
theorem look_file {S : Nat → Bool} {gs : Nat → Nat} (h : w.ownsMap Try.prog 3 rP b k D) (hV : FilesV D S gs) {i : Nat} (hi : S i = true) (hl : i < 9223372036854775808) :
    (Instr.lookup 52 (.map (some b)) (.int .i64 (i : Int)) false).run Try.prog w = .ok (.pointer (some ⟨gs i, 0, none⟩)) w := by
  obtain ⟨v, ps, hrun, hv⟩ := h.lookup lawI Try.underlying52 (zeroFile w) (zd := .nil) (zp := []) rfl (kI_mk hl)
  rw [hrun]
  rw [hV.at_ i, if_pos hi] at hv
  rw [rP_inv hv]
theorem put_name {r : RowD} (h : w.ownsMap Try.prog 9 (plainElem Try.prog 3) b k D) (hk : k < maxLen) (hV : NamesV D r) (hr : Rises r) {n : List Int} (hn : AllB n) (hl : n.length ≤ maxLen) {i : Nat} (hi : i < 9223372036854775808) :
    ∃ w' D', (Instr.mapUpdate 53 (.map (some b)) (.string (T n)) (.int .i64 (i : Int))).run Try.prog w = .ok () w' ∧ w'.ownsMap Try.prog 9 (plainElem Try.prog 3) b (k + 1) D' ∧ NamesV D' (Ua.put r n i) ∧ w.mapTurned w' b := by
  obtain ⟨w', hrun, h1, h2⟩ := h.store lawS Try.underlying53 hk (kS_mk hl) (rN_mk hi)
  exact ⟨w', _, hrun, h1, hV.put hr hn i, h2⟩
theorem del_name {r : RowD} (h : w.ownsMap Try.prog 9 (plainElem Try.prog 3) b k D) (hV : NamesV D r) (hr : Rises r) {n : List Int} (hn : AllB n) (hl : n.length ≤ maxLen) (ty : TypeId) :
    ∃ w' D', (Builtin.delete_ #[53, 9] ty #[.map (some b), .string (T n)]).run Try.prog w = .ok (.tuple #[]) w' ∧ w'.ownsMap Try.prog 9 (plainElem Try.prog 3) b k D' ∧ NamesV D' (Ua.out r n) ∧ w.mapTurned w' b := by
  obtain ⟨w', hrun, h1, h2⟩ := h.drop lawS Try.underlying53 (kS_mk hl) ty
  exact ⟨w', _, hrun, h1, hV.del hr hn, h2⟩
theorem put_file {S : Nat → Bool} {gs : Nat → Nat} (h : w.ownsMap Try.prog 3 rP b k D) (hk : k < maxLen) (hV : FilesV D S gs) {i : Nat} (hi : i < 9223372036854775808) (g : Nat) :
    ∃ w' D', (Instr.mapUpdate 52 (.map (some b)) (.int .i64 (i : Int)) (.pointer (some ⟨g, 0, none⟩))).run Try.prog w = .ok () w' ∧ w'.ownsMap Try.prog 3 rP b (k + 1) D' ∧ FilesV D' (fun j => S j || j == i) (fun j => if j = i then g else gs j) ∧ w.mapTurned w' b := by
  obtain ⟨w', hrun, h1, h2⟩ := h.store lawI Try.underlying52 hk (kI_mk hi) (rP_mk g)
  exact ⟨w', _, hrun, h1, hV.put i g, h2⟩
end
end Go.Proofs.Ytpgkimohekdmmaa.Dm
