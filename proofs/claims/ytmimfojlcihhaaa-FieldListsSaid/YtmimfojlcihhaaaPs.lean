/-
  Pairs that may be, sorted: what the library's sort makes of them (its contract: the shelf's).
-/
import Derived.Test.YtmimfojlcihhaaaPu
import Derived.Test.YtmimfojlcihhaaaSeqP
import Derived.Test.YtmimfojlcihhaaaSl
namespace Go.Proofs.Ytmimfojlcihhaaa.Ps8
open Go.ChangeShapes Go.WideShapes Go.ChangeAt Go.RowKit Go.Lib Go.Sort Go.Shelf
open Bytes8 Blk8 Own8 OwnE Fa Fb Fc Fo In8 Pr8 Pa8
set_option linter.unusedVariables false
set_option linter.unusedSimpArgs false

/-- Of pairs that may be: unlike ones have unlike payloads. -/
theorem pay_inj {n v m u : List Int} (h : flawI n v = 0) (k : flawI m u = 0) (e : pay n v = pay m u) : n = m ∧ v = u := by
  obtain ⟨_, h1, h2⟩ := split_pay h
  obtain ⟨_, k1, k2⟩ := split_pay k
  rw [e] at h1 h2
  exact ⟨h1.symm.trans k1, h2.symm.trans k2⟩
def okR (p : PR) : Prop := AllB p.1 ∧ AllB p.2 ∧ flawI p.1 p.2 = 0
def ltP (p q : PR) : Bool := lessP p.1 p.2 q.1 q.2
theorem ltP_total {p q : PR} (hp : okR p) (hq : okR q) (h : ltP p q = false) (k : ltP q p = false) : p = q := by
  obtain ⟨e1, e2⟩ := pay_inj hp.2.2 hq.2.2 (ltL_total _ _ h k)
  exact Prod.ext e1 e2
abbrev RP := { p : PR // okR p }
theorem okA : okR ([65], []) := ⟨Ff.small_all rfl, Ff.small_all rfl, by decide⟩
instance : Inhabited RP := ⟨⟨([65], []), okA⟩⟩
def encR (x : RP) : List Value := [.string (T x.1.1), .string (T x.1.2)]
def cfR (x y : RP) : Int := cmpI x.1.1 x.1.2 y.1.1 y.1.2
theorem ltR (x y : RP) : ltOf cfR x y = ltP x.1 y.1 := cmpI_lt x.2.1 x.2.2.1 y.2.1 y.2.2.1
theorem swoR : Go.Sort.SWO (ltOf cfR) where
  irrefl x := by rw [ltR]; exact ltL_irrefl _
  trans x y z h1 h2 := by rw [ltR] at *; exact ltL_trans _ _ _ h1 h2
  ntrans x y z h1 h2 := by
    rw [ltR] at *
    cases h : ltP x.1 z.1 with
    | false => rfl
    | true =>
      cases hyx : ltP y.1 x.1 with
      | true => rw [show ltP y.1 z.1 = true from ltL_trans _ _ _ hyx h] at h2; cases h2
      | false =>
        have e := ltP_total x.2 y.2 h1 hyx
        rw [e] at h
        rw [h] at h2; cases h2
theorem totR (x y : RP) (h : ltOf cfR x y = false) (k : ltOf cfR y x = false) : x = y := by
  rw [ltR] at h k
  exact Subtype.ext (ltP_total x.2 y.2 h k)
theorem cmpR (blk off size : Nat) (w : World) : CmpLays Try.prog 35 #[] encR 2 cfR blk off size w := fun m os dk _ x y => by
  obtain ⟨h1, h2⟩ := flaw_len x.2.2.2
  obtain ⟨k1, k2⟩ := flaw_len y.2.2.2
  exact compare_any x.1.1 x.1.2 y.1.1 y.1.2 (by omega) (by omega) _

/-- The row sorted. -/
def sortP (l : List PR) : List PR := l.mergeSort fun x y => !ltP y x
theorem sortP_perm (l : List PR) : (sortP l).Perm l := List.mergeSort_perm _ _
theorem sortP_mem (l : List PR) (p : PR) : p ∈ sortP l ↔ p ∈ l := (sortP_perm l).mem_iff
theorem sortP_len (l : List PR) : (sortP l).length = l.length := (sortP_perm l).length_eq
/-- Those pairs, with that they may be. -/
def withR : (l : List PR) → (∀ p ∈ l, okR p) → List RP
  | [], _ => []
  | p :: l, h => ⟨p, h p (by simp)⟩ :: withR l (fun q hq => h q (by simp [hq]))
theorem withR_val : ∀ (l : List PR) (h : ∀ p ∈ l, okR p), (withR l h).map Subtype.val = l
  | [], _ => rfl
  | p :: l, h => by simp [withR, withR_val l]
theorem withR_len (l : List PR) (h : ∀ p ∈ l, okR p) : (withR l h).length = l.length := by
  conv => rhs; rw [← withR_val l h]
  rw [List.length_map]
theorem withR_sort (l : List PR) (h : ∀ p ∈ l, okR p) : ((withR l h).mergeSort fun x y => !ltOf cfR y x).map Subtype.val = sortP l := by
  unfold sortP
  conv => rhs; rw [← withR_val l h]
  refine List.map_mergeSort fun a _ b _ => ?_
  rw [ltR]

theorem own_block {w : World} {base n c g : Nat} {l : List PR} (h : OwnP w base (some ⟨g, 0, none⟩) n c l) :
    base ≤ g ∧ ∃ cur : Array Value, w.heap[g]? = some (.cells cur 24 (0, 0)) ∧ cur.toList.take (n * 2) = cellsP l := by
  rcases h.2.2.2.2 with ⟨he, _⟩ | ⟨g', cap, cur, he, hb, hg, _, _, _, ht⟩
  · cases he
  · injection he with e1 e2 e3
    simp at e1
    subst e1
    exact ⟨hb, cur, hg, ht⟩
theorem heap_sortWorld {α : Type} [Inhabited α] (enc : α → List Value) (k : Nat) (w : World) (blk off m : Nat) (d : Array α) (os : Array Obj) {j : Nat} (hj : j < w.heap.size) (hne : j ≠ blk) : (sortWorldK enc k w blk off m d os).heap[j]? = w.heap[j]? := by
  unfold sortWorldK putRowK
  rw [Go.Sort.heap_grow_old _ _ (by simpa [Go.Sort.putRow, Go.Sort.mapBlock] using hj)]
  simp only [Go.Sort.putRow, Go.Sort.mapBlock, Array.getElem?_modify]
  rw [if_neg (by omega)]
  rfl

theorem sort_any (g n c base : Nat) (l : List PR) (w : World) (hO : OwnP w base (some ⟨g, 0, none⟩) n c l) (hR : ∀ p ∈ l, okR p) (hmax : n ≤ 100000) :
    Calls Try.prog 37 #[.slice (some ⟨g, 0, none⟩) n c, .func (.func 35) #[] #[]] w fun e w' => e = .returned (.tuple #[]) ∧ Prs w' (some ⟨g, 0, none⟩) (sortP l) ∧ Below base w w' := by
  obtain ⟨hbase, cur, hg, ht⟩ := own_block hO
  have hlen := hO.2.1
  have hgl : g < w.heap.size := by
    rcases Nat.lt_or_ge g w.heap.size with h | h
    · exact h
    · rw [Array.getElem?_eq_none h] at hg; cases hg
  have hk : ∀ x, (encR x).length = 2 := fun _ => rfl
  have h1 : ∀ x, ∀ v ∈ encR x, v.oneCell' = true := fun x v hv => by
    simp [encR] at hv; rcases hv with rfl | rfl <;> rfl
  let d : Array RP := (withR l hR).toArray
  have hds : d.size = n := by show (withR l hR).toArray.size = n; rw [List.size_toArray, withR_len, hlen]
  have hdv : ∀ i, i < n → (d[i]!).1 = l.getD i nil2 := fun i hi => by
    have e := withR_val l hR
    have hi' : i < (withR l hR).length := by rw [withR_len, hlen]; exact hi
    have : d[i]! = (withR l hR)[i] := by
      show (withR l hR).toArray[i]! = _
      rw [getElem!_pos _ i (by simpa using hi')]
      simp
    rw [this]
    conv => rhs; rw [← e]
    rw [List.getD_eq_getElem?_getD, List.getElem?_map, List.getElem?_eq_getElem hi']
    rfl
  have hH : HoldsK encR 2 w g 0 d := by
    intro j hj
    rw [size_flatK, hds] at hj
    rw [get_flatK _ _ _ _ (by rw [hds]; exact hj)]
    refine ⟨?_, ?_⟩
    · have hi : j / 2 < n := by omega
      have hc := cellsP_at l (j / 2) (by omega)
      have hcell : w.cell? ⟨g, 0 + j, none⟩ = (cellsP l)[j]? := by
        simp only [World.cell?, hg, Nat.zero_add]
        rw [← ht, List.getElem?_take_of_lt (by omega), Array.getElem?_toList]
        rfl
      rw [hcell]
      unfold encR
      rw [hdv _ hi]
      rcases Nat.mod_two_eq_zero_or_one j with hm | hm
      · have h2 : j / 2 * 2 = j := by omega
        rw [hm]
        have := hc.1
        rw [h2] at this
        simpa using this
      · have h2 : j / 2 * 2 + 1 = j := by omega
        rw [hm]
        have := hc.2
        rw [h2] at this
        simpa using this
    · simp [World.frozen?, hg]
  have hsort := AnyQ.slices_SortFunc_total Try.sortPr 2 Try.isAgg24 Try.sizeOf24 encR hk h1 cfR swoR 35 #[] g 0 c d w (enters_of Try.func35 (by kernel_rfl) rfl) (cmpR g 0 d.size w) hH hgl (by rw [hds]; omega) totR
  rw [hds] at hsort
  change Calls Try.prog 37 _ _ _ at hsort
  refine hsort.mono fun e w' ⟨he, q, os, hw⟩ => ⟨he, ?_, ?_⟩
  · subst hw
    have hs : ((d.toList.mergeSort fun x y => !(ltOf cfR) y x).toArray).size = d.size := by simp
    have hH2 := holdsK_sortWorldK_c encR 2 w g 0 d _ q os hH hgl hs
    refine ⟨fun p hp => ?_, fun i hi => ?_⟩
    · have hp' := (sortP_mem l p).1 hp
      exact hO.1 p hp'
    · rw [sortP_len, hlen] at hi
      have hval : (((d.toList.mergeSort fun x y => !(ltOf cfR) y x).toArray)[i]!).1 = (sortP l).getD i nil2 := by
        have e := withR_sort l hR
        have hl2 : i < (d.toList.mergeSort fun x y => !(ltOf cfR) y x).length := by
          rw [List.length_mergeSort]; show i < (withR l hR).length; rw [withR_len, hlen]; exact hi
        rw [getElem!_pos _ i (by simpa using hl2)]
        rw [List.getElem_toArray, ← e]
        rw [List.getD_eq_getElem?_getD, List.getElem?_map]
        show _ = (Option.map Subtype.val (d.toList.mergeSort fun x y => !(ltOf cfR) y x)[i]?).getD nil2
        rw [List.getElem?_eq_getElem hl2]
        rfl
      have c0 := hH2.cell (i := i) (c := 0) (by rw [hs, hds]; exact hi) (by decide)
      have c1 := hH2.cell (i := i) (c := 1) (by rw [hs, hds]; exact hi) (by decide)
      refine ⟨g, 0, rfl, Nat.lt_of_lt_of_le hgl (size_sortWorldK_c encR 2 w g 0 q _ os), ?_, ?_⟩
      · rw [← hval]; exact c0.1
      · rw [← hval]; exact c1.1
  · subst hw
    refine ⟨rfl, rfl, rfl, size_sortWorldK_c encR 2 w g 0 q _ os, fun j hj => ?_⟩
    exact heap_sortWorld _ _ _ _ _ _ _ _ (by omega) (by omega)
end Go.Proofs.Ytmimfojlcihhaaa.Ps8
