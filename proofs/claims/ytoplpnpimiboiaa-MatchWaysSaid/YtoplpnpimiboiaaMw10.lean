/-
  Texts beneath the proof, one behind the other.
-/
import Derived.Deep.RegionHeld3
import Derived.Deep.CutRange
import Derived.Test.YtoplpnpimiboiaaMw9
import Derived.Test.YtoplpnpimiboiaaMw6
import Derived.Test.YtoplpnpimiboiaaMw2

/-
  The walk of MatchWays.
-/
namespace Go.Proofs.Ytoplpnpimiboiaa.MatchWaysW
open Go.ChangeShapes Go.WideShapes Go.ChangeAt Go.RowKit
open Bytes8 Blk8 Own8 OwnE Fa Fb Fc Fo Pr8 Pv8 Qa Qb Qc Qn Numb Rows2
open Qd (mtV)
open Qm (compile_any Compd)
open Qo (holds_any)
open Qp (comp_fine)
open Qq (words_any Worded flaw_len)
open Qr (first_any pairs6_any Made6)
open Qs (compM_ok)
open Qp (FW PW okW okW_pay)
open Dc OwnA
open Qt (pairN_any PairedN values_few)
open Qu
open Seq8
open Pq8 (okR_okP)
open Ps8 (okR)
set_option linter.unusedVariables false
set_option maxRecDepth 100000
set_option linter.unusedSimpArgs false

theorem seq_new {w : World} {a : Option Addr} {len cap : Nat} {f : Nat → Int} (hI : InInts .i64 w a len f) (hlen : len ≤ 9223372036854775807) : SeqIn (w.alloc (.cells #[.slice a len cap, .int .i64 0] 41)) w.heap.size a len cap f 0 :=
  ⟨Blk.new w [.slice a len cap, .int .i64 0] 41, hI.below ((Below.refl w.heap.size w).alloc (Nat.le_refl _) _), fun h0 b off e => by
    obtain ⟨b', off', e', hlt, _⟩ := hI 0 h0
    rw [e] at e'
    injection e' with e'
    injection e' with e' _
    omega, Nat.zero_le _, hlen⟩
theorem lit_own (w : World) : OwnE 9 1 (w.alloc (.cells #[] 9)) w.heap.size (some ⟨w.heap.size, 0, none⟩) 0 0 [] :=
  ⟨by simp, rfl, .inr ⟨w.heap.size, 0, #[], rfl, Nat.le_refl _, heap_alloc_new w _, Nat.le_refl _, Nat.zero_le _, rfl, rfl⟩⟩
theorem txts_news {w : World} {b off : Nat} {ws : List TX} (h : Txts w (some ⟨b, off, none⟩) ws) : ∀ j u, (cellsT ws)[j]? = some u → w.cell? ((⟨b, off, none⟩ : Addr).add j) = some u := fun j u hj => by
  have hlt : j < ws.length := by
    have := (List.getElem?_eq_some_iff.1 hj).1
    simpa [cellsT] using this
  obtain ⟨b', off', e, _, hc⟩ := h j hlt
  injection e with e; injection e with e1 e2; subst e1; subst e2
  rw [add_none, hc, ← hj]
  unfold cellsT
  rw [List.getElem?_map, List.getElem?_eq_getElem hlt]
  simp [List.getElem?_eq_getElem hlt]
theorem own_txts {w : World} {base n c : Nat} {A : Option Addr} {ws : List TX} (hn : ws.length = n) (h : OwnE 9 1 w base A n c (cellsT ws)) : Txts w A ws := OwnT.txts (n := n) (c := c) ⟨hn, h⟩
theorem plus_T : ({ data := #[43] } : ByteArray) = T [43] := by decide
theorem nev_T : ({ data := #[78, 69, 86, 69, 82, 61, 49] } : ByteArray) = T nev := by decide
theorem cellsT_app (a b : List TX) : cellsT (a ++ b) = cellsT a ++ cellsT b := by simp [cellsT]
theorem nev_all : AllB nev ∧ nev.length ≤ 900000 := ⟨Ff.small_all (by decide), by decide⟩
/-- What a compiled match tells, boxed. -/
structure Box (w : World) (g : Nat) (M : List RW) (A : Option Addr) (m c : Nat) : Prop where
  len : M.length = m
  ok : OkM M
  box : Blk w g [.slice A m c] 25
  rows : Mts w A M
theorem Box.below {w w' : World} {g : Nat} {M : List RW} {A : Option Addr} {m c : Nat} (h : Box w g M A m c) (hb : Below w.heap.size w w') : Box w' g M A m c := ⟨h.len, h.ok, h.box.below hb h.box.lt, h.rows.below hb⟩
theorem Box.holds {w : World} {g : Nat} {M : List RW} {A : Option Addr} {m c : Nat} (h : Box w g M A m c) {l : List PR} {b : Option Addr} {k d : Nat} (hP : Prs w b l) (hk : l.length = k) (hk2 : k ≤ 100000) {z : Bool} (hz : holdB l M = z) :
    Calls Try.prog 17 #[.agg #[.slice A m c], .slice b k d] w fun e w' => e = .returned (.bool z) ∧ Below w.heap.size w w' := by
  have := holds_any l b k d M A c w hP hk hk2 h.rows h.ok
  rw [hz] at this
  dsimp only [mtV] at this
  rw [h.len] at this
  exact this

theorem news_plus (w : World) (one : TX) : ∀ j u, (cellsT [[43], one])[j]? = some u → (w.alloc (.cells #[.string { data := #[43] }, .string (T one)] 9)).cell? ((⟨w.heap.size, 0, none⟩ : Addr).add j) = some u := by
  rw [plus_T]
  exact Blk.news (Blk.new w [.string (T [43]), .string (T one)] 9)
theorem news_nev (w : World) : ∀ j u, (cellsT [nev])[j]? = some u → (w.alloc (.cells #[.string { data := #[78, 69, 86, 69, 82, 61, 49] }] 9)).cell? ((⟨w.heap.size, 0, none⟩ : Addr).add j) = some u := by
  rw [nev_T]
  exact Blk.news (Blk.new w [.string (T nev)] 9)
theorem one_cell (l : List TX) : ∀ u ∈ cellsT l, u.oneCell' = true := fun u hu => by
  obtain ⟨x, _, rfl⟩ := List.mem_map.1 hu
  rfl
theorem cellsT_len (l : List TX) : (cellsT l).length = l.length := by simp [cellsT]
/-- Compile of words with some more behind them. -/
theorem comp_longer {ws t : List TX} {n k : Nat} {X : List RW} (hx : compM (ws ++ t) = (0, X)) (hl : ws.length = n) (ht : t.length = k) (h1 : ∀ v ∈ ws, AllB v ∧ v.length ≤ 900000) (h2 : ∀ v ∈ t, AllB v ∧ v.length ≤ 900000) (hn : n + k ≤ 1000000) (W : World) (base : Nat) (A : Option Addr) (c : Nat) (h : OwnE 9 1 W base A (n + k) c (cellsT ws ++ cellsT t)) :
    Calls Try.prog 9 #[.slice A (n + k) c] W fun e w' => ∃ A' c', e = .returned (.tuple #[.agg #[.slice A' X.length c'], .int .i64 0]) ∧ (Mts w' A' X ∧ OkM X ∧ ∀ (p : Addr) (v : Value), p.block < W.heap.size → Mts (w'.setCell p v) A' X) ∧ Below W.heap.size W w' := by
  have hall : ∀ v ∈ ws ++ t, AllB v ∧ v.length ≤ 900000 := fun v hv => (List.mem_append.1 hv).elim (h1 v) (h2 v)
  have hlen : (ws ++ t).length = n + k := by simp [hl, ht]
  have := compile_any A (ws ++ t) (n + k) c W (own_txts hlen (by rw [cellsT_app]; exact h)) hlen hall hn
  have ho := compM_ok hall
  unfold Compd at this
  rw [hx] at this ho
  exact this.mono fun e w' ⟨A', c', h1, h2, h3, _, h4⟩ => ⟨A', c', h1, ⟨h2, ho, h4⟩, h3⟩

theorem q_T : ({ data := #[63] } : ByteArray) = T [63] := by decide
theorem bA {w0 w : World} (h : Below w0.heap.size w0 w) (o : Obj) : Below w0.heap.size w0 (w.alloc o) := h.alloc h.size o
theorem bD {w0 w : World} (h : Below w0.heap.size w0 w) : Below w0.heap.size w0 w.drew := h.drew
theorem bG {w0 W W' : World} {row : Option Nat} (h : Below w0.heap.size w0 W) (hg : W.grownBy W' row) (hr : ∀ k, row = some k → w0.heap.size ≤ k) : Below w0.heap.size w0 W' := h.grown hg h.size hr
theorem bGo {w0 W W' : World} {A : Option Addr} {n c : Nat} {xs : List Value} (h : Below w0.heap.size w0 W) (ho : OwnE 9 1 W w0.heap.size A n c xs) (hg : W.grownBy W' (ownB A)) : Below w0.heap.size w0 W' := bG h hg (fun z hz => (Dc.OwnE.ltB ho z hz).1)
theorem bC {w0 W W' : World} (h : Below w0.heap.size w0 W) (hb : Below W.heap.size W W') : Below w0.heap.size w0 W' := h.trans (hb.mono h.size)
theorem at_step (n : Nat) {P : Program} {ops : Array Oper} {K : Act → World → Prop} {Q : Exit → Act → World → Prop} {F : Prop} {a : Act} {w : World} {op : Op} {ty : TypeId} {pos : String} {af : Array Edge} {gd : Option (Nat × Bool)}
    (h : if Region.wanted (⟨some n, op, ty, pos, af, gd⟩ : Oper) (yielded ops a.tmps) = true then Oper.wp P ⟨some n, op, ty, pos, af, gd⟩ a w K Q else F) : if Region.wanted (⟨some n, op, ty, pos, af, gd⟩ : Oper) (yielded ops a.tmps) = true then Oper.wp P ⟨some n, op, ty, pos, af, gd⟩ a w K Q else F := h
theorem bkN0 {w : World} {g : Nat} {ty : TypeId} (h : w.heap.size = g) : Blk (w.alloc (.cells #[] ty)) g [] ty := Blk.new_at w [] ty g h
theorem bkN1 {w : World} {g : Nat} {v : Value} {ty : TypeId} (h : w.heap.size = g) : Blk (w.alloc (.cells #[v] ty)) g [v] ty := Blk.new_at w [v] ty g h
theorem bkA {w : World} {g : Nat} {vs : List Value} {ty : TypeId} (h : Blk w g vs ty) (o : Obj) : Blk (w.alloc o) g vs ty := h.alloc o
theorem bkD {w : World} {g : Nat} {vs : List Value} {ty : TypeId} (h : Blk w g vs ty) : Blk w.drew g vs ty := h.drew
theorem bkC {W W' : World} {g : Nat} {vs : List Value} {ty : TypeId} (h : Blk W g vs ty) (hb : Below W.heap.size W W') : Blk W' g vs ty := h.below hb h.lt
theorem lit_ownB {W : World} {base E : Nat} (hE : Blk W E [] 9) (hb : base ≤ E) : OwnE 9 1 W base (some ⟨E, 0, none⟩) 0 0 [] := by
  have hEl := hE.lt
  exact ⟨by omega, rfl, .inr ⟨E, 0, #[], rfl, hb, hE, Nat.le_refl _, by decide, rfl, rfl⟩⟩
theorem past_lit {W W' : World} {g k : Nat} {vs : List Value} {ty : TypeId} (hl : Blk W g [] 9) (hk : Blk W k vs ty) (hne : vs ≠ []) (hg : W.grownBy W' (ownB (some (⟨g, 0, none⟩ : Addr)))) : Blk W' k vs ty := OwnM.blk_grown hk hg (by
  rintro rfl
  unfold Blk at hl hk
  rw [hl] at hk
  injection hk with hk
  injection hk with h1
  exact hne (by simpa using h1.symm))
theorem past_own {W W' : World} {base n c k : Nat} {A : Option Addr} {xs vs : List Value} (ho : OwnE 9 1 W base A n c xs) (hk : Blk W k vs 25) (hg : W.grownBy W' (ownB A)) : Blk W' k vs 25 := by
  refine (hg.block k hk.lt (fun e => ?_)).trans hk
  rcases ho.2.2 with ⟨e0, _⟩ | ⟨g, cap, cur, hv, hbg, hgc, _⟩
  · injection e0 with e1 e2 e3
    subst e1
    cases e
  · injection hv with e1 e2 e3
    subst e1
    injection e with e
    subst e
    unfold Blk at hk
    rw [hgc] at hk
    injection hk with hk
    injection hk with _ h2
    cases h2
theorem box_new {w : World} {M : List RW} {A : Option Addr} {m c : Nat} (hl : M.length = m) (ho : OkM M) (h : Mts w A M) : Box (w.alloc (.cells #[.slice A m c] 25)) w.heap.size M A m c :=
  ⟨hl, ho, Blk.new w [.slice A m c] 25, h.below ((Below.refl w.heap.size w).alloc (Nat.le_refl _) _)⟩
theorem box_set {w : World} {M : List RW} {A : Option Addr} {g m c : Nat} {v : Value} (hb : Blk w g [v] 25) (hl : M.length = m) (ho : OkM M) (h : Mts (w.setCell ⟨g, 0, none⟩ (.slice A m c)) A M) : Box (w.setCell ⟨g, 0, none⟩ (.slice A m c)) g M A m c :=
  ⟨hl, ho, hb.set_ 0 (.slice A m c), h⟩
theorem fw_last {ws : List TX} (h : FW ws) (h0 : ws ≠ []) : okW (ws.getD (ws.length - 1) []) := by
  have hpos := List.length_pos_iff.2 h0
  rcases h.1 (ws.length - 1) (by omega) with ⟨e, _⟩ | e
  · exact absurd e (h.2 hpos)
  · exact e

set_option maxHeartbeats 16000000 in
theorem walk (a0 : Option Addr) (len0 cap0 : Nat) (z0 : List Int) (a1 : Option Addr) (len1 cap1 : Nat) (z1 : List Int) (n : Int) (w : World) (w0 : IsRow .i64 w a0 len0 cap0 z0) (w1 : IsRow .i64 w a1 len1 cap1 z1) (w2 : (Lit.int .i64 n).wf = true) :
    Calls Try.prog 5 #[.slice a0 len0 cap0, .slice a1 len1 cap1, .int .i64 n] w fun e w' => e = .returned (.bool true) ∧ Below w.heap.size w w' := by
  obtain ⟨hI0, hc0, hm0⟩ := ints_in w0
  obtain ⟨hI1, hc1, hm1⟩ := ints_in w1
  unfold maxLen at hm0 hm1
  have HW := Lib.hid fun (W : World) (h : Below w.heap.size w W) => show Calls Try.prog 20 #[.slice a0 len0 cap0, .int .i64 12] W (Worded 12 W) from words_any a0 len0 cap0 _ 12 W (hI0.below h) (by omega) (by decide)
  have HSq := Lib.hid fun (W : World) (h : Below w.heap.size w W) => seq_new (w := W) (cap := cap1) (hI1.below h) (by omega)
  have HPr := Lib.hid fun (W : World) (gq : Nat) (h : SeqIn W gq a1 len1 cap1 (fun i => z1.getD i 0) 0) => pairs6_any gq a1 len1 cap1 _ 0 W h
  have HPn := Lib.hid fun (W : World) (gq k : Nat) (h : SeqIn W gq a1 len1 cap1 (fun i => z1.getD i 0) k) => pairN_any gq a1 len1 cap1 _ k W h
  unfold Worded at HW
  unfold Made6 at HPr
  unfold PairedN at HPn
  clear w0 w1 w2 hI0 hI1
  generalize (fun i => z1.getD i 0) = f1 at *
  go_enter Try.func5, Try.ntmps5
  go_upto_region 5 with (first
    | (go_at_call 7; (with_reducible refine (first_any _).mono ?_); rintro e w1 ⟨rfl, hb⟩; have B1 := Lib.hid hb; clear hb)
    | (go_at_call 20; (with_reducible refine (HW.out _ B1.out).mono ?_); rintro e w2 ⟨ws, Aw, cw, rfl, ho, hf, hl12, hb⟩; have HT := Lib.hid ho.txts; have HF := Lib.hid hf; have B2 := Lib.hid (B1.out.trans (hb.mono B1.out.size)); clear ho hf hb))
  obtain ⟨nw, hnw⟩ : ∃ nw, ws.length = nw := ⟨_, rfl⟩
  have HWL := Lib.hid hnw
  rw [hnw] at hl12 ⊢
  clear hnw HW
  have S3 := Lib.hid (HSq.out w2 B2.out)
  have b3 := (Below.refl w2.heap.size w2).alloc (Nat.le_refl _) (.cells #[.slice a1 len1 cap1, .int .i64 0] 41)
  have HT3 := Lib.hid (HT.out.below b3)
  have B3 := Lib.hid (B2.out.trans (b3.mono B2.out.size))
  have hs3 : w2.heap.size < (w2.alloc (.cells #[.slice a1 len1 cap1, .int .i64 0] 41)).heap.size := by simp
  have HG3 := Lib.hid hs3
  have HTb := Lib.hid (HT.out)
  have BQ3 := Lib.hid b3
  clear b3 hs3 HT HSq
  go_upto_region 6 with fail
  generalize w2.alloc (.cells #[.slice a1 len1 cap1, .int .i64 0] 41) = w3 at *
  have B2s := Lib.hid B2.out.size
  clear HT3 B3 B1
  go_upto_region 7 with (go_at_call 21; (with_reducible refine (HPr.out w3 w2.heap.size S3.out).mono ?_); rintro e w4 ⟨l, Al, cl, k4, rfl, ho, ⟨-, hl6⟩, hS, hK⟩; have O4 := Lib.hid ho; have S4 := Lib.hid hS; have K4 := Lib.hid hK; clear ho hS hK)
  obtain ⟨nl, hnl⟩ : ∃ nl, l.length = nl := ⟨_, rfl⟩
  have HLL := Lib.hid hnl
  rw [hnl] at O4 hl6 ⊢
  clear hnl HPr S3
  have BQ4 := Lib.hid (BQ3.out.trans ((K4.out.mono (Nat.le_of_lt HG3.out)).below (Nat.le_refl _)))
  have hg4 : w2.heap.size < w3.heap.size := HG3.out
  go_upto_region 8 with (first
    | (go_at_call 23; (with_reducible refine (HPn.out w4 w2.heap.size k4 S4.out).mono ?_); rintro e w5 ⟨nm, vl, k5, rfl, hok, hnv, -, hK5⟩; have OK := Lib.hid hok; have NV := Lib.hid hnv; have K5 := Lib.hid hK5; have HPy := Lib.hid fun W => rpayload_grew nm vl (flaw_len hok.2.2) W; clear hok hnv hK5)
    | (go_at_call 22; (with_reducible refine (HPy.out _).mono ?_); rintro e w6 ⟨rfl, hG⟩; have G6 := Lib.hid hG.below; clear hG))
  have HP6 : Hid (Prs w6 Al l) := Lib.hid ((Pq8.OwnP.keptB O4.out K5.out HG3.out).prs.below G6.out)
  have BQ5 := Lib.hid (BQ4.out.trans ((K5.out.mono BQ4.out.size).below (Nat.le_refl _)))
  have BQ6 := Lib.hid (BQ5.out.trans (G6.out.mono BQ5.out.size))
  have HT6 := Lib.hid (HTb.out.below BQ6.out)
  have B6 := Lib.hid (B2.out.trans (BQ6.out.mono B2s.out))
  have HOne := Lib.hid (okW_pay OK.out.1 OK.out.2.1 OK.out.2.2 NV.out.1 (values_few _ NV.out.2))
  clear hg4 HPn HPy O4 S4 K4 K5 BQ3 BQ4 BQ5 BQ6 G6 OK NV HG3 HTb B2s B2
  generalize pay nm vl = one at *
  have HMo := Lib.hid fun (h0 : ws ≠ []) => more_of HF.out h0 (by have := HWL.out; omega) HOne.out
  have HC := Lib.hid (compile_any Aw ws nw cw w6 HT6.out HWL.out HF.out.1.all (by omega))
  have he := comp_fine HF.out (by have := HWL.out; omega)
  have HOM := Lib.hid (compM_ok HF.out.1.all)
  have HMd : Hid (compM ws = (0, (compM ws).2)) := Lib.hid (by rw [← he])
  unfold Compd at HC
  rw [he] at HC
  clear he
  generalize (compM ws).2 = M at *
  obtain ⟨m, hm⟩ : ∃ m, M.length = m := ⟨_, rfl⟩
  have HML := Lib.hid hm
  rw [hm] at HC
  clear hm
  go_upto_region 9 with (go_at_call 9; (with_reducible refine HC.out.mono ?_); rintro e w7 ⟨A, c, rfl, hmt, hb, hcap⟩; have HM := Lib.hid hmt; have HB7 := Lib.hid hb; clear hmt hb)
  have b8 := (Below.refl w7.heap.size w7).alloc (Nat.le_refl _) (.cells #[.slice A m c] 25)
  have X8 : Hid (Box (w7.alloc (.cells #[.slice A m c] 25)) w7.heap.size M A m c) := Lib.hid ⟨HML.out, HOM.out, Blk.new w7 [.slice A m c] 25, HM.out.below b8⟩
  have BW8 := Lib.hid (HB7.out.trans (b8.mono HB7.out.size))
  have HC0 := Lib.hid (compile_any none [] 0 0 (w7.alloc (.cells #[.slice A m c] 25)) (fun j hj => by cases hj) rfl (fun v hv => by cases hv) (by omega))
  have e0 : compM [] = (0, []) := rfl
  unfold Compd at HC0
  rw [e0] at HC0
  dsimp only [List.length] at HC0
  clear b8 HM HB7 HC hcap e0
  generalize w7.alloc (.cells #[.slice A m c] 25) = w8 at *
  generalize w7.heap.size = g8 at *
  go_upto_region 10 with (go_at_call 9; (with_reducible refine HC0.out.mono ?_); rintro e w9 ⟨A', c', rfl, hmt, hb, hcap⟩; have HM := Lib.hid hmt; have HB9 := Lib.hid hb; clear hmt hb hcap)
  have b10 := (Below.refl w9.heap.size w9).alloc (Nat.le_refl _) (.cells #[.slice A' 0 c'] 25)
  have X10 : Hid (Box (w9.alloc (.cells #[.slice A' 0 c'] 25)) w9.heap.size [] A' 0 c') := Lib.hid ⟨rfl, ⟨(fun _ h => by cases h), Nat.zero_le _⟩, Blk.new w9 [.slice A' 0 c'] 25, HM.out.below b10⟩
  have BW10 := Lib.hid (HB9.out.trans (b10.mono HB9.out.size))
  clear b10 HM HB9 HC0
  generalize w9.alloc (.cells #[.slice A' 0 c'] 25) = w10 at *
  generalize w9.heap.size = g10 at *
  have BW := Lib.hid (BW8.out.trans (BW10.out.mono BW8.out.size))
  have HP10 := Lib.hid (HP6.out.below BW.out)
  have HT10 := Lib.hid (HT6.out.below BW.out)
  have B10 := Lib.hid (B6.out.trans (BW.out.mono B6.out.size))
  have Y10 := Lib.hid (X8.out.below BW10.out)
  have HH1 := Lib.hid (X10.out.holds (d := cl) HP10.out HLL.out (by omega) (show holdB l [] = true from rfl))
  have HH2 := Lib.hid fun (W : World) (h : Below w10.heap.size w10 W) => (X10.out.below h).holds (b := none) (k := 0) (d := 0) (l := []) ⟨(fun _ h => by cases h), fun i hi => by cases hi⟩ rfl (by omega) (show holdB [] [] = true from rfl)
  have r10 := X10.out.box.cell (i := 0) rfl
  clear BW8 BW10 BW HP6 HT6 B6 X8
  go_upto_region 12 with (first
    | (go_at_call 17; (with_reducible refine HH1.out.mono ?_); rintro e w11 ⟨rfl, hb⟩; have B11 := Lib.hid hb; have r11 := (X10.out.below hb).box.cell (i := 0) rfl; clear hb)
    | (go_at_call 17; (with_reducible refine (HH2.out w11 B11.out).mono ?_); rintro e w12 ⟨rfl, hb⟩; have B12 := Lib.hid (B11.out.trans (hb.mono B11.out.size)); clear hb))
  clear r10 r11 HH1 HH2 X10 B11
  by_cases hw0 : nw = 0
  · subst hw0
    have BR := Lib.hid (B10.out.trans (B12.out.mono B10.out.size))
    go_wp2_with fail
    go_ret
    exact ⟨rfl, BR.out⟩
  have hnz : ((nw : Int) == 0) = false := by simp; omega
  have hne : ws ≠ [] := fun h => hw0 (by rw [← HWL.out, h]; rfl)
  obtain ⟨M', X, Y, Z, hmo⟩ := HMo.out hne
  obtain rfl : M' = M := by
    have h1 := hmo.m
    rw [HMd.out] at h1
    exact (congrArg Prod.snd h1).symm
  have HX := Lib.hid hmo
  have HP12 := Lib.hid (HP10.out.below B12.out)
  have HT12 := Lib.hid (HT10.out.below B12.out)
  have Y12 := Lib.hid (Y10.out.below B12.out)
  have BB12 := Lib.hid (B10.out.trans (B12.out.mono B10.out.size))
  obtain ⟨is, his⟩ : ∃ is, holdB l M' = is := ⟨_, rfl⟩
  have HIs := Lib.hid his
  have HH := Lib.hid (Y12.out.holds (d := cl) HP12.out HLL.out (by omega) his)
  have s12 := Y12.out.box.cell (i := 0) rfl
  have HCx := Lib.hid fun W base A c h => comp_longer (k := 2) hmo.x HWL.out rfl HF.out.1.all (fun v hv => by
    rcases List.mem_cons.1 hv with rfl | hv
    · exact ⟨(fun x hx => by simp at hx; subst hx; decide), by simp⟩
    · rw [List.mem_singleton.1 hv]; exact HOne.out.2.2.1) (show nw + 2 ≤ 1000000 by omega) W base A c h
  have HCy := Lib.hid fun W base A c h => comp_longer (k := 1) hmo.y HWL.out rfl HF.out.1.all (fun v hv => by rw [List.mem_singleton.1 hv]; exact nev_all) (show nw + 1 ≤ 1000000 by omega) W base A c h
  obtain ⟨lst, hlst⟩ : ∃ v, ws.getD (ws.length - 1) [] = v := ⟨_, rfl⟩
  have hlo := fw_last HF.out hne
  have hmz := hmo.z
  rw [hlst] at hlo hmz
  have HLst := Lib.hid hlst
  obtain ⟨-, -, -, hlall⟩ := last_more hlo
  have HCz := Lib.hid fun W base A c h => comp_longer (k := 1) hmz HWL.out rfl HF.out.1.all (fun v hv => by rw [List.mem_singleton.1 hv]; exact hlall) (show nw + 1 ≤ 1000000 by omega) W base A c h
  obtain ⟨Q, hQ⟩ : ∃ Q, T (lst ++ [63]) = Q := ⟨_, rfl⟩
  have hcq : cellsT [lst ++ [63]] = [.string Q] := by unfold cellsT; rw [List.map_cons, List.map_nil, hQ]
  rw [hcq] at HCz
  have HAdd := Lib.hid fun (W : World) => show (Op.stringOp .add (T lst) { data := #[63] }).run Try.prog W = .ok (.string Q) W from by
    rw [q_T, ← hQ]
    exact add_run lst [63] (by have := hlall.2; simp at this ⊢; omega) W
  obtain ⟨zl, hzl⟩ : ∃ zl, Z.length = zl := ⟨_, rfl⟩
  have HZL := Lib.hid hzl
  rw [hzl] at HCz
  clear hlst hlo hmz hlall hQ hcq hzl
  obtain ⟨xl, hxl⟩ : ∃ xl, X.length = xl := ⟨_, rfl⟩
  obtain ⟨yl, hyl⟩ : ∃ yl, Y.length = yl := ⟨_, rfl⟩
  have HXL := Lib.hid hxl
  have HYL := Lib.hid hyl
  rw [hxl] at HCx
  rw [hyl] at HCy
  have hl1 : (cellsT ws).length = nw * 1 := by rw [cellsT_len, HWL.out, Nat.mul_one]
  have HL1 := Lib.hid hl1
  obtain ⟨b, off, rfl, -, -⟩ := HT12.out 0 (by have := HWL.out; omega)
  clear hl1 hxl hyl hmo his HMo HMd hne Y10 HP10 HT10 B10 B12
  go_upto_region 15 with (go_at_call 17; (with_reducible refine HH.out.mono ?_); rintro e w13 ⟨rfl, hb⟩; have BW13 := Lib.hid hb; clear hb)
  have HP13 := Lib.hid (HP12.out.below BW13.out)
  have HT13 := Lib.hid (HT12.out.below BW13.out)
  have B13 := Lib.hid (BB12.out.trans (BW13.out.mono BB12.out.size))
  clear HH HP12 HT12 Y12 BB12 BW13 s12
  go_upto_region 16 with (first
    | ((with_reducible apply Qm.at_slot 72); refine wpList_append_elt tElt rfl (.tmp 70) (.tmp 71) rfl w13.heap.size (some ⟨w13.heap.size, 0, none⟩) 0 0 [] rfl (lit_own w13) ⟨b, off, none⟩ nw cw (cellsT ws) rfl HL1.out (txts_news (HT13.out.below ((Below.refl w13.heap.size w13).alloc (Nat.le_refl _) _))) (one_cell ws) (by omega) (by omega) ?_; intro A2 c2 w14 ho hb; rw [Nat.zero_add] at ho ⊢; have O14 := Lib.hid ho; have BW14 := Lib.hid (((Below.refl w13.heap.size w13).alloc (Nat.le_refl _) (.cells #[] 9)).trans hb); clear ho hb)
    | ((with_reducible apply Qm.at_slot 75); refine wpList_append_elt tElt rfl (.tmp 72) (.tmp 74) rfl w13.heap.size A2 nw c2 (cellsT ws) rfl (O14.out.alloc (.cells #[.string { data := #[43] }, .string (T one)] 9)) ⟨w14.heap.size, 0, none⟩ 2 2 (cellsT [[43], one]) rfl rfl (news_plus w14 one) (one_cell _) (by omega) (by omega) ?_; intro A3 c3 w15 ho hb; have O15 := Lib.hid ho; have BW15 := Lib.hid ((BW14.out.alloc BW14.out.size (.cells #[.string { data := #[43] }, .string (T one)] 9)).trans hb); clear ho hb)
    | (go_at_call 9; (with_reducible refine (HCx.out w15 _ A3 c3 O15.out).mono ?_); rintro e w16 ⟨Ax, cx, rfl, hm, hb⟩; have HMx := Lib.hid hm; have BW16 := Lib.hid (BW15.out.trans (hb.mono BW15.out.size)); clear hm hb))
  have b17 := (Below.refl w16.heap.size w16).alloc (Nat.le_refl _) (.cells #[.slice Ax xl cx] 25)
  have X17 : Hid (Box (w16.alloc (.cells #[.slice Ax xl cx] 25)) w16.heap.size X Ax xl cx) := Lib.hid ⟨HXL.out, HMx.out.2.1, Blk.new w16 [.slice Ax xl cx] 25, HMx.out.1.below b17⟩
  have BW17 := Lib.hid (BW16.out.trans (b17.mono BW16.out.size))
  clear b17 HMx BW16 BW15 BW14 O14 O15 HCx
  generalize w16.alloc (.cells #[.slice Ax xl cx] 25) = w17 at *
  generalize w16.heap.size = g17 at *
  have HP17 := Lib.hid (HP13.out.below BW17.out)
  have HT17 := Lib.hid (HT13.out.below BW17.out)
  have B17 := Lib.hid (B13.out.trans (BW17.out.mono B13.out.size))
  clear HP13 HT13 B13 BW17
  go_upto_region 17 with (first
    | ((with_reducible apply Qm.at_slot 82); refine wpList_append_elt tElt rfl (.tmp 80) (.tmp 81) rfl w17.heap.size (some ⟨w17.heap.size, 0, none⟩) 0 0 [] rfl (lit_own w17) ⟨b, off, none⟩ nw cw (cellsT ws) rfl HL1.out (txts_news (HT17.out.below ((Below.refl w17.heap.size w17).alloc (Nat.le_refl _) _))) (one_cell ws) (by omega) (by omega) ?_; intro A2 c2 w18 ho hb; rw [Nat.zero_add] at ho ⊢; have O18 := Lib.hid ho; have BW18 := Lib.hid (((Below.refl w17.heap.size w17).alloc (Nat.le_refl _) (.cells #[] 9)).trans hb); clear ho hb)
    | ((with_reducible apply Qm.at_slot 84); refine wpList_append_elt tElt rfl (.tmp 82) (.tmp 83) rfl w17.heap.size A2 nw c2 (cellsT ws) rfl (O18.out.alloc (.cells #[.string { data := #[78, 69, 86, 69, 82, 61, 49] }] 9)) ⟨w18.heap.size, 0, none⟩ 1 1 (cellsT [nev]) rfl rfl (news_nev w18) (one_cell _) (by omega) (by omega) ?_; intro A3 c3 w19 ho hb; have O19 := Lib.hid ho; have BW19 := Lib.hid ((BW18.out.alloc BW18.out.size (.cells #[.string { data := #[78, 69, 86, 69, 82, 61, 49] }] 9)).trans hb); clear ho hb)
    | (go_at_call 9; (with_reducible refine (HCy.out w19 _ A3 c3 O19.out).mono ?_); rintro e w20 ⟨Ay, cy, rfl, hm, hb⟩; have HMy := Lib.hid hm; have BW20 := Lib.hid (BW19.out.trans (hb.mono BW19.out.size)); clear hm hb))
  have b21 := (Below.refl w20.heap.size w20).alloc (Nat.le_refl _) (.cells #[.slice Ay yl cy] 25)
  have Y21 : Hid (Box (w20.alloc (.cells #[.slice Ay yl cy] 25)) w20.heap.size Y Ay yl cy) := Lib.hid ⟨HYL.out, HMy.out.2.1, Blk.new w20 [.slice Ay yl cy] 25, HMy.out.1.below b21⟩
  have BW21 := Lib.hid (BW20.out.trans (b21.mono BW20.out.size))
  clear b21 HMy BW20 BW19 BW18 O18 O19 HCy
  generalize w20.alloc (.cells #[.slice Ay yl cy] 25) = w21 at *
  generalize w20.heap.size = g21 at *
  have X21 := Lib.hid (X17.out.below BW21.out)
  have HP21 := Lib.hid (HP17.out.below BW21.out)
  have HT21 := Lib.hid (HT17.out.below BW21.out)
  have B21 := Lib.hid (B17.out.trans (BW21.out.mono B17.out.size))
  clear X17 HP17 HT17 B17 BW21
  --R17
  go_cut [21, 22] from 88 to 104 (fun p i wx => ∃ (g : Nat) (Az : Option Addr) (cz : Nat), p = .pointer (some ⟨g, 0, none⟩) ∧ i = .int .i64 0 ∧ Hid (Box wx g Z Az zl cz) ∧ Hid (Below w21.heap.size w21 wx))
  case first =>
    obtain ⟨q, hq⟩ : ∃ q, nw = q + 1 := ⟨nw - 1, by omega⟩
    obtain ⟨b', off', e', hbl, hk0⟩ := HT21.out q (by have := HWL.out; omega)
    injection e' with e'
    injection e' with e1 e2
    subst e1
    subst e2
    have hql : ws.getD q [] = lst := by rw [← HLst.out, HWL.out, hq]; rfl
    rw [hql] at hk0
    have hadd := HAdd.out
    obtain ⟨S, hS⟩ : ∃ S, T lst = S := ⟨_, rfl⟩
    rw [hS] at hk0 hadd
    have hwq : IntKind.i64.wrap ((nw : Int) - 1) = (q : Int) := by rw [IntKind.wrap_i64]; omega
    have hq0 : (0 : Int) ≤ (q : Int) := by omega
    have hq1 : (q : Int) < (nw : Int) := by omega
    clear hS hql hq HOM HML HX HIs HLst HAdd HOne HF HWL HLL HXL HYL hnz hw0 hl6 X21 Y21 HP21 B21 hc0 hm0 hc1
    refine wp_region_noPanic ?_
    refine wp_region_held_drew (S := (fun W => W.cell? ⟨b, off + q, none⟩ = some (.string S))) (by kernel_rfl) (by exact hk0) (fun hHeld => ?_)
    have hB0 : Below w21.heap.size w21 w21.drew := bD (Below.refl _ _)
    generalize w21.drew = W0 at *
    refine wpAnyH_take (i := 1) (oi := ⟨some 90, _, _, _, _, _⟩) (v := ?_) rfl (by kernel_rfl) (by kernel_rfl) (by kernel_rfl) (fun _ _ _ h => h) (Or.inl ⟨by rfl, ?_⟩) (by assumption) ?_
    rotate_left
    · intro W hSw; go_simp; try (with_reducible rfl)
    try simp only [Act.put, List.setIfInBounds_toArray, List.set_cons_zero, List.set_cons_succ]
    refine wpAnyH_take (i := 3) (oi := ⟨some 92, _, _, _, _, _⟩) (v := ?_) rfl (by kernel_rfl) (by kernel_rfl) (by kernel_rfl) (fun _ _ _ h => h) (Or.inl ⟨by rfl, ?_⟩) (by assumption) ?_
    rotate_left
    · intro W hSw; go_simp; try (with_reducible rfl)
    try simp only [Act.put, List.setIfInBounds_toArray, List.set_cons_zero, List.set_cons_succ]
    refine wpAnyH_take (i := 4) (oi := ⟨some 93, _, _, _, _, _⟩) (v := ?_) rfl (by kernel_rfl) (by kernel_rfl) (by kernel_rfl) (fun _ _ _ h => h) (Or.inl ⟨by rfl, ?_⟩) (by assumption) ?_
    rotate_left
    · intro W hSw; go_simp; try (with_reducible rfl)
    try simp only [Act.put, List.setIfInBounds_toArray, List.set_cons_zero, List.set_cons_succ]
    refine wpAnyH_take (i := 5) (oi := ⟨some 94, _, _, _, _, _⟩) (v := ?_) rfl (by kernel_rfl) (by kernel_rfl) (by kernel_rfl) (fun _ _ _ h => h) (Or.inl ⟨by rfl, ?_⟩) (by assumption) ?_
    rotate_left
    · intro W hSw; go_simp; try (with_reducible rfl)
    try simp only [Act.put, List.setIfInBounds_toArray, List.set_cons_zero, List.set_cons_succ]
    refine wpAnyH_take (i := 6) (oi := ⟨some 95, _, _, _, _, _⟩) (v := ?_) rfl (by kernel_rfl) (by kernel_rfl) (by kernel_rfl) (fun _ _ _ h => h) (Or.inl ⟨by rfl, ?_⟩) (by assumption) ?_
    rotate_left
    · intro W hSw; go_simp; try (with_reducible rfl)
    try simp only [Act.put, List.setIfInBounds_toArray, List.set_cons_zero, List.set_cons_succ]
    refine wpAnyH_take (i := 7) (oi := ⟨some 96, _, _, _, _, _⟩) (v := ?_) rfl (by kernel_rfl) (by kernel_rfl) (by kernel_rfl) (fun _ _ _ h => h) (Or.inl ⟨by rfl, ?_⟩) (by assumption) ?_
    rotate_left
    · intro W hSw; go_simp; try (with_reducible rfl)
    try simp only [Act.put, List.setIfInBounds_toArray, List.set_cons_zero, List.set_cons_succ]
    refine wpAnyH_take (i := 8) (oi := ⟨some 97, _, _, _, _, _⟩) (v := ?_) rfl (by kernel_rfl) (by kernel_rfl) (by kernel_rfl) (fun _ _ _ h => h) (Or.inl ⟨by rfl, ?_⟩) (by assumption) ?_
    rotate_left
    · intro W hSw; go_simp; try (with_reducible rfl)
    try simp only [Act.put, List.setIfInBounds_toArray, List.set_cons_zero, List.set_cons_succ]
    refine wpAnyH_take (i := 9) (oi := ⟨some 98, _, _, _, _, _⟩) (v := ?_) rfl (by kernel_rfl) (by kernel_rfl) (by kernel_rfl) (fun _ _ _ h => h) (Or.inl ⟨by rfl, ?_⟩) (by assumption) ?_
    rotate_left
    · intro W hSw; go_simp; try (with_reducible rfl)
    try simp only [Act.put, List.setIfInBounds_toArray, List.set_cons_zero, List.set_cons_succ]
    refine wpAnyH_ready (rs := [0, 10, 16]) (by kernel_rfl) (by simp) ?_
    refine AllReadyH.cons (o := ⟨some 89, _, _, _, _, _⟩) rfl (fun K hK => ?_) ?_
    · skip
      go_simp
      have hE1 : Blk (World.alloc W0 (.cells #[] 9)) (World.heap W0).size [] 9 := bkN0 rfl
      have hlE1 : w21.heap.size ≤ (World.heap W0).size := hB0.size
      have hB1 := bA hB0 (.cells #[] 9)
      refine hK.out _ _ ((Below.cell (p := ⟨b, off + q, none⟩) hB1 hbl).trans hk0) (fun hHeld => ?_)
      clear hK K
      clear hB0
      generalize World.alloc W0 (.cells #[] 9) = W1 at *
      generalize (World.heap W0).size = gE at *
      try simp only [Act.put, List.setIfInBounds_toArray, List.set_cons_zero, List.set_cons_succ]
      refine wpAnyH_ready (rs := [2, 10, 16]) (by kernel_rfl) (by simp) ?_
      refine AllReadyH.cons (o := ⟨some 91, _, _, _, _, _⟩) rfl (fun K hK => ?_) ?_
      · skip
        refine step_append_elt_at tElt (o := ⟨some 91, _, _, _, _, _⟩) rfl (.tmp 89) (.tmp 90) rfl w21.heap.size (some ⟨gE, 0, none⟩) 0 0 [] rfl (lit_ownB hE1 hlE1) ⟨b, off, none⟩ nw cw (cellsT ws) rfl HL1.out (txts_news (HT21.out.below hB1)) (one_cell ws) (by omega) (by omega) (by unfold maxLen; omega) ?_
        intro A2 c2 W2 hA2 hg _
        try simp only [Nat.zero_add]
        rw [List.nil_append, Nat.zero_add] at hA2
        have hB2 := bG hB1 hg (fun z hz => by simp [ownB] at hz; omega)
        refine hK.out _ _ ((Below.cell (p := ⟨b, off + q, none⟩) hB2 hbl).trans hk0) (fun hHeld => ?_)
        clear hK K hg hB1 hE1 hlE1
        try simp only [Act.put, List.setIfInBounds_toArray, List.set_cons_zero, List.set_cons_succ]
        refine wpAnyH_ready (rs := [10, 16]) (by kernel_rfl) (by simp) ?_
        refine AllReadyH.cons (o := ⟨some 99, _, _, _, _, _⟩) rfl (fun K hK => ?_) ?_
        · skip
          go_simp
          have hQ3 : Blk (World.alloc W2 (.cells #[.string Q] 9)) (World.heap W2).size [.string Q] 9 := bkN1 rfl
          have hB3 := bA hB2 (.cells #[.string Q] 9)
          have hA3 := hA2.alloc (.cells #[.string Q] 9)
          refine hK.out _ _ ((Below.cell (p := ⟨b, off + q, none⟩) hB3 hbl).trans hk0) (fun hHeld => ?_)
          clear hK K
          clear hB2 hA2
          generalize World.alloc W2 (.cells #[.string Q] 9) = W3 at *
          generalize (World.heap W2).size = gQ at *
          try simp only [Act.put, List.setIfInBounds_toArray, List.set_cons_zero, List.set_cons_succ]
          refine wpAnyH_ready (rs := [11, 16]) (by kernel_rfl) (by simp) ?_
          refine AllReadyH.cons (o := ⟨some 100, _, _, _, _, _⟩) rfl (fun K hK => ?_) ?_
          · skip
            refine step_append_elt_at tElt (o := ⟨some 100, _, _, _, _, _⟩) rfl (.tmp 91) (.tmp 99) rfl w21.heap.size A2 nw c2 (cellsT ws) rfl hA3 ⟨gQ, 0, none⟩ 1 1 [.string Q] rfl rfl (Blk.news hQ3) (by intro u hu; simp at hu; subst hu; rfl) (by omega) (by omega) (by unfold maxLen; omega) ?_
            intro A3 c3 W4 hP4 hg _
            have hB4 := bGo hB3 hA3 hg
            refine hK.out _ _ ((Below.cell (p := ⟨b, off + q, none⟩) hB4 hbl).trans hk0) (fun hHeld => ?_)
            clear hK K hg hB3 hQ3 hA3
            try simp only [Act.put, List.setIfInBounds_toArray, List.set_cons_zero, List.set_cons_succ]
            refine wpAnyH_ready (rs := [12, 16]) (by kernel_rfl) (by simp) ?_
            refine AllReadyH.cons (o := ⟨some 101, _, _, _, _, _⟩) rfl (fun K hK => ?_) ?_
            · skip
              go_simp
              (go_at_call 9; (with_reducible refine (HCz.out _ w21.heap.size A3 c3 hP4).mono ?_); rintro e W5 ⟨Az, cz, rfl, hmz, hbz⟩)
              try go_wp2_with fail
              have hOz := Lib.hid hmz.2.1
              have hM5 : Mts W5 Az Z ∧ Mts W5 Az Z := ⟨hmz.1, hmz.1⟩
              have hB5 := bC hB4 hbz
              refine hK.out _ _ ((Below.cell (p := ⟨b, off + q, none⟩) hB5 hbl).trans hk0) (fun hHeld => ?_)
              clear hK K hmz hbz hB4 hP4
              try simp only [Act.put, List.setIfInBounds_toArray, List.set_cons_zero, List.set_cons_succ]
              refine wpAnyH_take (i := 13) (oi := ⟨some 88, _, _, _, _, _⟩) (v := ?_) rfl (by kernel_rfl) (by kernel_rfl) (by kernel_rfl) (fun _ _ _ h => h) (Or.inl ⟨by rfl, ?_⟩) (by assumption) ?_
              rotate_left
              · intro W hSw; go_simp; try (with_reducible rfl)
              try simp only [Act.put, List.setIfInBounds_toArray, List.set_cons_zero, List.set_cons_succ]
              refine wpAnyH_take (i := 14) (oi := ⟨some 102, _, _, _, _, _⟩) (v := ?_) rfl (by kernel_rfl) (by kernel_rfl) (by kernel_rfl) (fun _ _ _ h => h) (Or.inl ⟨by rfl, ?_⟩) (by assumption) ?_
              rotate_left
              · intro W hSw; go_simp; try (with_reducible rfl)
              try simp only [Act.put, List.setIfInBounds_toArray, List.set_cons_zero, List.set_cons_succ]
              refine wpAnyH_take (i := 15) (oi := ⟨some 103, _, _, _, _, _⟩) (v := ?_) rfl (by kernel_rfl) (by kernel_rfl) (by kernel_rfl) (fun _ _ _ h => h) (Or.inl ⟨by rfl, ?_⟩) (by assumption) ?_
              rotate_left
              · intro W hSw; go_simp; try (with_reducible rfl)
              try simp only [Act.put, List.setIfInBounds_toArray, List.set_cons_zero, List.set_cons_succ]
              refine wpAnyH_ready (rs := [16]) (by kernel_rfl) (by simp) ?_
              refine AllReadyH.cons (o := ⟨some 21, _, _, _, _, _⟩) rfl (fun K hK => ?_) AllReadyH.nil
              go_simp
              have hX0S := hB5.size
              have hX6 : Blk (World.alloc W5 (.cells #[.slice none 0 0] 25)) (World.heap W5).size [.slice none 0 0] 25 := bkN1 rfl
              have hB6 := bA hB5 (.cells #[.slice none 0 0] 25)
              have hM6 := hM5.2.below (bA (Below.refl _ _) (.cells #[.slice none 0 0] 25))
              refine hK.out _ _ ((Below.cell (p := ⟨b, off + q, none⟩) hB6 hbl).trans hk0) (fun hHeld => ?_)
              clear hK K
              have hMX : ∀ v, Mts ((World.alloc W5 (.cells #[.slice none 0 0] 25)).setCell ⟨(World.heap W5).size, 0, none⟩ v) Az Z := fun v => hM5.1.below (Below.setCell (bA (Below.refl _ _) (.cells #[.slice none 0 0] 25)) (Nat.le_refl _) v)
              clear hB5 hM5
              generalize World.alloc W5 (.cells #[.slice none 0 0] 25) = W6 at *
              have hX0L : w21.heap.size ≤ (World.heap W5).size := hX0S
              generalize (World.heap W5).size = gX at *
              try simp only [Act.put, List.setIfInBounds_toArray, List.set_cons_zero, List.set_cons_succ]
              have hgX0 : w21.heap.size ≤ gX := hX0L
              have hc := hX6.cell (i := 0) rfl
              have hf := hX6.frozen 0
              have hgX := hX6.lt
              have hlX : w21.heap.size ≤ gX := hgX0
              refine wpAnyH_ready (rs := [17]) (by kernel_rfl) (by simp) ?_
              refine AllReadyH.cons (o := ⟨none, _, _, _, _, _⟩) rfl (fun K hK => ?_) AllReadyH.nil
              go_simp
              have hBz := Below.setCell hB6 (p := ⟨gX, 0, none⟩) hlX (.slice Az zl cz)
              refine hK.out _ _ ((Below.cell (p := ⟨b, off + q, none⟩) hBz hbl).trans hk0) (fun hHeld => ?_)
              clear hK K
              try simp only [Act.put, List.setIfInBounds_toArray, List.set_cons_zero, List.set_cons_succ]
              refine wpAnyH_take (i := 18) (oi := ⟨some 22, _, _, _, _, _⟩) (v := ?_) rfl (by kernel_rfl) (by kernel_rfl) (by kernel_rfl) (fun _ _ _ h => h) (Or.inl ⟨by rfl, ?_⟩) (by assumption) ?_
              rotate_left
              · intro W hSw; go_simp; try (with_reducible rfl)
              try simp only [Act.put, List.setIfInBounds_toArray, List.set_cons_zero, List.set_cons_succ]
              refine wpAnyH_done (by kernel_rfl) ?_ _
              refine NoPanic.normal ?_
              have hRel := Lib.hid (box_set (c := cz) hX6 HZL.out hOz.out (hMX (.slice Az zl cz)))
              have hBel := Lib.hid hBz
              clear hc hf hBz
              go_wp2_with fail
              go_meet
              case rel => exact ⟨gX, Az, cz, rfl, rfl, hRel, hBel⟩
            refine AllReadyH.cons (o := ⟨some 21, _, _, _, _, _⟩) rfl (fun K hK => ?_) AllReadyH.nil
            go_simp
            have hX0S := hB4.size
            have hX5 : Blk (World.alloc W4 (.cells #[.slice none 0 0] 25)) (World.heap W4).size [.slice none 0 0] 25 := bkN1 rfl
            have hB5 := bA hB4 (.cells #[.slice none 0 0] 25)
            have hP5 := hP4.alloc (.cells #[.slice none 0 0] 25)
            refine hK.out _ _ ((Below.cell (p := ⟨b, off + q, none⟩) hB5 hbl).trans hk0) (fun hHeld => ?_)
            clear hK K
            clear hB4 hP4
            generalize World.alloc W4 (.cells #[.slice none 0 0] 25) = W5 at *
            have hX0L : w21.heap.size ≤ (World.heap W4).size := hX0S
            generalize (World.heap W4).size = gX at *
            try simp only [Act.put, List.setIfInBounds_toArray, List.set_cons_zero, List.set_cons_succ]
            have hgX0 : w21.heap.size ≤ gX := hX0L
            refine wpAnyH_ready (rs := [12]) (by kernel_rfl) (by simp) ?_
            refine AllReadyH.cons (o := ⟨some 101, _, _, _, _, _⟩) rfl (fun K hK => ?_) AllReadyH.nil
            go_simp
            (go_at_call 9; (with_reducible refine (HCz.out _ w21.heap.size A3 c3 hP5).mono ?_); rintro e W6 ⟨Az, cz, rfl, hmz, hbz⟩)
            try go_wp2_with fail
            have hOz := Lib.hid hmz.2.1
            have hM6 : Mts W6 Az Z ∧ Mts W6 Az Z := ⟨hmz.1, hmz.1⟩
            have hB6 := bC hB5 hbz
            have hX6 := bkC hX5 hbz
            have hMX : ∀ v, Mts (W6.setCell ⟨gX, 0, none⟩ v) Az Z := fun v => hmz.2.2 ⟨gX, 0, none⟩ v hX5.lt
            refine hK.out _ _ ((Below.cell (p := ⟨b, off + q, none⟩) hB6 hbl).trans hk0) (fun hHeld => ?_)
            clear hK K hmz hbz hB5 hX5 hP5
            try simp only [Act.put, List.setIfInBounds_toArray, List.set_cons_zero, List.set_cons_succ]
            refine wpAnyH_take (i := 13) (oi := ⟨some 88, _, _, _, _, _⟩) (v := ?_) rfl (by kernel_rfl) (by kernel_rfl) (by kernel_rfl) (fun _ _ _ h => h) (Or.inl ⟨by rfl, ?_⟩) (by assumption) ?_
            rotate_left
            · intro W hSw; go_simp; try (with_reducible rfl)
            try simp only [Act.put, List.setIfInBounds_toArray, List.set_cons_zero, List.set_cons_succ]
            refine wpAnyH_take (i := 14) (oi := ⟨some 102, _, _, _, _, _⟩) (v := ?_) rfl (by kernel_rfl) (by kernel_rfl) (by kernel_rfl) (fun _ _ _ h => h) (Or.inl ⟨by rfl, ?_⟩) (by assumption) ?_
            rotate_left
            · intro W hSw; go_simp; try (with_reducible rfl)
            try simp only [Act.put, List.setIfInBounds_toArray, List.set_cons_zero, List.set_cons_succ]
            refine wpAnyH_take (i := 15) (oi := ⟨some 103, _, _, _, _, _⟩) (v := ?_) rfl (by kernel_rfl) (by kernel_rfl) (by kernel_rfl) (fun _ _ _ h => h) (Or.inl ⟨by rfl, ?_⟩) (by assumption) ?_
            rotate_left
            · intro W hSw; go_simp; try (with_reducible rfl)
            try simp only [Act.put, List.setIfInBounds_toArray, List.set_cons_zero, List.set_cons_succ]
            have hc := hX6.cell (i := 0) rfl
            have hf := hX6.frozen 0
            have hgX := hX6.lt
            have hlX : w21.heap.size ≤ gX := hgX0
            refine wpAnyH_ready (rs := [17]) (by kernel_rfl) (by simp) ?_
            refine AllReadyH.cons (o := ⟨none, _, _, _, _, _⟩) rfl (fun K hK => ?_) AllReadyH.nil
            go_simp
            have hBz := Below.setCell hB6 (p := ⟨gX, 0, none⟩) hlX (.slice Az zl cz)
            refine hK.out _ _ ((Below.cell (p := ⟨b, off + q, none⟩) hBz hbl).trans hk0) (fun hHeld => ?_)
            clear hK K
            try simp only [Act.put, List.setIfInBounds_toArray, List.set_cons_zero, List.set_cons_succ]
            refine wpAnyH_take (i := 18) (oi := ⟨some 22, _, _, _, _, _⟩) (v := ?_) rfl (by kernel_rfl) (by kernel_rfl) (by kernel_rfl) (fun _ _ _ h => h) (Or.inl ⟨by rfl, ?_⟩) (by assumption) ?_
            rotate_left
            · intro W hSw; go_simp; try (with_reducible rfl)
            try simp only [Act.put, List.setIfInBounds_toArray, List.set_cons_zero, List.set_cons_succ]
            refine wpAnyH_done (by kernel_rfl) ?_ _
            refine NoPanic.normal ?_
            have hRel := Lib.hid (box_set (c := cz) hX6 HZL.out hOz.out (hMX (.slice Az zl cz)))
            have hBel := Lib.hid hBz
            clear hc hf hBz
            go_wp2_with fail
            go_meet
            case rel => exact ⟨gX, Az, cz, rfl, rfl, hRel, hBel⟩
          refine AllReadyH.cons (o := ⟨some 21, _, _, _, _, _⟩) rfl (fun K hK => ?_) AllReadyH.nil
          go_simp
          have hX0S := hB3.size
          have hX4 : Blk (World.alloc W3 (.cells #[.slice none 0 0] 25)) (World.heap W3).size [.slice none 0 0] 25 := bkN1 rfl
          have hB4 := bA hB3 (.cells #[.slice none 0 0] 25)
          have hQ4 := bkA hQ3 (.cells #[.slice none 0 0] 25)
          have hA4 := hA3.alloc (.cells #[.slice none 0 0] 25)
          refine hK.out _ _ ((Below.cell (p := ⟨b, off + q, none⟩) hB4 hbl).trans hk0) (fun hHeld => ?_)
          clear hK K
          clear hB3 hQ3 hA3
          generalize World.alloc W3 (.cells #[.slice none 0 0] 25) = W4 at *
          have hX0L : w21.heap.size ≤ (World.heap W3).size := hX0S
          generalize (World.heap W3).size = gX at *
          try simp only [Act.put, List.setIfInBounds_toArray, List.set_cons_zero, List.set_cons_succ]
          have hgX0 : w21.heap.size ≤ gX := hX0L
          refine wpAnyH_ready (rs := [11]) (by kernel_rfl) (by simp) ?_
          refine AllReadyH.cons (o := ⟨some 100, _, _, _, _, _⟩) rfl (fun K hK => ?_) AllReadyH.nil
          refine step_append_elt_at tElt (o := ⟨some 100, _, _, _, _, _⟩) rfl (.tmp 91) (.tmp 99) rfl w21.heap.size A2 nw c2 (cellsT ws) rfl hA4 ⟨gQ, 0, none⟩ 1 1 [.string Q] rfl rfl (Blk.news hQ4) (by intro u hu; simp at hu; subst hu; rfl) (by omega) (by omega) (by unfold maxLen; omega) ?_
          intro A3 c3 W5 hP5 hg _
          have hB5 := bGo hB4 hA4 hg
          have hX5 := past_own hA4 hX4 hg
          refine hK.out _ _ ((Below.cell (p := ⟨b, off + q, none⟩) hB5 hbl).trans hk0) (fun hHeld => ?_)
          clear hK K hg hB4 hQ4 hX4 hA4
          try simp only [Act.put, List.setIfInBounds_toArray, List.set_cons_zero, List.set_cons_succ]
          refine wpAnyH_ready (rs := [12]) (by kernel_rfl) (by simp) ?_
          refine AllReadyH.cons (o := ⟨some 101, _, _, _, _, _⟩) rfl (fun K hK => ?_) AllReadyH.nil
          go_simp
          (go_at_call 9; (with_reducible refine (HCz.out _ w21.heap.size A3 c3 hP5).mono ?_); rintro e W6 ⟨Az, cz, rfl, hmz, hbz⟩)
          try go_wp2_with fail
          have hOz := Lib.hid hmz.2.1
          have hM6 : Mts W6 Az Z ∧ Mts W6 Az Z := ⟨hmz.1, hmz.1⟩
          have hB6 := bC hB5 hbz
          have hX6 := bkC hX5 hbz
          have hMX : ∀ v, Mts (W6.setCell ⟨gX, 0, none⟩ v) Az Z := fun v => hmz.2.2 ⟨gX, 0, none⟩ v hX5.lt
          refine hK.out _ _ ((Below.cell (p := ⟨b, off + q, none⟩) hB6 hbl).trans hk0) (fun hHeld => ?_)
          clear hK K hmz hbz hB5 hX5 hP5
          try simp only [Act.put, List.setIfInBounds_toArray, List.set_cons_zero, List.set_cons_succ]
          refine wpAnyH_take (i := 13) (oi := ⟨some 88, _, _, _, _, _⟩) (v := ?_) rfl (by kernel_rfl) (by kernel_rfl) (by kernel_rfl) (fun _ _ _ h => h) (Or.inl ⟨by rfl, ?_⟩) (by assumption) ?_
          rotate_left
          · intro W hSw; go_simp; try (with_reducible rfl)
          try simp only [Act.put, List.setIfInBounds_toArray, List.set_cons_zero, List.set_cons_succ]
          refine wpAnyH_take (i := 14) (oi := ⟨some 102, _, _, _, _, _⟩) (v := ?_) rfl (by kernel_rfl) (by kernel_rfl) (by kernel_rfl) (fun _ _ _ h => h) (Or.inl ⟨by rfl, ?_⟩) (by assumption) ?_
          rotate_left
          · intro W hSw; go_simp; try (with_reducible rfl)
          try simp only [Act.put, List.setIfInBounds_toArray, List.set_cons_zero, List.set_cons_succ]
          refine wpAnyH_take (i := 15) (oi := ⟨some 103, _, _, _, _, _⟩) (v := ?_) rfl (by kernel_rfl) (by kernel_rfl) (by kernel_rfl) (fun _ _ _ h => h) (Or.inl ⟨by rfl, ?_⟩) (by assumption) ?_
          rotate_left
          · intro W hSw; go_simp; try (with_reducible rfl)
          try simp only [Act.put, List.setIfInBounds_toArray, List.set_cons_zero, List.set_cons_succ]
          have hc := hX6.cell (i := 0) rfl
          have hf := hX6.frozen 0
          have hgX := hX6.lt
          have hlX : w21.heap.size ≤ gX := hgX0
          refine wpAnyH_ready (rs := [17]) (by kernel_rfl) (by simp) ?_
          refine AllReadyH.cons (o := ⟨none, _, _, _, _, _⟩) rfl (fun K hK => ?_) AllReadyH.nil
          go_simp
          have hBz := Below.setCell hB6 (p := ⟨gX, 0, none⟩) hlX (.slice Az zl cz)
          refine hK.out _ _ ((Below.cell (p := ⟨b, off + q, none⟩) hBz hbl).trans hk0) (fun hHeld => ?_)
          clear hK K
          try simp only [Act.put, List.setIfInBounds_toArray, List.set_cons_zero, List.set_cons_succ]
          refine wpAnyH_take (i := 18) (oi := ⟨some 22, _, _, _, _, _⟩) (v := ?_) rfl (by kernel_rfl) (by kernel_rfl) (by kernel_rfl) (fun _ _ _ h => h) (Or.inl ⟨by rfl, ?_⟩) (by assumption) ?_
          rotate_left
          · intro W hSw; go_simp; try (with_reducible rfl)
          try simp only [Act.put, List.setIfInBounds_toArray, List.set_cons_zero, List.set_cons_succ]
          refine wpAnyH_done (by kernel_rfl) ?_ _
          refine NoPanic.normal ?_
          have hRel := Lib.hid (box_set (c := cz) hX6 HZL.out hOz.out (hMX (.slice Az zl cz)))
          have hBel := Lib.hid hBz
          clear hc hf hBz
          go_wp2_with fail
          go_meet
          case rel => exact ⟨gX, Az, cz, rfl, rfl, hRel, hBel⟩
        refine AllReadyH.cons (o := ⟨some 21, _, _, _, _, _⟩) rfl (fun K hK => ?_) AllReadyH.nil
        go_simp
        have hX0S := hB2.size
        have hX3 : Blk (World.alloc W2 (.cells #[.slice none 0 0] 25)) (World.heap W2).size [.slice none 0 0] 25 := bkN1 rfl
        have hB3 := bA hB2 (.cells #[.slice none 0 0] 25)
        have hA3 := hA2.alloc (.cells #[.slice none 0 0] 25)
        refine hK.out _ _ ((Below.cell (p := ⟨b, off + q, none⟩) hB3 hbl).trans hk0) (fun hHeld => ?_)
        clear hK K
        clear hB2 hA2
        generalize World.alloc W2 (.cells #[.slice none 0 0] 25) = W3 at *
        have hX0L : w21.heap.size ≤ (World.heap W2).size := hX0S
        generalize (World.heap W2).size = gX at *
        try simp only [Act.put, List.setIfInBounds_toArray, List.set_cons_zero, List.set_cons_succ]
        have hgX0 : w21.heap.size ≤ gX := hX0L
        refine wpAnyH_ready (rs := [10]) (by kernel_rfl) (by simp) ?_
        refine AllReadyH.cons (o := ⟨some 99, _, _, _, _, _⟩) rfl (fun K hK => ?_) AllReadyH.nil
        go_simp
        have hQ4 : Blk (World.alloc W3 (.cells #[.string Q] 9)) (World.heap W3).size [.string Q] 9 := bkN1 rfl
        have hB4 := bA hB3 (.cells #[.string Q] 9)
        have hX4 := bkA hX3 (.cells #[.string Q] 9)
        have hA4 := hA3.alloc (.cells #[.string Q] 9)
        refine hK.out _ _ ((Below.cell (p := ⟨b, off + q, none⟩) hB4 hbl).trans hk0) (fun hHeld => ?_)
        clear hK K
        clear hB3 hX3 hA3
        generalize World.alloc W3 (.cells #[.string Q] 9) = W4 at *
        generalize (World.heap W3).size = gQ at *
        try simp only [Act.put, List.setIfInBounds_toArray, List.set_cons_zero, List.set_cons_succ]
        refine wpAnyH_ready (rs := [11]) (by kernel_rfl) (by simp) ?_
        refine AllReadyH.cons (o := ⟨some 100, _, _, _, _, _⟩) rfl (fun K hK => ?_) AllReadyH.nil
        refine step_append_elt_at tElt (o := ⟨some 100, _, _, _, _, _⟩) rfl (.tmp 91) (.tmp 99) rfl w21.heap.size A2 nw c2 (cellsT ws) rfl hA4 ⟨gQ, 0, none⟩ 1 1 [.string Q] rfl rfl (Blk.news hQ4) (by intro u hu; simp at hu; subst hu; rfl) (by omega) (by omega) (by unfold maxLen; omega) ?_
        intro A3 c3 W5 hP5 hg _
        have hB5 := bGo hB4 hA4 hg
        have hX5 := past_own hA4 hX4 hg
        refine hK.out _ _ ((Below.cell (p := ⟨b, off + q, none⟩) hB5 hbl).trans hk0) (fun hHeld => ?_)
        clear hK K hg hB4 hQ4 hX4 hA4
        try simp only [Act.put, List.setIfInBounds_toArray, List.set_cons_zero, List.set_cons_succ]
        refine wpAnyH_ready (rs := [12]) (by kernel_rfl) (by simp) ?_
        refine AllReadyH.cons (o := ⟨some 101, _, _, _, _, _⟩) rfl (fun K hK => ?_) AllReadyH.nil
        go_simp
        (go_at_call 9; (with_reducible refine (HCz.out _ w21.heap.size A3 c3 hP5).mono ?_); rintro e W6 ⟨Az, cz, rfl, hmz, hbz⟩)
        try go_wp2_with fail
        have hOz := Lib.hid hmz.2.1
        have hM6 : Mts W6 Az Z ∧ Mts W6 Az Z := ⟨hmz.1, hmz.1⟩
        have hB6 := bC hB5 hbz
        have hX6 := bkC hX5 hbz
        have hMX : ∀ v, Mts (W6.setCell ⟨gX, 0, none⟩ v) Az Z := fun v => hmz.2.2 ⟨gX, 0, none⟩ v hX5.lt
        refine hK.out _ _ ((Below.cell (p := ⟨b, off + q, none⟩) hB6 hbl).trans hk0) (fun hHeld => ?_)
        clear hK K hmz hbz hB5 hX5 hP5
        try simp only [Act.put, List.setIfInBounds_toArray, List.set_cons_zero, List.set_cons_succ]
        refine wpAnyH_take (i := 13) (oi := ⟨some 88, _, _, _, _, _⟩) (v := ?_) rfl (by kernel_rfl) (by kernel_rfl) (by kernel_rfl) (fun _ _ _ h => h) (Or.inl ⟨by rfl, ?_⟩) (by assumption) ?_
        rotate_left
        · intro W hSw; go_simp; try (with_reducible rfl)
        try simp only [Act.put, List.setIfInBounds_toArray, List.set_cons_zero, List.set_cons_succ]
        refine wpAnyH_take (i := 14) (oi := ⟨some 102, _, _, _, _, _⟩) (v := ?_) rfl (by kernel_rfl) (by kernel_rfl) (by kernel_rfl) (fun _ _ _ h => h) (Or.inl ⟨by rfl, ?_⟩) (by assumption) ?_
        rotate_left
        · intro W hSw; go_simp; try (with_reducible rfl)
        try simp only [Act.put, List.setIfInBounds_toArray, List.set_cons_zero, List.set_cons_succ]
        refine wpAnyH_take (i := 15) (oi := ⟨some 103, _, _, _, _, _⟩) (v := ?_) rfl (by kernel_rfl) (by kernel_rfl) (by kernel_rfl) (fun _ _ _ h => h) (Or.inl ⟨by rfl, ?_⟩) (by assumption) ?_
        rotate_left
        · intro W hSw; go_simp; try (with_reducible rfl)
        try simp only [Act.put, List.setIfInBounds_toArray, List.set_cons_zero, List.set_cons_succ]
        have hc := hX6.cell (i := 0) rfl
        have hf := hX6.frozen 0
        have hgX := hX6.lt
        have hlX : w21.heap.size ≤ gX := hgX0
        refine wpAnyH_ready (rs := [17]) (by kernel_rfl) (by simp) ?_
        refine AllReadyH.cons (o := ⟨none, _, _, _, _, _⟩) rfl (fun K hK => ?_) AllReadyH.nil
        go_simp
        have hBz := Below.setCell hB6 (p := ⟨gX, 0, none⟩) hlX (.slice Az zl cz)
        refine hK.out _ _ ((Below.cell (p := ⟨b, off + q, none⟩) hBz hbl).trans hk0) (fun hHeld => ?_)
        clear hK K
        try simp only [Act.put, List.setIfInBounds_toArray, List.set_cons_zero, List.set_cons_succ]
        refine wpAnyH_take (i := 18) (oi := ⟨some 22, _, _, _, _, _⟩) (v := ?_) rfl (by kernel_rfl) (by kernel_rfl) (by kernel_rfl) (fun _ _ _ h => h) (Or.inl ⟨by rfl, ?_⟩) (by assumption) ?_
        rotate_left
        · intro W hSw; go_simp; try (with_reducible rfl)
        try simp only [Act.put, List.setIfInBounds_toArray, List.set_cons_zero, List.set_cons_succ]
        refine wpAnyH_done (by kernel_rfl) ?_ _
        refine NoPanic.normal ?_
        have hRel := Lib.hid (box_set (c := cz) hX6 HZL.out hOz.out (hMX (.slice Az zl cz)))
        have hBel := Lib.hid hBz
        clear hc hf hBz
        go_wp2_with fail
        go_meet
        case rel => exact ⟨gX, Az, cz, rfl, rfl, hRel, hBel⟩
      refine AllReadyH.cons (o := ⟨some 99, _, _, _, _, _⟩) rfl (fun K hK => ?_) ?_
      · skip
        go_simp
        have hQ2 : Blk (World.alloc W1 (.cells #[.string Q] 9)) (World.heap W1).size [.string Q] 9 := bkN1 rfl
        have hB2 := bA hB1 (.cells #[.string Q] 9)
        have hE2 := bkA hE1 (.cells #[.string Q] 9)
        have hlE2 := hlE1
        refine hK.out _ _ ((Below.cell (p := ⟨b, off + q, none⟩) hB2 hbl).trans hk0) (fun hHeld => ?_)
        clear hK K
        clear hB1 hE1 hlE1
        generalize World.alloc W1 (.cells #[.string Q] 9) = W2 at *
        generalize (World.heap W1).size = gQ at *
        try simp only [Act.put, List.setIfInBounds_toArray, List.set_cons_zero, List.set_cons_succ]
        refine wpAnyH_ready (rs := [2, 16]) (by kernel_rfl) (by simp) ?_
        refine AllReadyH.cons (o := ⟨some 91, _, _, _, _, _⟩) rfl (fun K hK => ?_) ?_
        · skip
          refine step_append_elt_at tElt (o := ⟨some 91, _, _, _, _, _⟩) rfl (.tmp 89) (.tmp 90) rfl w21.heap.size (some ⟨gE, 0, none⟩) 0 0 [] rfl (lit_ownB hE2 hlE2) ⟨b, off, none⟩ nw cw (cellsT ws) rfl HL1.out (txts_news (HT21.out.below hB2)) (one_cell ws) (by omega) (by omega) (by unfold maxLen; omega) ?_
          intro A2 c2 W3 hA3 hg _
          try simp only [Nat.zero_add]
          rw [List.nil_append, Nat.zero_add] at hA3
          have hB3 := bG hB2 hg (fun z hz => by simp [ownB] at hz; omega)
          have hQ3 := past_lit hE2 hQ2 (by simp) hg
          refine hK.out _ _ ((Below.cell (p := ⟨b, off + q, none⟩) hB3 hbl).trans hk0) (fun hHeld => ?_)
          clear hK K hg hB2 hE2 hlE2 hQ2
          try simp only [Act.put, List.setIfInBounds_toArray, List.set_cons_zero, List.set_cons_succ]
          refine wpAnyH_ready (rs := [11, 16]) (by kernel_rfl) (by simp) ?_
          refine AllReadyH.cons (o := ⟨some 100, _, _, _, _, _⟩) rfl (fun K hK => ?_) ?_
          · skip
            refine step_append_elt_at tElt (o := ⟨some 100, _, _, _, _, _⟩) rfl (.tmp 91) (.tmp 99) rfl w21.heap.size A2 nw c2 (cellsT ws) rfl hA3 ⟨gQ, 0, none⟩ 1 1 [.string Q] rfl rfl (Blk.news hQ3) (by intro u hu; simp at hu; subst hu; rfl) (by omega) (by omega) (by unfold maxLen; omega) ?_
            intro A3 c3 W4 hP4 hg _
            have hB4 := bGo hB3 hA3 hg
            refine hK.out _ _ ((Below.cell (p := ⟨b, off + q, none⟩) hB4 hbl).trans hk0) (fun hHeld => ?_)
            clear hK K hg hB3 hQ3 hA3
            try simp only [Act.put, List.setIfInBounds_toArray, List.set_cons_zero, List.set_cons_succ]
            refine wpAnyH_ready (rs := [12, 16]) (by kernel_rfl) (by simp) ?_
            refine AllReadyH.cons (o := ⟨some 101, _, _, _, _, _⟩) rfl (fun K hK => ?_) ?_
            · skip
              go_simp
              (go_at_call 9; (with_reducible refine (HCz.out _ w21.heap.size A3 c3 hP4).mono ?_); rintro e W5 ⟨Az, cz, rfl, hmz, hbz⟩)
              try go_wp2_with fail
              have hOz := Lib.hid hmz.2.1
              have hM5 : Mts W5 Az Z ∧ Mts W5 Az Z := ⟨hmz.1, hmz.1⟩
              have hB5 := bC hB4 hbz
              refine hK.out _ _ ((Below.cell (p := ⟨b, off + q, none⟩) hB5 hbl).trans hk0) (fun hHeld => ?_)
              clear hK K hmz hbz hB4 hP4
              try simp only [Act.put, List.setIfInBounds_toArray, List.set_cons_zero, List.set_cons_succ]
              refine wpAnyH_take (i := 13) (oi := ⟨some 88, _, _, _, _, _⟩) (v := ?_) rfl (by kernel_rfl) (by kernel_rfl) (by kernel_rfl) (fun _ _ _ h => h) (Or.inl ⟨by rfl, ?_⟩) (by assumption) ?_
              rotate_left
              · intro W hSw; go_simp; try (with_reducible rfl)
              try simp only [Act.put, List.setIfInBounds_toArray, List.set_cons_zero, List.set_cons_succ]
              refine wpAnyH_take (i := 14) (oi := ⟨some 102, _, _, _, _, _⟩) (v := ?_) rfl (by kernel_rfl) (by kernel_rfl) (by kernel_rfl) (fun _ _ _ h => h) (Or.inl ⟨by rfl, ?_⟩) (by assumption) ?_
              rotate_left
              · intro W hSw; go_simp; try (with_reducible rfl)
              try simp only [Act.put, List.setIfInBounds_toArray, List.set_cons_zero, List.set_cons_succ]
              refine wpAnyH_take (i := 15) (oi := ⟨some 103, _, _, _, _, _⟩) (v := ?_) rfl (by kernel_rfl) (by kernel_rfl) (by kernel_rfl) (fun _ _ _ h => h) (Or.inl ⟨by rfl, ?_⟩) (by assumption) ?_
              rotate_left
              · intro W hSw; go_simp; try (with_reducible rfl)
              try simp only [Act.put, List.setIfInBounds_toArray, List.set_cons_zero, List.set_cons_succ]
              refine wpAnyH_ready (rs := [16]) (by kernel_rfl) (by simp) ?_
              refine AllReadyH.cons (o := ⟨some 21, _, _, _, _, _⟩) rfl (fun K hK => ?_) AllReadyH.nil
              go_simp
              have hX0S := hB5.size
              have hX6 : Blk (World.alloc W5 (.cells #[.slice none 0 0] 25)) (World.heap W5).size [.slice none 0 0] 25 := bkN1 rfl
              have hB6 := bA hB5 (.cells #[.slice none 0 0] 25)
              have hM6 := hM5.2.below (bA (Below.refl _ _) (.cells #[.slice none 0 0] 25))
              refine hK.out _ _ ((Below.cell (p := ⟨b, off + q, none⟩) hB6 hbl).trans hk0) (fun hHeld => ?_)
              clear hK K
              have hMX : ∀ v, Mts ((World.alloc W5 (.cells #[.slice none 0 0] 25)).setCell ⟨(World.heap W5).size, 0, none⟩ v) Az Z := fun v => hM5.1.below (Below.setCell (bA (Below.refl _ _) (.cells #[.slice none 0 0] 25)) (Nat.le_refl _) v)
              clear hB5 hM5
              generalize World.alloc W5 (.cells #[.slice none 0 0] 25) = W6 at *
              have hX0L : w21.heap.size ≤ (World.heap W5).size := hX0S
              generalize (World.heap W5).size = gX at *
              try simp only [Act.put, List.setIfInBounds_toArray, List.set_cons_zero, List.set_cons_succ]
              have hgX0 : w21.heap.size ≤ gX := hX0L
              have hc := hX6.cell (i := 0) rfl
              have hf := hX6.frozen 0
              have hgX := hX6.lt
              have hlX : w21.heap.size ≤ gX := hgX0
              refine wpAnyH_ready (rs := [17]) (by kernel_rfl) (by simp) ?_
              refine AllReadyH.cons (o := ⟨none, _, _, _, _, _⟩) rfl (fun K hK => ?_) AllReadyH.nil
              go_simp
              have hBz := Below.setCell hB6 (p := ⟨gX, 0, none⟩) hlX (.slice Az zl cz)
              refine hK.out _ _ ((Below.cell (p := ⟨b, off + q, none⟩) hBz hbl).trans hk0) (fun hHeld => ?_)
              clear hK K
              try simp only [Act.put, List.setIfInBounds_toArray, List.set_cons_zero, List.set_cons_succ]
              refine wpAnyH_take (i := 18) (oi := ⟨some 22, _, _, _, _, _⟩) (v := ?_) rfl (by kernel_rfl) (by kernel_rfl) (by kernel_rfl) (fun _ _ _ h => h) (Or.inl ⟨by rfl, ?_⟩) (by assumption) ?_
              rotate_left
              · intro W hSw; go_simp; try (with_reducible rfl)
              try simp only [Act.put, List.setIfInBounds_toArray, List.set_cons_zero, List.set_cons_succ]
              refine wpAnyH_done (by kernel_rfl) ?_ _
              refine NoPanic.normal ?_
              have hRel := Lib.hid (box_set (c := cz) hX6 HZL.out hOz.out (hMX (.slice Az zl cz)))
              have hBel := Lib.hid hBz
              clear hc hf hBz
              go_wp2_with fail
              go_meet
              case rel => exact ⟨gX, Az, cz, rfl, rfl, hRel, hBel⟩
            refine AllReadyH.cons (o := ⟨some 21, _, _, _, _, _⟩) rfl (fun K hK => ?_) AllReadyH.nil
            go_simp
            have hX0S := hB4.size
            have hX5 : Blk (World.alloc W4 (.cells #[.slice none 0 0] 25)) (World.heap W4).size [.slice none 0 0] 25 := bkN1 rfl
            have hB5 := bA hB4 (.cells #[.slice none 0 0] 25)
            have hP5 := hP4.alloc (.cells #[.slice none 0 0] 25)
            refine hK.out _ _ ((Below.cell (p := ⟨b, off + q, none⟩) hB5 hbl).trans hk0) (fun hHeld => ?_)
            clear hK K
            clear hB4 hP4
            generalize World.alloc W4 (.cells #[.slice none 0 0] 25) = W5 at *
            have hX0L : w21.heap.size ≤ (World.heap W4).size := hX0S
            generalize (World.heap W4).size = gX at *
            try simp only [Act.put, List.setIfInBounds_toArray, List.set_cons_zero, List.set_cons_succ]
            have hgX0 : w21.heap.size ≤ gX := hX0L
            refine wpAnyH_ready (rs := [12]) (by kernel_rfl) (by simp) ?_
            refine AllReadyH.cons (o := ⟨some 101, _, _, _, _, _⟩) rfl (fun K hK => ?_) AllReadyH.nil
            go_simp
            (go_at_call 9; (with_reducible refine (HCz.out _ w21.heap.size A3 c3 hP5).mono ?_); rintro e W6 ⟨Az, cz, rfl, hmz, hbz⟩)
            try go_wp2_with fail
            have hOz := Lib.hid hmz.2.1
            have hM6 : Mts W6 Az Z ∧ Mts W6 Az Z := ⟨hmz.1, hmz.1⟩
            have hB6 := bC hB5 hbz
            have hX6 := bkC hX5 hbz
            have hMX : ∀ v, Mts (W6.setCell ⟨gX, 0, none⟩ v) Az Z := fun v => hmz.2.2 ⟨gX, 0, none⟩ v hX5.lt
            refine hK.out _ _ ((Below.cell (p := ⟨b, off + q, none⟩) hB6 hbl).trans hk0) (fun hHeld => ?_)
            clear hK K hmz hbz hB5 hX5 hP5
            try simp only [Act.put, List.setIfInBounds_toArray, List.set_cons_zero, List.set_cons_succ]
            refine wpAnyH_take (i := 13) (oi := ⟨some 88, _, _, _, _, _⟩) (v := ?_) rfl (by kernel_rfl) (by kernel_rfl) (by kernel_rfl) (fun _ _ _ h => h) (Or.inl ⟨by rfl, ?_⟩) (by assumption) ?_
            rotate_left
            · intro W hSw; go_simp; try (with_reducible rfl)
            try simp only [Act.put, List.setIfInBounds_toArray, List.set_cons_zero, List.set_cons_succ]
            refine wpAnyH_take (i := 14) (oi := ⟨some 102, _, _, _, _, _⟩) (v := ?_) rfl (by kernel_rfl) (by kernel_rfl) (by kernel_rfl) (fun _ _ _ h => h) (Or.inl ⟨by rfl, ?_⟩) (by assumption) ?_
            rotate_left
            · intro W hSw; go_simp; try (with_reducible rfl)
            try simp only [Act.put, List.setIfInBounds_toArray, List.set_cons_zero, List.set_cons_succ]
            refine wpAnyH_take (i := 15) (oi := ⟨some 103, _, _, _, _, _⟩) (v := ?_) rfl (by kernel_rfl) (by kernel_rfl) (by kernel_rfl) (fun _ _ _ h => h) (Or.inl ⟨by rfl, ?_⟩) (by assumption) ?_
            rotate_left
            · intro W hSw; go_simp; try (with_reducible rfl)
            try simp only [Act.put, List.setIfInBounds_toArray, List.set_cons_zero, List.set_cons_succ]
            have hc := hX6.cell (i := 0) rfl
            have hf := hX6.frozen 0
            have hgX := hX6.lt
            have hlX : w21.heap.size ≤ gX := hgX0
            refine wpAnyH_ready (rs := [17]) (by kernel_rfl) (by simp) ?_
            refine AllReadyH.cons (o := ⟨none, _, _, _, _, _⟩) rfl (fun K hK => ?_) AllReadyH.nil
            go_simp
            have hBz := Below.setCell hB6 (p := ⟨gX, 0, none⟩) hlX (.slice Az zl cz)
            refine hK.out _ _ ((Below.cell (p := ⟨b, off + q, none⟩) hBz hbl).trans hk0) (fun hHeld => ?_)
            clear hK K
            try simp only [Act.put, List.setIfInBounds_toArray, List.set_cons_zero, List.set_cons_succ]
            refine wpAnyH_take (i := 18) (oi := ⟨some 22, _, _, _, _, _⟩) (v := ?_) rfl (by kernel_rfl) (by kernel_rfl) (by kernel_rfl) (fun _ _ _ h => h) (Or.inl ⟨by rfl, ?_⟩) (by assumption) ?_
            rotate_left
            · intro W hSw; go_simp; try (with_reducible rfl)
            try simp only [Act.put, List.setIfInBounds_toArray, List.set_cons_zero, List.set_cons_succ]
            refine wpAnyH_done (by kernel_rfl) ?_ _
            refine NoPanic.normal ?_
            have hRel := Lib.hid (box_set (c := cz) hX6 HZL.out hOz.out (hMX (.slice Az zl cz)))
            have hBel := Lib.hid hBz
            clear hc hf hBz
            go_wp2_with fail
            go_meet
            case rel => exact ⟨gX, Az, cz, rfl, rfl, hRel, hBel⟩
          refine AllReadyH.cons (o := ⟨some 21, _, _, _, _, _⟩) rfl (fun K hK => ?_) AllReadyH.nil
          go_simp
          have hX0S := hB3.size
          have hX4 : Blk (World.alloc W3 (.cells #[.slice none 0 0] 25)) (World.heap W3).size [.slice none 0 0] 25 := bkN1 rfl
          have hB4 := bA hB3 (.cells #[.slice none 0 0] 25)
          have hQ4 := bkA hQ3 (.cells #[.slice none 0 0] 25)
          have hA4 := hA3.alloc (.cells #[.slice none 0 0] 25)
          refine hK.out _ _ ((Below.cell (p := ⟨b, off + q, none⟩) hB4 hbl).trans hk0) (fun hHeld => ?_)
          clear hK K
          clear hB3 hQ3 hA3
          generalize World.alloc W3 (.cells #[.slice none 0 0] 25) = W4 at *
          have hX0L : w21.heap.size ≤ (World.heap W3).size := hX0S
          generalize (World.heap W3).size = gX at *
          try simp only [Act.put, List.setIfInBounds_toArray, List.set_cons_zero, List.set_cons_succ]
          have hgX0 : w21.heap.size ≤ gX := hX0L
          refine wpAnyH_ready (rs := [11]) (by kernel_rfl) (by simp) ?_
          refine AllReadyH.cons (o := ⟨some 100, _, _, _, _, _⟩) rfl (fun K hK => ?_) AllReadyH.nil
          refine step_append_elt_at tElt (o := ⟨some 100, _, _, _, _, _⟩) rfl (.tmp 91) (.tmp 99) rfl w21.heap.size A2 nw c2 (cellsT ws) rfl hA4 ⟨gQ, 0, none⟩ 1 1 [.string Q] rfl rfl (Blk.news hQ4) (by intro u hu; simp at hu; subst hu; rfl) (by omega) (by omega) (by unfold maxLen; omega) ?_
          intro A3 c3 W5 hP5 hg _
          have hB5 := bGo hB4 hA4 hg
          have hX5 := past_own hA4 hX4 hg
          refine hK.out _ _ ((Below.cell (p := ⟨b, off + q, none⟩) hB5 hbl).trans hk0) (fun hHeld => ?_)
          clear hK K hg hB4 hQ4 hX4 hA4
          try simp only [Act.put, List.setIfInBounds_toArray, List.set_cons_zero, List.set_cons_succ]
          refine wpAnyH_ready (rs := [12]) (by kernel_rfl) (by simp) ?_
          refine AllReadyH.cons (o := ⟨some 101, _, _, _, _, _⟩) rfl (fun K hK => ?_) AllReadyH.nil
          go_simp
          (go_at_call 9; (with_reducible refine (HCz.out _ w21.heap.size A3 c3 hP5).mono ?_); rintro e W6 ⟨Az, cz, rfl, hmz, hbz⟩)
          try go_wp2_with fail
          have hOz := Lib.hid hmz.2.1
          have hM6 : Mts W6 Az Z ∧ Mts W6 Az Z := ⟨hmz.1, hmz.1⟩
          have hB6 := bC hB5 hbz
          have hX6 := bkC hX5 hbz
          have hMX : ∀ v, Mts (W6.setCell ⟨gX, 0, none⟩ v) Az Z := fun v => hmz.2.2 ⟨gX, 0, none⟩ v hX5.lt
          refine hK.out _ _ ((Below.cell (p := ⟨b, off + q, none⟩) hB6 hbl).trans hk0) (fun hHeld => ?_)
          clear hK K hmz hbz hB5 hX5 hP5
          try simp only [Act.put, List.setIfInBounds_toArray, List.set_cons_zero, List.set_cons_succ]
          refine wpAnyH_take (i := 13) (oi := ⟨some 88, _, _, _, _, _⟩) (v := ?_) rfl (by kernel_rfl) (by kernel_rfl) (by kernel_rfl) (fun _ _ _ h => h) (Or.inl ⟨by rfl, ?_⟩) (by assumption) ?_
          rotate_left
          · intro W hSw; go_simp; try (with_reducible rfl)
          try simp only [Act.put, List.setIfInBounds_toArray, List.set_cons_zero, List.set_cons_succ]
          refine wpAnyH_take (i := 14) (oi := ⟨some 102, _, _, _, _, _⟩) (v := ?_) rfl (by kernel_rfl) (by kernel_rfl) (by kernel_rfl) (fun _ _ _ h => h) (Or.inl ⟨by rfl, ?_⟩) (by assumption) ?_
          rotate_left
          · intro W hSw; go_simp; try (with_reducible rfl)
          try simp only [Act.put, List.setIfInBounds_toArray, List.set_cons_zero, List.set_cons_succ]
          refine wpAnyH_take (i := 15) (oi := ⟨some 103, _, _, _, _, _⟩) (v := ?_) rfl (by kernel_rfl) (by kernel_rfl) (by kernel_rfl) (fun _ _ _ h => h) (Or.inl ⟨by rfl, ?_⟩) (by assumption) ?_
          rotate_left
          · intro W hSw; go_simp; try (with_reducible rfl)
          try simp only [Act.put, List.setIfInBounds_toArray, List.set_cons_zero, List.set_cons_succ]
          have hc := hX6.cell (i := 0) rfl
          have hf := hX6.frozen 0
          have hgX := hX6.lt
          have hlX : w21.heap.size ≤ gX := hgX0
          refine wpAnyH_ready (rs := [17]) (by kernel_rfl) (by simp) ?_
          refine AllReadyH.cons (o := ⟨none, _, _, _, _, _⟩) rfl (fun K hK => ?_) AllReadyH.nil
          go_simp
          have hBz := Below.setCell hB6 (p := ⟨gX, 0, none⟩) hlX (.slice Az zl cz)
          refine hK.out _ _ ((Below.cell (p := ⟨b, off + q, none⟩) hBz hbl).trans hk0) (fun hHeld => ?_)
          clear hK K
          try simp only [Act.put, List.setIfInBounds_toArray, List.set_cons_zero, List.set_cons_succ]
          refine wpAnyH_take (i := 18) (oi := ⟨some 22, _, _, _, _, _⟩) (v := ?_) rfl (by kernel_rfl) (by kernel_rfl) (by kernel_rfl) (fun _ _ _ h => h) (Or.inl ⟨by rfl, ?_⟩) (by assumption) ?_
          rotate_left
          · intro W hSw; go_simp; try (with_reducible rfl)
          try simp only [Act.put, List.setIfInBounds_toArray, List.set_cons_zero, List.set_cons_succ]
          refine wpAnyH_done (by kernel_rfl) ?_ _
          refine NoPanic.normal ?_
          have hRel := Lib.hid (box_set (c := cz) hX6 HZL.out hOz.out (hMX (.slice Az zl cz)))
          have hBel := Lib.hid hBz
          clear hc hf hBz
          go_wp2_with fail
          go_meet
          case rel => exact ⟨gX, Az, cz, rfl, rfl, hRel, hBel⟩
        refine AllReadyH.cons (o := ⟨some 21, _, _, _, _, _⟩) rfl (fun K hK => ?_) AllReadyH.nil
        go_simp
        have hX0S := hB2.size
        have hX3 : Blk (World.alloc W2 (.cells #[.slice none 0 0] 25)) (World.heap W2).size [.slice none 0 0] 25 := bkN1 rfl
        have hB3 := bA hB2 (.cells #[.slice none 0 0] 25)
        have hE3 := bkA hE2 (.cells #[.slice none 0 0] 25)
        have hlE3 := hlE2
        have hQ3 := bkA hQ2 (.cells #[.slice none 0 0] 25)
        refine hK.out _ _ ((Below.cell (p := ⟨b, off + q, none⟩) hB3 hbl).trans hk0) (fun hHeld => ?_)
        clear hK K
        clear hB2 hE2 hlE2 hQ2
        generalize World.alloc W2 (.cells #[.slice none 0 0] 25) = W3 at *
        have hX0L : w21.heap.size ≤ (World.heap W2).size := hX0S
        generalize (World.heap W2).size = gX at *
        try simp only [Act.put, List.setIfInBounds_toArray, List.set_cons_zero, List.set_cons_succ]
        have hgX0 : w21.heap.size ≤ gX := hX0L
        refine wpAnyH_ready (rs := [2]) (by kernel_rfl) (by simp) ?_
        refine AllReadyH.cons (o := ⟨some 91, _, _, _, _, _⟩) rfl (fun K hK => ?_) AllReadyH.nil
        refine step_append_elt_at tElt (o := ⟨some 91, _, _, _, _, _⟩) rfl (.tmp 89) (.tmp 90) rfl w21.heap.size (some ⟨gE, 0, none⟩) 0 0 [] rfl (lit_ownB hE3 hlE3) ⟨b, off, none⟩ nw cw (cellsT ws) rfl HL1.out (txts_news (HT21.out.below hB3)) (one_cell ws) (by omega) (by omega) (by unfold maxLen; omega) ?_
        intro A2 c2 W4 hA4 hg _
        try simp only [Nat.zero_add]
        rw [List.nil_append, Nat.zero_add] at hA4
        have hB4 := bG hB3 hg (fun z hz => by simp [ownB] at hz; omega)
        have hQ4 := past_lit hE3 hQ3 (by simp) hg
        have hX4 := past_lit hE3 hX3 (by simp) hg
        refine hK.out _ _ ((Below.cell (p := ⟨b, off + q, none⟩) hB4 hbl).trans hk0) (fun hHeld => ?_)
        clear hK K hg hB3 hE3 hlE3 hQ3 hX3
        try simp only [Act.put, List.setIfInBounds_toArray, List.set_cons_zero, List.set_cons_succ]
        refine wpAnyH_ready (rs := [11]) (by kernel_rfl) (by simp) ?_
        refine AllReadyH.cons (o := ⟨some 100, _, _, _, _, _⟩) rfl (fun K hK => ?_) AllReadyH.nil
        refine step_append_elt_at tElt (o := ⟨some 100, _, _, _, _, _⟩) rfl (.tmp 91) (.tmp 99) rfl w21.heap.size A2 nw c2 (cellsT ws) rfl hA4 ⟨gQ, 0, none⟩ 1 1 [.string Q] rfl rfl (Blk.news hQ4) (by intro u hu; simp at hu; subst hu; rfl) (by omega) (by omega) (by unfold maxLen; omega) ?_
        intro A3 c3 W5 hP5 hg _
        have hB5 := bGo hB4 hA4 hg
        have hX5 := past_own hA4 hX4 hg
        refine hK.out _ _ ((Below.cell (p := ⟨b, off + q, none⟩) hB5 hbl).trans hk0) (fun hHeld => ?_)
        clear hK K hg hB4 hQ4 hX4 hA4
        try simp only [Act.put, List.setIfInBounds_toArray, List.set_cons_zero, List.set_cons_succ]
        refine wpAnyH_ready (rs := [12]) (by kernel_rfl) (by simp) ?_
        refine AllReadyH.cons (o := ⟨some 101, _, _, _, _, _⟩) rfl (fun K hK => ?_) AllReadyH.nil
        go_simp
        (go_at_call 9; (with_reducible refine (HCz.out _ w21.heap.size A3 c3 hP5).mono ?_); rintro e W6 ⟨Az, cz, rfl, hmz, hbz⟩)
        try go_wp2_with fail
        have hOz := Lib.hid hmz.2.1
        have hM6 : Mts W6 Az Z ∧ Mts W6 Az Z := ⟨hmz.1, hmz.1⟩
        have hB6 := bC hB5 hbz
        have hX6 := bkC hX5 hbz
        have hMX : ∀ v, Mts (W6.setCell ⟨gX, 0, none⟩ v) Az Z := fun v => hmz.2.2 ⟨gX, 0, none⟩ v hX5.lt
        refine hK.out _ _ ((Below.cell (p := ⟨b, off + q, none⟩) hB6 hbl).trans hk0) (fun hHeld => ?_)
        clear hK K hmz hbz hB5 hX5 hP5
        try simp only [Act.put, List.setIfInBounds_toArray, List.set_cons_zero, List.set_cons_succ]
        refine wpAnyH_take (i := 13) (oi := ⟨some 88, _, _, _, _, _⟩) (v := ?_) rfl (by kernel_rfl) (by kernel_rfl) (by kernel_rfl) (fun _ _ _ h => h) (Or.inl ⟨by rfl, ?_⟩) (by assumption) ?_
        rotate_left
        · intro W hSw; go_simp; try (with_reducible rfl)
        try simp only [Act.put, List.setIfInBounds_toArray, List.set_cons_zero, List.set_cons_succ]
        refine wpAnyH_take (i := 14) (oi := ⟨some 102, _, _, _, _, _⟩) (v := ?_) rfl (by kernel_rfl) (by kernel_rfl) (by kernel_rfl) (fun _ _ _ h => h) (Or.inl ⟨by rfl, ?_⟩) (by assumption) ?_
        rotate_left
        · intro W hSw; go_simp; try (with_reducible rfl)
        try simp only [Act.put, List.setIfInBounds_toArray, List.set_cons_zero, List.set_cons_succ]
        refine wpAnyH_take (i := 15) (oi := ⟨some 103, _, _, _, _, _⟩) (v := ?_) rfl (by kernel_rfl) (by kernel_rfl) (by kernel_rfl) (fun _ _ _ h => h) (Or.inl ⟨by rfl, ?_⟩) (by assumption) ?_
        rotate_left
        · intro W hSw; go_simp; try (with_reducible rfl)
        try simp only [Act.put, List.setIfInBounds_toArray, List.set_cons_zero, List.set_cons_succ]
        have hc := hX6.cell (i := 0) rfl
        have hf := hX6.frozen 0
        have hgX := hX6.lt
        have hlX : w21.heap.size ≤ gX := hgX0
        refine wpAnyH_ready (rs := [17]) (by kernel_rfl) (by simp) ?_
        refine AllReadyH.cons (o := ⟨none, _, _, _, _, _⟩) rfl (fun K hK => ?_) AllReadyH.nil
        go_simp
        have hBz := Below.setCell hB6 (p := ⟨gX, 0, none⟩) hlX (.slice Az zl cz)
        refine hK.out _ _ ((Below.cell (p := ⟨b, off + q, none⟩) hBz hbl).trans hk0) (fun hHeld => ?_)
        clear hK K
        try simp only [Act.put, List.setIfInBounds_toArray, List.set_cons_zero, List.set_cons_succ]
        refine wpAnyH_take (i := 18) (oi := ⟨some 22, _, _, _, _, _⟩) (v := ?_) rfl (by kernel_rfl) (by kernel_rfl) (by kernel_rfl) (fun _ _ _ h => h) (Or.inl ⟨by rfl, ?_⟩) (by assumption) ?_
        rotate_left
        · intro W hSw; go_simp; try (with_reducible rfl)
        try simp only [Act.put, List.setIfInBounds_toArray, List.set_cons_zero, List.set_cons_succ]
        refine wpAnyH_done (by kernel_rfl) ?_ _
        refine NoPanic.normal ?_
        have hRel := Lib.hid (box_set (c := cz) hX6 HZL.out hOz.out (hMX (.slice Az zl cz)))
        have hBel := Lib.hid hBz
        clear hc hf hBz
        go_wp2_with fail
        go_meet
        case rel => exact ⟨gX, Az, cz, rfl, rfl, hRel, hBel⟩
      refine AllReadyH.cons (o := ⟨some 21, _, _, _, _, _⟩) rfl (fun K hK => ?_) AllReadyH.nil
      go_simp
      have hX0S := hB1.size
      have hX2 : Blk (World.alloc W1 (.cells #[.slice none 0 0] 25)) (World.heap W1).size [.slice none 0 0] 25 := bkN1 rfl
      have hB2 := bA hB1 (.cells #[.slice none 0 0] 25)
      have hE2 := bkA hE1 (.cells #[.slice none 0 0] 25)
      have hlE2 := hlE1
      refine hK.out _ _ ((Below.cell (p := ⟨b, off + q, none⟩) hB2 hbl).trans hk0) (fun hHeld => ?_)
      clear hK K
      clear hB1 hE1 hlE1
      generalize World.alloc W1 (.cells #[.slice none 0 0] 25) = W2 at *
      have hX0L : w21.heap.size ≤ (World.heap W1).size := hX0S
      generalize (World.heap W1).size = gX at *
      try simp only [Act.put, List.setIfInBounds_toArray, List.set_cons_zero, List.set_cons_succ]
      have hgX0 : w21.heap.size ≤ gX := hX0L
      refine wpAnyH_ready (rs := [2, 10]) (by kernel_rfl) (by simp) ?_
      refine AllReadyH.cons (o := ⟨some 91, _, _, _, _, _⟩) rfl (fun K hK => ?_) ?_
      · skip
        refine step_append_elt_at tElt (o := ⟨some 91, _, _, _, _, _⟩) rfl (.tmp 89) (.tmp 90) rfl w21.heap.size (some ⟨gE, 0, none⟩) 0 0 [] rfl (lit_ownB hE2 hlE2) ⟨b, off, none⟩ nw cw (cellsT ws) rfl HL1.out (txts_news (HT21.out.below hB2)) (one_cell ws) (by omega) (by omega) (by unfold maxLen; omega) ?_
        intro A2 c2 W3 hA3 hg _
        try simp only [Nat.zero_add]
        rw [List.nil_append, Nat.zero_add] at hA3
        have hB3 := bG hB2 hg (fun z hz => by simp [ownB] at hz; omega)
        have hX3 := past_lit hE2 hX2 (by simp) hg
        refine hK.out _ _ ((Below.cell (p := ⟨b, off + q, none⟩) hB3 hbl).trans hk0) (fun hHeld => ?_)
        clear hK K hg hB2 hE2 hlE2 hX2
        try simp only [Act.put, List.setIfInBounds_toArray, List.set_cons_zero, List.set_cons_succ]
        refine wpAnyH_ready (rs := [10]) (by kernel_rfl) (by simp) ?_
        refine AllReadyH.cons (o := ⟨some 99, _, _, _, _, _⟩) rfl (fun K hK => ?_) AllReadyH.nil
        go_simp
        have hQ4 : Blk (World.alloc W3 (.cells #[.string Q] 9)) (World.heap W3).size [.string Q] 9 := bkN1 rfl
        have hB4 := bA hB3 (.cells #[.string Q] 9)
        have hX4 := bkA hX3 (.cells #[.string Q] 9)
        have hA4 := hA3.alloc (.cells #[.string Q] 9)
        refine hK.out _ _ ((Below.cell (p := ⟨b, off + q, none⟩) hB4 hbl).trans hk0) (fun hHeld => ?_)
        clear hK K
        clear hB3 hX3 hA3
        generalize World.alloc W3 (.cells #[.string Q] 9) = W4 at *
        generalize (World.heap W3).size = gQ at *
        try simp only [Act.put, List.setIfInBounds_toArray, List.set_cons_zero, List.set_cons_succ]
        refine wpAnyH_ready (rs := [11]) (by kernel_rfl) (by simp) ?_
        refine AllReadyH.cons (o := ⟨some 100, _, _, _, _, _⟩) rfl (fun K hK => ?_) AllReadyH.nil
        refine step_append_elt_at tElt (o := ⟨some 100, _, _, _, _, _⟩) rfl (.tmp 91) (.tmp 99) rfl w21.heap.size A2 nw c2 (cellsT ws) rfl hA4 ⟨gQ, 0, none⟩ 1 1 [.string Q] rfl rfl (Blk.news hQ4) (by intro u hu; simp at hu; subst hu; rfl) (by omega) (by omega) (by unfold maxLen; omega) ?_
        intro A3 c3 W5 hP5 hg _
        have hB5 := bGo hB4 hA4 hg
        have hX5 := past_own hA4 hX4 hg
        refine hK.out _ _ ((Below.cell (p := ⟨b, off + q, none⟩) hB5 hbl).trans hk0) (fun hHeld => ?_)
        clear hK K hg hB4 hQ4 hX4 hA4
        try simp only [Act.put, List.setIfInBounds_toArray, List.set_cons_zero, List.set_cons_succ]
        refine wpAnyH_ready (rs := [12]) (by kernel_rfl) (by simp) ?_
        refine AllReadyH.cons (o := ⟨some 101, _, _, _, _, _⟩) rfl (fun K hK => ?_) AllReadyH.nil
        go_simp
        (go_at_call 9; (with_reducible refine (HCz.out _ w21.heap.size A3 c3 hP5).mono ?_); rintro e W6 ⟨Az, cz, rfl, hmz, hbz⟩)
        try go_wp2_with fail
        have hOz := Lib.hid hmz.2.1
        have hM6 : Mts W6 Az Z ∧ Mts W6 Az Z := ⟨hmz.1, hmz.1⟩
        have hB6 := bC hB5 hbz
        have hX6 := bkC hX5 hbz
        have hMX : ∀ v, Mts (W6.setCell ⟨gX, 0, none⟩ v) Az Z := fun v => hmz.2.2 ⟨gX, 0, none⟩ v hX5.lt
        refine hK.out _ _ ((Below.cell (p := ⟨b, off + q, none⟩) hB6 hbl).trans hk0) (fun hHeld => ?_)
        clear hK K hmz hbz hB5 hX5 hP5
        try simp only [Act.put, List.setIfInBounds_toArray, List.set_cons_zero, List.set_cons_succ]
        refine wpAnyH_take (i := 13) (oi := ⟨some 88, _, _, _, _, _⟩) (v := ?_) rfl (by kernel_rfl) (by kernel_rfl) (by kernel_rfl) (fun _ _ _ h => h) (Or.inl ⟨by rfl, ?_⟩) (by assumption) ?_
        rotate_left
        · intro W hSw; go_simp; try (with_reducible rfl)
        try simp only [Act.put, List.setIfInBounds_toArray, List.set_cons_zero, List.set_cons_succ]
        refine wpAnyH_take (i := 14) (oi := ⟨some 102, _, _, _, _, _⟩) (v := ?_) rfl (by kernel_rfl) (by kernel_rfl) (by kernel_rfl) (fun _ _ _ h => h) (Or.inl ⟨by rfl, ?_⟩) (by assumption) ?_
        rotate_left
        · intro W hSw; go_simp; try (with_reducible rfl)
        try simp only [Act.put, List.setIfInBounds_toArray, List.set_cons_zero, List.set_cons_succ]
        refine wpAnyH_take (i := 15) (oi := ⟨some 103, _, _, _, _, _⟩) (v := ?_) rfl (by kernel_rfl) (by kernel_rfl) (by kernel_rfl) (fun _ _ _ h => h) (Or.inl ⟨by rfl, ?_⟩) (by assumption) ?_
        rotate_left
        · intro W hSw; go_simp; try (with_reducible rfl)
        try simp only [Act.put, List.setIfInBounds_toArray, List.set_cons_zero, List.set_cons_succ]
        have hc := hX6.cell (i := 0) rfl
        have hf := hX6.frozen 0
        have hgX := hX6.lt
        have hlX : w21.heap.size ≤ gX := hgX0
        refine wpAnyH_ready (rs := [17]) (by kernel_rfl) (by simp) ?_
        refine AllReadyH.cons (o := ⟨none, _, _, _, _, _⟩) rfl (fun K hK => ?_) AllReadyH.nil
        go_simp
        have hBz := Below.setCell hB6 (p := ⟨gX, 0, none⟩) hlX (.slice Az zl cz)
        refine hK.out _ _ ((Below.cell (p := ⟨b, off + q, none⟩) hBz hbl).trans hk0) (fun hHeld => ?_)
        clear hK K
        try simp only [Act.put, List.setIfInBounds_toArray, List.set_cons_zero, List.set_cons_succ]
        refine wpAnyH_take (i := 18) (oi := ⟨some 22, _, _, _, _, _⟩) (v := ?_) rfl (by kernel_rfl) (by kernel_rfl) (by kernel_rfl) (fun _ _ _ h => h) (Or.inl ⟨by rfl, ?_⟩) (by assumption) ?_
        rotate_left
        · intro W hSw; go_simp; try (with_reducible rfl)
        try simp only [Act.put, List.setIfInBounds_toArray, List.set_cons_zero, List.set_cons_succ]
        refine wpAnyH_done (by kernel_rfl) ?_ _
        refine NoPanic.normal ?_
        have hRel := Lib.hid (box_set (c := cz) hX6 HZL.out hOz.out (hMX (.slice Az zl cz)))
        have hBel := Lib.hid hBz
        clear hc hf hBz
        go_wp2_with fail
        go_meet
        case rel => exact ⟨gX, Az, cz, rfl, rfl, hRel, hBel⟩
      refine AllReadyH.cons (o := ⟨some 99, _, _, _, _, _⟩) rfl (fun K hK => ?_) AllReadyH.nil
      go_simp
      have hQ3 : Blk (World.alloc W2 (.cells #[.string Q] 9)) (World.heap W2).size [.string Q] 9 := bkN1 rfl
      have hB3 := bA hB2 (.cells #[.string Q] 9)
      have hE3 := bkA hE2 (.cells #[.string Q] 9)
      have hlE3 := hlE2
      have hX3 := bkA hX2 (.cells #[.string Q] 9)
      refine hK.out _ _ ((Below.cell (p := ⟨b, off + q, none⟩) hB3 hbl).trans hk0) (fun hHeld => ?_)
      clear hK K
      clear hB2 hE2 hlE2 hX2
      generalize World.alloc W2 (.cells #[.string Q] 9) = W3 at *
      generalize (World.heap W2).size = gQ at *
      try simp only [Act.put, List.setIfInBounds_toArray, List.set_cons_zero, List.set_cons_succ]
      refine wpAnyH_ready (rs := [2]) (by kernel_rfl) (by simp) ?_
      refine AllReadyH.cons (o := ⟨some 91, _, _, _, _, _⟩) rfl (fun K hK => ?_) AllReadyH.nil
      refine step_append_elt_at tElt (o := ⟨some 91, _, _, _, _, _⟩) rfl (.tmp 89) (.tmp 90) rfl w21.heap.size (some ⟨gE, 0, none⟩) 0 0 [] rfl (lit_ownB hE3 hlE3) ⟨b, off, none⟩ nw cw (cellsT ws) rfl HL1.out (txts_news (HT21.out.below hB3)) (one_cell ws) (by omega) (by omega) (by unfold maxLen; omega) ?_
      intro A2 c2 W4 hA4 hg _
      try simp only [Nat.zero_add]
      rw [List.nil_append, Nat.zero_add] at hA4
      have hB4 := bG hB3 hg (fun z hz => by simp [ownB] at hz; omega)
      have hQ4 := past_lit hE3 hQ3 (by simp) hg
      have hX4 := past_lit hE3 hX3 (by simp) hg
      refine hK.out _ _ ((Below.cell (p := ⟨b, off + q, none⟩) hB4 hbl).trans hk0) (fun hHeld => ?_)
      clear hK K hg hB3 hE3 hlE3 hQ3 hX3
      try simp only [Act.put, List.setIfInBounds_toArray, List.set_cons_zero, List.set_cons_succ]
      refine wpAnyH_ready (rs := [11]) (by kernel_rfl) (by simp) ?_
      refine AllReadyH.cons (o := ⟨some 100, _, _, _, _, _⟩) rfl (fun K hK => ?_) AllReadyH.nil
      refine step_append_elt_at tElt (o := ⟨some 100, _, _, _, _, _⟩) rfl (.tmp 91) (.tmp 99) rfl w21.heap.size A2 nw c2 (cellsT ws) rfl hA4 ⟨gQ, 0, none⟩ 1 1 [.string Q] rfl rfl (Blk.news hQ4) (by intro u hu; simp at hu; subst hu; rfl) (by omega) (by omega) (by unfold maxLen; omega) ?_
      intro A3 c3 W5 hP5 hg _
      have hB5 := bGo hB4 hA4 hg
      have hX5 := past_own hA4 hX4 hg
      refine hK.out _ _ ((Below.cell (p := ⟨b, off + q, none⟩) hB5 hbl).trans hk0) (fun hHeld => ?_)
      clear hK K hg hB4 hQ4 hX4 hA4
      try simp only [Act.put, List.setIfInBounds_toArray, List.set_cons_zero, List.set_cons_succ]
      refine wpAnyH_ready (rs := [12]) (by kernel_rfl) (by simp) ?_
      refine AllReadyH.cons (o := ⟨some 101, _, _, _, _, _⟩) rfl (fun K hK => ?_) AllReadyH.nil
      go_simp
      (go_at_call 9; (with_reducible refine (HCz.out _ w21.heap.size A3 c3 hP5).mono ?_); rintro e W6 ⟨Az, cz, rfl, hmz, hbz⟩)
      try go_wp2_with fail
      have hOz := Lib.hid hmz.2.1
      have hM6 : Mts W6 Az Z ∧ Mts W6 Az Z := ⟨hmz.1, hmz.1⟩
      have hB6 := bC hB5 hbz
      have hX6 := bkC hX5 hbz
      have hMX : ∀ v, Mts (W6.setCell ⟨gX, 0, none⟩ v) Az Z := fun v => hmz.2.2 ⟨gX, 0, none⟩ v hX5.lt
      refine hK.out _ _ ((Below.cell (p := ⟨b, off + q, none⟩) hB6 hbl).trans hk0) (fun hHeld => ?_)
      clear hK K hmz hbz hB5 hX5 hP5
      try simp only [Act.put, List.setIfInBounds_toArray, List.set_cons_zero, List.set_cons_succ]
      refine wpAnyH_take (i := 13) (oi := ⟨some 88, _, _, _, _, _⟩) (v := ?_) rfl (by kernel_rfl) (by kernel_rfl) (by kernel_rfl) (fun _ _ _ h => h) (Or.inl ⟨by rfl, ?_⟩) (by assumption) ?_
      rotate_left
      · intro W hSw; go_simp; try (with_reducible rfl)
      try simp only [Act.put, List.setIfInBounds_toArray, List.set_cons_zero, List.set_cons_succ]
      refine wpAnyH_take (i := 14) (oi := ⟨some 102, _, _, _, _, _⟩) (v := ?_) rfl (by kernel_rfl) (by kernel_rfl) (by kernel_rfl) (fun _ _ _ h => h) (Or.inl ⟨by rfl, ?_⟩) (by assumption) ?_
      rotate_left
      · intro W hSw; go_simp; try (with_reducible rfl)
      try simp only [Act.put, List.setIfInBounds_toArray, List.set_cons_zero, List.set_cons_succ]
      refine wpAnyH_take (i := 15) (oi := ⟨some 103, _, _, _, _, _⟩) (v := ?_) rfl (by kernel_rfl) (by kernel_rfl) (by kernel_rfl) (fun _ _ _ h => h) (Or.inl ⟨by rfl, ?_⟩) (by assumption) ?_
      rotate_left
      · intro W hSw; go_simp; try (with_reducible rfl)
      try simp only [Act.put, List.setIfInBounds_toArray, List.set_cons_zero, List.set_cons_succ]
      have hc := hX6.cell (i := 0) rfl
      have hf := hX6.frozen 0
      have hgX := hX6.lt
      have hlX : w21.heap.size ≤ gX := hgX0
      refine wpAnyH_ready (rs := [17]) (by kernel_rfl) (by simp) ?_
      refine AllReadyH.cons (o := ⟨none, _, _, _, _, _⟩) rfl (fun K hK => ?_) AllReadyH.nil
      go_simp
      have hBz := Below.setCell hB6 (p := ⟨gX, 0, none⟩) hlX (.slice Az zl cz)
      refine hK.out _ _ ((Below.cell (p := ⟨b, off + q, none⟩) hBz hbl).trans hk0) (fun hHeld => ?_)
      clear hK K
      try simp only [Act.put, List.setIfInBounds_toArray, List.set_cons_zero, List.set_cons_succ]
      refine wpAnyH_take (i := 18) (oi := ⟨some 22, _, _, _, _, _⟩) (v := ?_) rfl (by kernel_rfl) (by kernel_rfl) (by kernel_rfl) (fun _ _ _ h => h) (Or.inl ⟨by rfl, ?_⟩) (by assumption) ?_
      rotate_left
      · intro W hSw; go_simp; try (with_reducible rfl)
      try simp only [Act.put, List.setIfInBounds_toArray, List.set_cons_zero, List.set_cons_succ]
      refine wpAnyH_done (by kernel_rfl) ?_ _
      refine NoPanic.normal ?_
      have hRel := Lib.hid (box_set (c := cz) hX6 HZL.out hOz.out (hMX (.slice Az zl cz)))
      have hBel := Lib.hid hBz
      clear hc hf hBz
      go_wp2_with fail
      go_meet
      case rel => exact ⟨gX, Az, cz, rfl, rfl, hRel, hBel⟩
    refine AllReadyH.cons (o := ⟨some 99, _, _, _, _, _⟩) rfl (fun K hK => ?_) ?_
    · skip
      go_simp
      have hQ1 : Blk (World.alloc W0 (.cells #[.string Q] 9)) (World.heap W0).size [.string Q] 9 := bkN1 rfl
      have hB1 := bA hB0 (.cells #[.string Q] 9)
      refine hK.out _ _ ((Below.cell (p := ⟨b, off + q, none⟩) hB1 hbl).trans hk0) (fun hHeld => ?_)
      clear hK K
      clear hB0
      generalize World.alloc W0 (.cells #[.string Q] 9) = W1 at *
      generalize (World.heap W0).size = gQ at *
      try simp only [Act.put, List.setIfInBounds_toArray, List.set_cons_zero, List.set_cons_succ]
      refine wpAnyH_ready (rs := [0, 16]) (by kernel_rfl) (by simp) ?_
      refine AllReadyH.cons (o := ⟨some 89, _, _, _, _, _⟩) rfl (fun K hK => ?_) ?_
      · skip
        go_simp
        have hE2 : Blk (World.alloc W1 (.cells #[] 9)) (World.heap W1).size [] 9 := bkN0 rfl
        have hlE2 : w21.heap.size ≤ (World.heap W1).size := hB1.size
        have hB2 := bA hB1 (.cells #[] 9)
        have hQ2 := bkA hQ1 (.cells #[] 9)
        refine hK.out _ _ ((Below.cell (p := ⟨b, off + q, none⟩) hB2 hbl).trans hk0) (fun hHeld => ?_)
        clear hK K
        clear hB1 hQ1
        generalize World.alloc W1 (.cells #[] 9) = W2 at *
        generalize (World.heap W1).size = gE at *
        try simp only [Act.put, List.setIfInBounds_toArray, List.set_cons_zero, List.set_cons_succ]
        refine wpAnyH_ready (rs := [2, 16]) (by kernel_rfl) (by simp) ?_
        refine AllReadyH.cons (o := ⟨some 91, _, _, _, _, _⟩) rfl (fun K hK => ?_) ?_
        · skip
          refine step_append_elt_at tElt (o := ⟨some 91, _, _, _, _, _⟩) rfl (.tmp 89) (.tmp 90) rfl w21.heap.size (some ⟨gE, 0, none⟩) 0 0 [] rfl (lit_ownB hE2 hlE2) ⟨b, off, none⟩ nw cw (cellsT ws) rfl HL1.out (txts_news (HT21.out.below hB2)) (one_cell ws) (by omega) (by omega) (by unfold maxLen; omega) ?_
          intro A2 c2 W3 hA3 hg _
          try simp only [Nat.zero_add]
          rw [List.nil_append, Nat.zero_add] at hA3
          have hB3 := bG hB2 hg (fun z hz => by simp [ownB] at hz; omega)
          have hQ3 := past_lit hE2 hQ2 (by simp) hg
          refine hK.out _ _ ((Below.cell (p := ⟨b, off + q, none⟩) hB3 hbl).trans hk0) (fun hHeld => ?_)
          clear hK K hg hB2 hE2 hlE2 hQ2
          try simp only [Act.put, List.setIfInBounds_toArray, List.set_cons_zero, List.set_cons_succ]
          refine wpAnyH_ready (rs := [11, 16]) (by kernel_rfl) (by simp) ?_
          refine AllReadyH.cons (o := ⟨some 100, _, _, _, _, _⟩) rfl (fun K hK => ?_) ?_
          · skip
            refine step_append_elt_at tElt (o := ⟨some 100, _, _, _, _, _⟩) rfl (.tmp 91) (.tmp 99) rfl w21.heap.size A2 nw c2 (cellsT ws) rfl hA3 ⟨gQ, 0, none⟩ 1 1 [.string Q] rfl rfl (Blk.news hQ3) (by intro u hu; simp at hu; subst hu; rfl) (by omega) (by omega) (by unfold maxLen; omega) ?_
            intro A3 c3 W4 hP4 hg _
            have hB4 := bGo hB3 hA3 hg
            refine hK.out _ _ ((Below.cell (p := ⟨b, off + q, none⟩) hB4 hbl).trans hk0) (fun hHeld => ?_)
            clear hK K hg hB3 hQ3 hA3
            try simp only [Act.put, List.setIfInBounds_toArray, List.set_cons_zero, List.set_cons_succ]
            refine wpAnyH_ready (rs := [12, 16]) (by kernel_rfl) (by simp) ?_
            refine AllReadyH.cons (o := ⟨some 101, _, _, _, _, _⟩) rfl (fun K hK => ?_) ?_
            · skip
              go_simp
              (go_at_call 9; (with_reducible refine (HCz.out _ w21.heap.size A3 c3 hP4).mono ?_); rintro e W5 ⟨Az, cz, rfl, hmz, hbz⟩)
              try go_wp2_with fail
              have hOz := Lib.hid hmz.2.1
              have hM5 : Mts W5 Az Z ∧ Mts W5 Az Z := ⟨hmz.1, hmz.1⟩
              have hB5 := bC hB4 hbz
              refine hK.out _ _ ((Below.cell (p := ⟨b, off + q, none⟩) hB5 hbl).trans hk0) (fun hHeld => ?_)
              clear hK K hmz hbz hB4 hP4
              try simp only [Act.put, List.setIfInBounds_toArray, List.set_cons_zero, List.set_cons_succ]
              refine wpAnyH_take (i := 13) (oi := ⟨some 88, _, _, _, _, _⟩) (v := ?_) rfl (by kernel_rfl) (by kernel_rfl) (by kernel_rfl) (fun _ _ _ h => h) (Or.inl ⟨by rfl, ?_⟩) (by assumption) ?_
              rotate_left
              · intro W hSw; go_simp; try (with_reducible rfl)
              try simp only [Act.put, List.setIfInBounds_toArray, List.set_cons_zero, List.set_cons_succ]
              refine wpAnyH_take (i := 14) (oi := ⟨some 102, _, _, _, _, _⟩) (v := ?_) rfl (by kernel_rfl) (by kernel_rfl) (by kernel_rfl) (fun _ _ _ h => h) (Or.inl ⟨by rfl, ?_⟩) (by assumption) ?_
              rotate_left
              · intro W hSw; go_simp; try (with_reducible rfl)
              try simp only [Act.put, List.setIfInBounds_toArray, List.set_cons_zero, List.set_cons_succ]
              refine wpAnyH_take (i := 15) (oi := ⟨some 103, _, _, _, _, _⟩) (v := ?_) rfl (by kernel_rfl) (by kernel_rfl) (by kernel_rfl) (fun _ _ _ h => h) (Or.inl ⟨by rfl, ?_⟩) (by assumption) ?_
              rotate_left
              · intro W hSw; go_simp; try (with_reducible rfl)
              try simp only [Act.put, List.setIfInBounds_toArray, List.set_cons_zero, List.set_cons_succ]
              refine wpAnyH_ready (rs := [16]) (by kernel_rfl) (by simp) ?_
              refine AllReadyH.cons (o := ⟨some 21, _, _, _, _, _⟩) rfl (fun K hK => ?_) AllReadyH.nil
              go_simp
              have hX0S := hB5.size
              have hX6 : Blk (World.alloc W5 (.cells #[.slice none 0 0] 25)) (World.heap W5).size [.slice none 0 0] 25 := bkN1 rfl
              have hB6 := bA hB5 (.cells #[.slice none 0 0] 25)
              have hM6 := hM5.2.below (bA (Below.refl _ _) (.cells #[.slice none 0 0] 25))
              refine hK.out _ _ ((Below.cell (p := ⟨b, off + q, none⟩) hB6 hbl).trans hk0) (fun hHeld => ?_)
              clear hK K
              have hMX : ∀ v, Mts ((World.alloc W5 (.cells #[.slice none 0 0] 25)).setCell ⟨(World.heap W5).size, 0, none⟩ v) Az Z := fun v => hM5.1.below (Below.setCell (bA (Below.refl _ _) (.cells #[.slice none 0 0] 25)) (Nat.le_refl _) v)
              clear hB5 hM5
              generalize World.alloc W5 (.cells #[.slice none 0 0] 25) = W6 at *
              have hX0L : w21.heap.size ≤ (World.heap W5).size := hX0S
              generalize (World.heap W5).size = gX at *
              try simp only [Act.put, List.setIfInBounds_toArray, List.set_cons_zero, List.set_cons_succ]
              have hgX0 : w21.heap.size ≤ gX := hX0L
              have hc := hX6.cell (i := 0) rfl
              have hf := hX6.frozen 0
              have hgX := hX6.lt
              have hlX : w21.heap.size ≤ gX := hgX0
              refine wpAnyH_ready (rs := [17]) (by kernel_rfl) (by simp) ?_
              refine AllReadyH.cons (o := ⟨none, _, _, _, _, _⟩) rfl (fun K hK => ?_) AllReadyH.nil
              go_simp
              have hBz := Below.setCell hB6 (p := ⟨gX, 0, none⟩) hlX (.slice Az zl cz)
              refine hK.out _ _ ((Below.cell (p := ⟨b, off + q, none⟩) hBz hbl).trans hk0) (fun hHeld => ?_)
              clear hK K
              try simp only [Act.put, List.setIfInBounds_toArray, List.set_cons_zero, List.set_cons_succ]
              refine wpAnyH_take (i := 18) (oi := ⟨some 22, _, _, _, _, _⟩) (v := ?_) rfl (by kernel_rfl) (by kernel_rfl) (by kernel_rfl) (fun _ _ _ h => h) (Or.inl ⟨by rfl, ?_⟩) (by assumption) ?_
              rotate_left
              · intro W hSw; go_simp; try (with_reducible rfl)
              try simp only [Act.put, List.setIfInBounds_toArray, List.set_cons_zero, List.set_cons_succ]
              refine wpAnyH_done (by kernel_rfl) ?_ _
              refine NoPanic.normal ?_
              have hRel := Lib.hid (box_set (c := cz) hX6 HZL.out hOz.out (hMX (.slice Az zl cz)))
              have hBel := Lib.hid hBz
              clear hc hf hBz
              go_wp2_with fail
              go_meet
              case rel => exact ⟨gX, Az, cz, rfl, rfl, hRel, hBel⟩
            refine AllReadyH.cons (o := ⟨some 21, _, _, _, _, _⟩) rfl (fun K hK => ?_) AllReadyH.nil
            go_simp
            have hX0S := hB4.size
            have hX5 : Blk (World.alloc W4 (.cells #[.slice none 0 0] 25)) (World.heap W4).size [.slice none 0 0] 25 := bkN1 rfl
            have hB5 := bA hB4 (.cells #[.slice none 0 0] 25)
            have hP5 := hP4.alloc (.cells #[.slice none 0 0] 25)
            refine hK.out _ _ ((Below.cell (p := ⟨b, off + q, none⟩) hB5 hbl).trans hk0) (fun hHeld => ?_)
            clear hK K
            clear hB4 hP4
            generalize World.alloc W4 (.cells #[.slice none 0 0] 25) = W5 at *
            have hX0L : w21.heap.size ≤ (World.heap W4).size := hX0S
            generalize (World.heap W4).size = gX at *
            try simp only [Act.put, List.setIfInBounds_toArray, List.set_cons_zero, List.set_cons_succ]
            have hgX0 : w21.heap.size ≤ gX := hX0L
            refine wpAnyH_ready (rs := [12]) (by kernel_rfl) (by simp) ?_
            refine AllReadyH.cons (o := ⟨some 101, _, _, _, _, _⟩) rfl (fun K hK => ?_) AllReadyH.nil
            go_simp
            (go_at_call 9; (with_reducible refine (HCz.out _ w21.heap.size A3 c3 hP5).mono ?_); rintro e W6 ⟨Az, cz, rfl, hmz, hbz⟩)
            try go_wp2_with fail
            have hOz := Lib.hid hmz.2.1
            have hM6 : Mts W6 Az Z ∧ Mts W6 Az Z := ⟨hmz.1, hmz.1⟩
            have hB6 := bC hB5 hbz
            have hX6 := bkC hX5 hbz
            have hMX : ∀ v, Mts (W6.setCell ⟨gX, 0, none⟩ v) Az Z := fun v => hmz.2.2 ⟨gX, 0, none⟩ v hX5.lt
            refine hK.out _ _ ((Below.cell (p := ⟨b, off + q, none⟩) hB6 hbl).trans hk0) (fun hHeld => ?_)
            clear hK K hmz hbz hB5 hX5 hP5
            try simp only [Act.put, List.setIfInBounds_toArray, List.set_cons_zero, List.set_cons_succ]
            refine wpAnyH_take (i := 13) (oi := ⟨some 88, _, _, _, _, _⟩) (v := ?_) rfl (by kernel_rfl) (by kernel_rfl) (by kernel_rfl) (fun _ _ _ h => h) (Or.inl ⟨by rfl, ?_⟩) (by assumption) ?_
            rotate_left
            · intro W hSw; go_simp; try (with_reducible rfl)
            try simp only [Act.put, List.setIfInBounds_toArray, List.set_cons_zero, List.set_cons_succ]
            refine wpAnyH_take (i := 14) (oi := ⟨some 102, _, _, _, _, _⟩) (v := ?_) rfl (by kernel_rfl) (by kernel_rfl) (by kernel_rfl) (fun _ _ _ h => h) (Or.inl ⟨by rfl, ?_⟩) (by assumption) ?_
            rotate_left
            · intro W hSw; go_simp; try (with_reducible rfl)
            try simp only [Act.put, List.setIfInBounds_toArray, List.set_cons_zero, List.set_cons_succ]
            refine wpAnyH_take (i := 15) (oi := ⟨some 103, _, _, _, _, _⟩) (v := ?_) rfl (by kernel_rfl) (by kernel_rfl) (by kernel_rfl) (fun _ _ _ h => h) (Or.inl ⟨by rfl, ?_⟩) (by assumption) ?_
            rotate_left
            · intro W hSw; go_simp; try (with_reducible rfl)
            try simp only [Act.put, List.setIfInBounds_toArray, List.set_cons_zero, List.set_cons_succ]
            have hc := hX6.cell (i := 0) rfl
            have hf := hX6.frozen 0
            have hgX := hX6.lt
            have hlX : w21.heap.size ≤ gX := hgX0
            refine wpAnyH_ready (rs := [17]) (by kernel_rfl) (by simp) ?_
            refine AllReadyH.cons (o := ⟨none, _, _, _, _, _⟩) rfl (fun K hK => ?_) AllReadyH.nil
            go_simp
            have hBz := Below.setCell hB6 (p := ⟨gX, 0, none⟩) hlX (.slice Az zl cz)
            refine hK.out _ _ ((Below.cell (p := ⟨b, off + q, none⟩) hBz hbl).trans hk0) (fun hHeld => ?_)
            clear hK K
            try simp only [Act.put, List.setIfInBounds_toArray, List.set_cons_zero, List.set_cons_succ]
            refine wpAnyH_take (i := 18) (oi := ⟨some 22, _, _, _, _, _⟩) (v := ?_) rfl (by kernel_rfl) (by kernel_rfl) (by kernel_rfl) (fun _ _ _ h => h) (Or.inl ⟨by rfl, ?_⟩) (by assumption) ?_
            rotate_left
            · intro W hSw; go_simp; try (with_reducible rfl)
            try simp only [Act.put, List.setIfInBounds_toArray, List.set_cons_zero, List.set_cons_succ]
            refine wpAnyH_done (by kernel_rfl) ?_ _
            refine NoPanic.normal ?_
            have hRel := Lib.hid (box_set (c := cz) hX6 HZL.out hOz.out (hMX (.slice Az zl cz)))
            have hBel := Lib.hid hBz
            clear hc hf hBz
            go_wp2_with fail
            go_meet
            case rel => exact ⟨gX, Az, cz, rfl, rfl, hRel, hBel⟩
          refine AllReadyH.cons (o := ⟨some 21, _, _, _, _, _⟩) rfl (fun K hK => ?_) AllReadyH.nil
          go_simp
          have hX0S := hB3.size
          have hX4 : Blk (World.alloc W3 (.cells #[.slice none 0 0] 25)) (World.heap W3).size [.slice none 0 0] 25 := bkN1 rfl
          have hB4 := bA hB3 (.cells #[.slice none 0 0] 25)
          have hQ4 := bkA hQ3 (.cells #[.slice none 0 0] 25)
          have hA4 := hA3.alloc (.cells #[.slice none 0 0] 25)
          refine hK.out _ _ ((Below.cell (p := ⟨b, off + q, none⟩) hB4 hbl).trans hk0) (fun hHeld => ?_)
          clear hK K
          clear hB3 hQ3 hA3
          generalize World.alloc W3 (.cells #[.slice none 0 0] 25) = W4 at *
          have hX0L : w21.heap.size ≤ (World.heap W3).size := hX0S
          generalize (World.heap W3).size = gX at *
          try simp only [Act.put, List.setIfInBounds_toArray, List.set_cons_zero, List.set_cons_succ]
          have hgX0 : w21.heap.size ≤ gX := hX0L
          refine wpAnyH_ready (rs := [11]) (by kernel_rfl) (by simp) ?_
          refine AllReadyH.cons (o := ⟨some 100, _, _, _, _, _⟩) rfl (fun K hK => ?_) AllReadyH.nil
          refine step_append_elt_at tElt (o := ⟨some 100, _, _, _, _, _⟩) rfl (.tmp 91) (.tmp 99) rfl w21.heap.size A2 nw c2 (cellsT ws) rfl hA4 ⟨gQ, 0, none⟩ 1 1 [.string Q] rfl rfl (Blk.news hQ4) (by intro u hu; simp at hu; subst hu; rfl) (by omega) (by omega) (by unfold maxLen; omega) ?_
          intro A3 c3 W5 hP5 hg _
          have hB5 := bGo hB4 hA4 hg
          have hX5 := past_own hA4 hX4 hg
          refine hK.out _ _ ((Below.cell (p := ⟨b, off + q, none⟩) hB5 hbl).trans hk0) (fun hHeld => ?_)
          clear hK K hg hB4 hQ4 hX4 hA4
          try simp only [Act.put, List.setIfInBounds_toArray, List.set_cons_zero, List.set_cons_succ]
          refine wpAnyH_ready (rs := [12]) (by kernel_rfl) (by simp) ?_
          refine AllReadyH.cons (o := ⟨some 101, _, _, _, _, _⟩) rfl (fun K hK => ?_) AllReadyH.nil
          go_simp
          (go_at_call 9; (with_reducible refine (HCz.out _ w21.heap.size A3 c3 hP5).mono ?_); rintro e W6 ⟨Az, cz, rfl, hmz, hbz⟩)
          try go_wp2_with fail
          have hOz := Lib.hid hmz.2.1
          have hM6 : Mts W6 Az Z ∧ Mts W6 Az Z := ⟨hmz.1, hmz.1⟩
          have hB6 := bC hB5 hbz
          have hX6 := bkC hX5 hbz
          have hMX : ∀ v, Mts (W6.setCell ⟨gX, 0, none⟩ v) Az Z := fun v => hmz.2.2 ⟨gX, 0, none⟩ v hX5.lt
          refine hK.out _ _ ((Below.cell (p := ⟨b, off + q, none⟩) hB6 hbl).trans hk0) (fun hHeld => ?_)
          clear hK K hmz hbz hB5 hX5 hP5
          try simp only [Act.put, List.setIfInBounds_toArray, List.set_cons_zero, List.set_cons_succ]
          refine wpAnyH_take (i := 13) (oi := ⟨some 88, _, _, _, _, _⟩) (v := ?_) rfl (by kernel_rfl) (by kernel_rfl) (by kernel_rfl) (fun _ _ _ h => h) (Or.inl ⟨by rfl, ?_⟩) (by assumption) ?_
          rotate_left
          · intro W hSw; go_simp; try (with_reducible rfl)
          try simp only [Act.put, List.setIfInBounds_toArray, List.set_cons_zero, List.set_cons_succ]
          refine wpAnyH_take (i := 14) (oi := ⟨some 102, _, _, _, _, _⟩) (v := ?_) rfl (by kernel_rfl) (by kernel_rfl) (by kernel_rfl) (fun _ _ _ h => h) (Or.inl ⟨by rfl, ?_⟩) (by assumption) ?_
          rotate_left
          · intro W hSw; go_simp; try (with_reducible rfl)
          try simp only [Act.put, List.setIfInBounds_toArray, List.set_cons_zero, List.set_cons_succ]
          refine wpAnyH_take (i := 15) (oi := ⟨some 103, _, _, _, _, _⟩) (v := ?_) rfl (by kernel_rfl) (by kernel_rfl) (by kernel_rfl) (fun _ _ _ h => h) (Or.inl ⟨by rfl, ?_⟩) (by assumption) ?_
          rotate_left
          · intro W hSw; go_simp; try (with_reducible rfl)
          try simp only [Act.put, List.setIfInBounds_toArray, List.set_cons_zero, List.set_cons_succ]
          have hc := hX6.cell (i := 0) rfl
          have hf := hX6.frozen 0
          have hgX := hX6.lt
          have hlX : w21.heap.size ≤ gX := hgX0
          refine wpAnyH_ready (rs := [17]) (by kernel_rfl) (by simp) ?_
          refine AllReadyH.cons (o := ⟨none, _, _, _, _, _⟩) rfl (fun K hK => ?_) AllReadyH.nil
          go_simp
          have hBz := Below.setCell hB6 (p := ⟨gX, 0, none⟩) hlX (.slice Az zl cz)
          refine hK.out _ _ ((Below.cell (p := ⟨b, off + q, none⟩) hBz hbl).trans hk0) (fun hHeld => ?_)
          clear hK K
          try simp only [Act.put, List.setIfInBounds_toArray, List.set_cons_zero, List.set_cons_succ]
          refine wpAnyH_take (i := 18) (oi := ⟨some 22, _, _, _, _, _⟩) (v := ?_) rfl (by kernel_rfl) (by kernel_rfl) (by kernel_rfl) (fun _ _ _ h => h) (Or.inl ⟨by rfl, ?_⟩) (by assumption) ?_
          rotate_left
          · intro W hSw; go_simp; try (with_reducible rfl)
          try simp only [Act.put, List.setIfInBounds_toArray, List.set_cons_zero, List.set_cons_succ]
          refine wpAnyH_done (by kernel_rfl) ?_ _
          refine NoPanic.normal ?_
          have hRel := Lib.hid (box_set (c := cz) hX6 HZL.out hOz.out (hMX (.slice Az zl cz)))
          have hBel := Lib.hid hBz
          clear hc hf hBz
          go_wp2_with fail
          go_meet
          case rel => exact ⟨gX, Az, cz, rfl, rfl, hRel, hBel⟩
        refine AllReadyH.cons (o := ⟨some 21, _, _, _, _, _⟩) rfl (fun K hK => ?_) AllReadyH.nil
        go_simp
        have hX0S := hB2.size
        have hX3 : Blk (World.alloc W2 (.cells #[.slice none 0 0] 25)) (World.heap W2).size [.slice none 0 0] 25 := bkN1 rfl
        have hB3 := bA hB2 (.cells #[.slice none 0 0] 25)
        have hE3 := bkA hE2 (.cells #[.slice none 0 0] 25)
        have hlE3 := hlE2
        have hQ3 := bkA hQ2 (.cells #[.slice none 0 0] 25)
        refine hK.out _ _ ((Below.cell (p := ⟨b, off + q, none⟩) hB3 hbl).trans hk0) (fun hHeld => ?_)
        clear hK K
        clear hB2 hE2 hlE2 hQ2
        generalize World.alloc W2 (.cells #[.slice none 0 0] 25) = W3 at *
        have hX0L : w21.heap.size ≤ (World.heap W2).size := hX0S
        generalize (World.heap W2).size = gX at *
        try simp only [Act.put, List.setIfInBounds_toArray, List.set_cons_zero, List.set_cons_succ]
        have hgX0 : w21.heap.size ≤ gX := hX0L
        refine wpAnyH_ready (rs := [2]) (by kernel_rfl) (by simp) ?_
        refine AllReadyH.cons (o := ⟨some 91, _, _, _, _, _⟩) rfl (fun K hK => ?_) AllReadyH.nil
        refine step_append_elt_at tElt (o := ⟨some 91, _, _, _, _, _⟩) rfl (.tmp 89) (.tmp 90) rfl w21.heap.size (some ⟨gE, 0, none⟩) 0 0 [] rfl (lit_ownB hE3 hlE3) ⟨b, off, none⟩ nw cw (cellsT ws) rfl HL1.out (txts_news (HT21.out.below hB3)) (one_cell ws) (by omega) (by omega) (by unfold maxLen; omega) ?_
        intro A2 c2 W4 hA4 hg _
        try simp only [Nat.zero_add]
        rw [List.nil_append, Nat.zero_add] at hA4
        have hB4 := bG hB3 hg (fun z hz => by simp [ownB] at hz; omega)
        have hQ4 := past_lit hE3 hQ3 (by simp) hg
        have hX4 := past_lit hE3 hX3 (by simp) hg
        refine hK.out _ _ ((Below.cell (p := ⟨b, off + q, none⟩) hB4 hbl).trans hk0) (fun hHeld => ?_)
        clear hK K hg hB3 hE3 hlE3 hQ3 hX3
        try simp only [Act.put, List.setIfInBounds_toArray, List.set_cons_zero, List.set_cons_succ]
        refine wpAnyH_ready (rs := [11]) (by kernel_rfl) (by simp) ?_
        refine AllReadyH.cons (o := ⟨some 100, _, _, _, _, _⟩) rfl (fun K hK => ?_) AllReadyH.nil
        refine step_append_elt_at tElt (o := ⟨some 100, _, _, _, _, _⟩) rfl (.tmp 91) (.tmp 99) rfl w21.heap.size A2 nw c2 (cellsT ws) rfl hA4 ⟨gQ, 0, none⟩ 1 1 [.string Q] rfl rfl (Blk.news hQ4) (by intro u hu; simp at hu; subst hu; rfl) (by omega) (by omega) (by unfold maxLen; omega) ?_
        intro A3 c3 W5 hP5 hg _
        have hB5 := bGo hB4 hA4 hg
        have hX5 := past_own hA4 hX4 hg
        refine hK.out _ _ ((Below.cell (p := ⟨b, off + q, none⟩) hB5 hbl).trans hk0) (fun hHeld => ?_)
        clear hK K hg hB4 hQ4 hX4 hA4
        try simp only [Act.put, List.setIfInBounds_toArray, List.set_cons_zero, List.set_cons_succ]
        refine wpAnyH_ready (rs := [12]) (by kernel_rfl) (by simp) ?_
        refine AllReadyH.cons (o := ⟨some 101, _, _, _, _, _⟩) rfl (fun K hK => ?_) AllReadyH.nil
        go_simp
        (go_at_call 9; (with_reducible refine (HCz.out _ w21.heap.size A3 c3 hP5).mono ?_); rintro e W6 ⟨Az, cz, rfl, hmz, hbz⟩)
        try go_wp2_with fail
        have hOz := Lib.hid hmz.2.1
        have hM6 : Mts W6 Az Z ∧ Mts W6 Az Z := ⟨hmz.1, hmz.1⟩
        have hB6 := bC hB5 hbz
        have hX6 := bkC hX5 hbz
        have hMX : ∀ v, Mts (W6.setCell ⟨gX, 0, none⟩ v) Az Z := fun v => hmz.2.2 ⟨gX, 0, none⟩ v hX5.lt
        refine hK.out _ _ ((Below.cell (p := ⟨b, off + q, none⟩) hB6 hbl).trans hk0) (fun hHeld => ?_)
        clear hK K hmz hbz hB5 hX5 hP5
        try simp only [Act.put, List.setIfInBounds_toArray, List.set_cons_zero, List.set_cons_succ]
        refine wpAnyH_take (i := 13) (oi := ⟨some 88, _, _, _, _, _⟩) (v := ?_) rfl (by kernel_rfl) (by kernel_rfl) (by kernel_rfl) (fun _ _ _ h => h) (Or.inl ⟨by rfl, ?_⟩) (by assumption) ?_
        rotate_left
        · intro W hSw; go_simp; try (with_reducible rfl)
        try simp only [Act.put, List.setIfInBounds_toArray, List.set_cons_zero, List.set_cons_succ]
        refine wpAnyH_take (i := 14) (oi := ⟨some 102, _, _, _, _, _⟩) (v := ?_) rfl (by kernel_rfl) (by kernel_rfl) (by kernel_rfl) (fun _ _ _ h => h) (Or.inl ⟨by rfl, ?_⟩) (by assumption) ?_
        rotate_left
        · intro W hSw; go_simp; try (with_reducible rfl)
        try simp only [Act.put, List.setIfInBounds_toArray, List.set_cons_zero, List.set_cons_succ]
        refine wpAnyH_take (i := 15) (oi := ⟨some 103, _, _, _, _, _⟩) (v := ?_) rfl (by kernel_rfl) (by kernel_rfl) (by kernel_rfl) (fun _ _ _ h => h) (Or.inl ⟨by rfl, ?_⟩) (by assumption) ?_
        rotate_left
        · intro W hSw; go_simp; try (with_reducible rfl)
        try simp only [Act.put, List.setIfInBounds_toArray, List.set_cons_zero, List.set_cons_succ]
        have hc := hX6.cell (i := 0) rfl
        have hf := hX6.frozen 0
        have hgX := hX6.lt
        have hlX : w21.heap.size ≤ gX := hgX0
        refine wpAnyH_ready (rs := [17]) (by kernel_rfl) (by simp) ?_
        refine AllReadyH.cons (o := ⟨none, _, _, _, _, _⟩) rfl (fun K hK => ?_) AllReadyH.nil
        go_simp
        have hBz := Below.setCell hB6 (p := ⟨gX, 0, none⟩) hlX (.slice Az zl cz)
        refine hK.out _ _ ((Below.cell (p := ⟨b, off + q, none⟩) hBz hbl).trans hk0) (fun hHeld => ?_)
        clear hK K
        try simp only [Act.put, List.setIfInBounds_toArray, List.set_cons_zero, List.set_cons_succ]
        refine wpAnyH_take (i := 18) (oi := ⟨some 22, _, _, _, _, _⟩) (v := ?_) rfl (by kernel_rfl) (by kernel_rfl) (by kernel_rfl) (fun _ _ _ h => h) (Or.inl ⟨by rfl, ?_⟩) (by assumption) ?_
        rotate_left
        · intro W hSw; go_simp; try (with_reducible rfl)
        try simp only [Act.put, List.setIfInBounds_toArray, List.set_cons_zero, List.set_cons_succ]
        refine wpAnyH_done (by kernel_rfl) ?_ _
        refine NoPanic.normal ?_
        have hRel := Lib.hid (box_set (c := cz) hX6 HZL.out hOz.out (hMX (.slice Az zl cz)))
        have hBel := Lib.hid hBz
        clear hc hf hBz
        go_wp2_with fail
        go_meet
        case rel => exact ⟨gX, Az, cz, rfl, rfl, hRel, hBel⟩
      refine AllReadyH.cons (o := ⟨some 21, _, _, _, _, _⟩) rfl (fun K hK => ?_) AllReadyH.nil
      go_simp
      have hX0S := hB1.size
      have hX2 : Blk (World.alloc W1 (.cells #[.slice none 0 0] 25)) (World.heap W1).size [.slice none 0 0] 25 := bkN1 rfl
      have hB2 := bA hB1 (.cells #[.slice none 0 0] 25)
      have hQ2 := bkA hQ1 (.cells #[.slice none 0 0] 25)
      refine hK.out _ _ ((Below.cell (p := ⟨b, off + q, none⟩) hB2 hbl).trans hk0) (fun hHeld => ?_)
      clear hK K
      clear hB1 hQ1
      generalize World.alloc W1 (.cells #[.slice none 0 0] 25) = W2 at *
      have hX0L : w21.heap.size ≤ (World.heap W1).size := hX0S
      generalize (World.heap W1).size = gX at *
      try simp only [Act.put, List.setIfInBounds_toArray, List.set_cons_zero, List.set_cons_succ]
      have hgX0 : w21.heap.size ≤ gX := hX0L
      refine wpAnyH_ready (rs := [0]) (by kernel_rfl) (by simp) ?_
      refine AllReadyH.cons (o := ⟨some 89, _, _, _, _, _⟩) rfl (fun K hK => ?_) AllReadyH.nil
      go_simp
      have hE3 : Blk (World.alloc W2 (.cells #[] 9)) (World.heap W2).size [] 9 := bkN0 rfl
      have hlE3 : w21.heap.size ≤ (World.heap W2).size := hB2.size
      have hB3 := bA hB2 (.cells #[] 9)
      have hQ3 := bkA hQ2 (.cells #[] 9)
      have hX3 := bkA hX2 (.cells #[] 9)
      refine hK.out _ _ ((Below.cell (p := ⟨b, off + q, none⟩) hB3 hbl).trans hk0) (fun hHeld => ?_)
      clear hK K
      clear hB2 hQ2 hX2
      generalize World.alloc W2 (.cells #[] 9) = W3 at *
      generalize (World.heap W2).size = gE at *
      try simp only [Act.put, List.setIfInBounds_toArray, List.set_cons_zero, List.set_cons_succ]
      refine wpAnyH_ready (rs := [2]) (by kernel_rfl) (by simp) ?_
      refine AllReadyH.cons (o := ⟨some 91, _, _, _, _, _⟩) rfl (fun K hK => ?_) AllReadyH.nil
      refine step_append_elt_at tElt (o := ⟨some 91, _, _, _, _, _⟩) rfl (.tmp 89) (.tmp 90) rfl w21.heap.size (some ⟨gE, 0, none⟩) 0 0 [] rfl (lit_ownB hE3 hlE3) ⟨b, off, none⟩ nw cw (cellsT ws) rfl HL1.out (txts_news (HT21.out.below hB3)) (one_cell ws) (by omega) (by omega) (by unfold maxLen; omega) ?_
      intro A2 c2 W4 hA4 hg _
      try simp only [Nat.zero_add]
      rw [List.nil_append, Nat.zero_add] at hA4
      have hB4 := bG hB3 hg (fun z hz => by simp [ownB] at hz; omega)
      have hQ4 := past_lit hE3 hQ3 (by simp) hg
      have hX4 := past_lit hE3 hX3 (by simp) hg
      refine hK.out _ _ ((Below.cell (p := ⟨b, off + q, none⟩) hB4 hbl).trans hk0) (fun hHeld => ?_)
      clear hK K hg hB3 hE3 hlE3 hQ3 hX3
      try simp only [Act.put, List.setIfInBounds_toArray, List.set_cons_zero, List.set_cons_succ]
      refine wpAnyH_ready (rs := [11]) (by kernel_rfl) (by simp) ?_
      refine AllReadyH.cons (o := ⟨some 100, _, _, _, _, _⟩) rfl (fun K hK => ?_) AllReadyH.nil
      refine step_append_elt_at tElt (o := ⟨some 100, _, _, _, _, _⟩) rfl (.tmp 91) (.tmp 99) rfl w21.heap.size A2 nw c2 (cellsT ws) rfl hA4 ⟨gQ, 0, none⟩ 1 1 [.string Q] rfl rfl (Blk.news hQ4) (by intro u hu; simp at hu; subst hu; rfl) (by omega) (by omega) (by unfold maxLen; omega) ?_
      intro A3 c3 W5 hP5 hg _
      have hB5 := bGo hB4 hA4 hg
      have hX5 := past_own hA4 hX4 hg
      refine hK.out _ _ ((Below.cell (p := ⟨b, off + q, none⟩) hB5 hbl).trans hk0) (fun hHeld => ?_)
      clear hK K hg hB4 hQ4 hX4 hA4
      try simp only [Act.put, List.setIfInBounds_toArray, List.set_cons_zero, List.set_cons_succ]
      refine wpAnyH_ready (rs := [12]) (by kernel_rfl) (by simp) ?_
      refine AllReadyH.cons (o := ⟨some 101, _, _, _, _, _⟩) rfl (fun K hK => ?_) AllReadyH.nil
      go_simp
      (go_at_call 9; (with_reducible refine (HCz.out _ w21.heap.size A3 c3 hP5).mono ?_); rintro e W6 ⟨Az, cz, rfl, hmz, hbz⟩)
      try go_wp2_with fail
      have hOz := Lib.hid hmz.2.1
      have hM6 : Mts W6 Az Z ∧ Mts W6 Az Z := ⟨hmz.1, hmz.1⟩
      have hB6 := bC hB5 hbz
      have hX6 := bkC hX5 hbz
      have hMX : ∀ v, Mts (W6.setCell ⟨gX, 0, none⟩ v) Az Z := fun v => hmz.2.2 ⟨gX, 0, none⟩ v hX5.lt
      refine hK.out _ _ ((Below.cell (p := ⟨b, off + q, none⟩) hB6 hbl).trans hk0) (fun hHeld => ?_)
      clear hK K hmz hbz hB5 hX5 hP5
      try simp only [Act.put, List.setIfInBounds_toArray, List.set_cons_zero, List.set_cons_succ]
      refine wpAnyH_take (i := 13) (oi := ⟨some 88, _, _, _, _, _⟩) (v := ?_) rfl (by kernel_rfl) (by kernel_rfl) (by kernel_rfl) (fun _ _ _ h => h) (Or.inl ⟨by rfl, ?_⟩) (by assumption) ?_
      rotate_left
      · intro W hSw; go_simp; try (with_reducible rfl)
      try simp only [Act.put, List.setIfInBounds_toArray, List.set_cons_zero, List.set_cons_succ]
      refine wpAnyH_take (i := 14) (oi := ⟨some 102, _, _, _, _, _⟩) (v := ?_) rfl (by kernel_rfl) (by kernel_rfl) (by kernel_rfl) (fun _ _ _ h => h) (Or.inl ⟨by rfl, ?_⟩) (by assumption) ?_
      rotate_left
      · intro W hSw; go_simp; try (with_reducible rfl)
      try simp only [Act.put, List.setIfInBounds_toArray, List.set_cons_zero, List.set_cons_succ]
      refine wpAnyH_take (i := 15) (oi := ⟨some 103, _, _, _, _, _⟩) (v := ?_) rfl (by kernel_rfl) (by kernel_rfl) (by kernel_rfl) (fun _ _ _ h => h) (Or.inl ⟨by rfl, ?_⟩) (by assumption) ?_
      rotate_left
      · intro W hSw; go_simp; try (with_reducible rfl)
      try simp only [Act.put, List.setIfInBounds_toArray, List.set_cons_zero, List.set_cons_succ]
      have hc := hX6.cell (i := 0) rfl
      have hf := hX6.frozen 0
      have hgX := hX6.lt
      have hlX : w21.heap.size ≤ gX := hgX0
      refine wpAnyH_ready (rs := [17]) (by kernel_rfl) (by simp) ?_
      refine AllReadyH.cons (o := ⟨none, _, _, _, _, _⟩) rfl (fun K hK => ?_) AllReadyH.nil
      go_simp
      have hBz := Below.setCell hB6 (p := ⟨gX, 0, none⟩) hlX (.slice Az zl cz)
      refine hK.out _ _ ((Below.cell (p := ⟨b, off + q, none⟩) hBz hbl).trans hk0) (fun hHeld => ?_)
      clear hK K
      try simp only [Act.put, List.setIfInBounds_toArray, List.set_cons_zero, List.set_cons_succ]
      refine wpAnyH_take (i := 18) (oi := ⟨some 22, _, _, _, _, _⟩) (v := ?_) rfl (by kernel_rfl) (by kernel_rfl) (by kernel_rfl) (fun _ _ _ h => h) (Or.inl ⟨by rfl, ?_⟩) (by assumption) ?_
      rotate_left
      · intro W hSw; go_simp; try (with_reducible rfl)
      try simp only [Act.put, List.setIfInBounds_toArray, List.set_cons_zero, List.set_cons_succ]
      refine wpAnyH_done (by kernel_rfl) ?_ _
      refine NoPanic.normal ?_
      have hRel := Lib.hid (box_set (c := cz) hX6 HZL.out hOz.out (hMX (.slice Az zl cz)))
      have hBel := Lib.hid hBz
      clear hc hf hBz
      go_wp2_with fail
      go_meet
      case rel => exact ⟨gX, Az, cz, rfl, rfl, hRel, hBel⟩
    refine AllReadyH.cons (o := ⟨some 21, _, _, _, _, _⟩) rfl (fun K hK => ?_) AllReadyH.nil
    go_simp
    have hX0S := hB0.size
    have hX1 : Blk (World.alloc W0 (.cells #[.slice none 0 0] 25)) (World.heap W0).size [.slice none 0 0] 25 := bkN1 rfl
    have hB1 := bA hB0 (.cells #[.slice none 0 0] 25)
    refine hK.out _ _ ((Below.cell (p := ⟨b, off + q, none⟩) hB1 hbl).trans hk0) (fun hHeld => ?_)
    clear hK K
    clear hB0
    generalize World.alloc W0 (.cells #[.slice none 0 0] 25) = W1 at *
    have hX0L : w21.heap.size ≤ (World.heap W0).size := hX0S
    generalize (World.heap W0).size = gX at *
    try simp only [Act.put, List.setIfInBounds_toArray, List.set_cons_zero, List.set_cons_succ]
    have hgX0 : w21.heap.size ≤ gX := hX0L
    refine wpAnyH_ready (rs := [0, 10]) (by kernel_rfl) (by simp) ?_
    refine AllReadyH.cons (o := ⟨some 89, _, _, _, _, _⟩) rfl (fun K hK => ?_) ?_
    · skip
      go_simp
      have hE2 : Blk (World.alloc W1 (.cells #[] 9)) (World.heap W1).size [] 9 := bkN0 rfl
      have hlE2 : w21.heap.size ≤ (World.heap W1).size := hB1.size
      have hB2 := bA hB1 (.cells #[] 9)
      have hX2 := bkA hX1 (.cells #[] 9)
      refine hK.out _ _ ((Below.cell (p := ⟨b, off + q, none⟩) hB2 hbl).trans hk0) (fun hHeld => ?_)
      clear hK K
      clear hB1 hX1
      generalize World.alloc W1 (.cells #[] 9) = W2 at *
      generalize (World.heap W1).size = gE at *
      try simp only [Act.put, List.setIfInBounds_toArray, List.set_cons_zero, List.set_cons_succ]
      refine wpAnyH_ready (rs := [2, 10]) (by kernel_rfl) (by simp) ?_
      refine AllReadyH.cons (o := ⟨some 91, _, _, _, _, _⟩) rfl (fun K hK => ?_) ?_
      · skip
        refine step_append_elt_at tElt (o := ⟨some 91, _, _, _, _, _⟩) rfl (.tmp 89) (.tmp 90) rfl w21.heap.size (some ⟨gE, 0, none⟩) 0 0 [] rfl (lit_ownB hE2 hlE2) ⟨b, off, none⟩ nw cw (cellsT ws) rfl HL1.out (txts_news (HT21.out.below hB2)) (one_cell ws) (by omega) (by omega) (by unfold maxLen; omega) ?_
        intro A2 c2 W3 hA3 hg _
        try simp only [Nat.zero_add]
        rw [List.nil_append, Nat.zero_add] at hA3
        have hB3 := bG hB2 hg (fun z hz => by simp [ownB] at hz; omega)
        have hX3 := past_lit hE2 hX2 (by simp) hg
        refine hK.out _ _ ((Below.cell (p := ⟨b, off + q, none⟩) hB3 hbl).trans hk0) (fun hHeld => ?_)
        clear hK K hg hB2 hE2 hlE2 hX2
        try simp only [Act.put, List.setIfInBounds_toArray, List.set_cons_zero, List.set_cons_succ]
        refine wpAnyH_ready (rs := [10]) (by kernel_rfl) (by simp) ?_
        refine AllReadyH.cons (o := ⟨some 99, _, _, _, _, _⟩) rfl (fun K hK => ?_) AllReadyH.nil
        go_simp
        have hQ4 : Blk (World.alloc W3 (.cells #[.string Q] 9)) (World.heap W3).size [.string Q] 9 := bkN1 rfl
        have hB4 := bA hB3 (.cells #[.string Q] 9)
        have hX4 := bkA hX3 (.cells #[.string Q] 9)
        have hA4 := hA3.alloc (.cells #[.string Q] 9)
        refine hK.out _ _ ((Below.cell (p := ⟨b, off + q, none⟩) hB4 hbl).trans hk0) (fun hHeld => ?_)
        clear hK K
        clear hB3 hX3 hA3
        generalize World.alloc W3 (.cells #[.string Q] 9) = W4 at *
        generalize (World.heap W3).size = gQ at *
        try simp only [Act.put, List.setIfInBounds_toArray, List.set_cons_zero, List.set_cons_succ]
        refine wpAnyH_ready (rs := [11]) (by kernel_rfl) (by simp) ?_
        refine AllReadyH.cons (o := ⟨some 100, _, _, _, _, _⟩) rfl (fun K hK => ?_) AllReadyH.nil
        refine step_append_elt_at tElt (o := ⟨some 100, _, _, _, _, _⟩) rfl (.tmp 91) (.tmp 99) rfl w21.heap.size A2 nw c2 (cellsT ws) rfl hA4 ⟨gQ, 0, none⟩ 1 1 [.string Q] rfl rfl (Blk.news hQ4) (by intro u hu; simp at hu; subst hu; rfl) (by omega) (by omega) (by unfold maxLen; omega) ?_
        intro A3 c3 W5 hP5 hg _
        have hB5 := bGo hB4 hA4 hg
        have hX5 := past_own hA4 hX4 hg
        refine hK.out _ _ ((Below.cell (p := ⟨b, off + q, none⟩) hB5 hbl).trans hk0) (fun hHeld => ?_)
        clear hK K hg hB4 hQ4 hX4 hA4
        try simp only [Act.put, List.setIfInBounds_toArray, List.set_cons_zero, List.set_cons_succ]
        refine wpAnyH_ready (rs := [12]) (by kernel_rfl) (by simp) ?_
        refine AllReadyH.cons (o := ⟨some 101, _, _, _, _, _⟩) rfl (fun K hK => ?_) AllReadyH.nil
        go_simp
        (go_at_call 9; (with_reducible refine (HCz.out _ w21.heap.size A3 c3 hP5).mono ?_); rintro e W6 ⟨Az, cz, rfl, hmz, hbz⟩)
        try go_wp2_with fail
        have hOz := Lib.hid hmz.2.1
        have hM6 : Mts W6 Az Z ∧ Mts W6 Az Z := ⟨hmz.1, hmz.1⟩
        have hB6 := bC hB5 hbz
        have hX6 := bkC hX5 hbz
        have hMX : ∀ v, Mts (W6.setCell ⟨gX, 0, none⟩ v) Az Z := fun v => hmz.2.2 ⟨gX, 0, none⟩ v hX5.lt
        refine hK.out _ _ ((Below.cell (p := ⟨b, off + q, none⟩) hB6 hbl).trans hk0) (fun hHeld => ?_)
        clear hK K hmz hbz hB5 hX5 hP5
        try simp only [Act.put, List.setIfInBounds_toArray, List.set_cons_zero, List.set_cons_succ]
        refine wpAnyH_take (i := 13) (oi := ⟨some 88, _, _, _, _, _⟩) (v := ?_) rfl (by kernel_rfl) (by kernel_rfl) (by kernel_rfl) (fun _ _ _ h => h) (Or.inl ⟨by rfl, ?_⟩) (by assumption) ?_
        rotate_left
        · intro W hSw; go_simp; try (with_reducible rfl)
        try simp only [Act.put, List.setIfInBounds_toArray, List.set_cons_zero, List.set_cons_succ]
        refine wpAnyH_take (i := 14) (oi := ⟨some 102, _, _, _, _, _⟩) (v := ?_) rfl (by kernel_rfl) (by kernel_rfl) (by kernel_rfl) (fun _ _ _ h => h) (Or.inl ⟨by rfl, ?_⟩) (by assumption) ?_
        rotate_left
        · intro W hSw; go_simp; try (with_reducible rfl)
        try simp only [Act.put, List.setIfInBounds_toArray, List.set_cons_zero, List.set_cons_succ]
        refine wpAnyH_take (i := 15) (oi := ⟨some 103, _, _, _, _, _⟩) (v := ?_) rfl (by kernel_rfl) (by kernel_rfl) (by kernel_rfl) (fun _ _ _ h => h) (Or.inl ⟨by rfl, ?_⟩) (by assumption) ?_
        rotate_left
        · intro W hSw; go_simp; try (with_reducible rfl)
        try simp only [Act.put, List.setIfInBounds_toArray, List.set_cons_zero, List.set_cons_succ]
        have hc := hX6.cell (i := 0) rfl
        have hf := hX6.frozen 0
        have hgX := hX6.lt
        have hlX : w21.heap.size ≤ gX := hgX0
        refine wpAnyH_ready (rs := [17]) (by kernel_rfl) (by simp) ?_
        refine AllReadyH.cons (o := ⟨none, _, _, _, _, _⟩) rfl (fun K hK => ?_) AllReadyH.nil
        go_simp
        have hBz := Below.setCell hB6 (p := ⟨gX, 0, none⟩) hlX (.slice Az zl cz)
        refine hK.out _ _ ((Below.cell (p := ⟨b, off + q, none⟩) hBz hbl).trans hk0) (fun hHeld => ?_)
        clear hK K
        try simp only [Act.put, List.setIfInBounds_toArray, List.set_cons_zero, List.set_cons_succ]
        refine wpAnyH_take (i := 18) (oi := ⟨some 22, _, _, _, _, _⟩) (v := ?_) rfl (by kernel_rfl) (by kernel_rfl) (by kernel_rfl) (fun _ _ _ h => h) (Or.inl ⟨by rfl, ?_⟩) (by assumption) ?_
        rotate_left
        · intro W hSw; go_simp; try (with_reducible rfl)
        try simp only [Act.put, List.setIfInBounds_toArray, List.set_cons_zero, List.set_cons_succ]
        refine wpAnyH_done (by kernel_rfl) ?_ _
        refine NoPanic.normal ?_
        have hRel := Lib.hid (box_set (c := cz) hX6 HZL.out hOz.out (hMX (.slice Az zl cz)))
        have hBel := Lib.hid hBz
        clear hc hf hBz
        go_wp2_with fail
        go_meet
        case rel => exact ⟨gX, Az, cz, rfl, rfl, hRel, hBel⟩
      refine AllReadyH.cons (o := ⟨some 99, _, _, _, _, _⟩) rfl (fun K hK => ?_) AllReadyH.nil
      go_simp
      have hQ3 : Blk (World.alloc W2 (.cells #[.string Q] 9)) (World.heap W2).size [.string Q] 9 := bkN1 rfl
      have hB3 := bA hB2 (.cells #[.string Q] 9)
      have hE3 := bkA hE2 (.cells #[.string Q] 9)
      have hlE3 := hlE2
      have hX3 := bkA hX2 (.cells #[.string Q] 9)
      refine hK.out _ _ ((Below.cell (p := ⟨b, off + q, none⟩) hB3 hbl).trans hk0) (fun hHeld => ?_)
      clear hK K
      clear hB2 hE2 hlE2 hX2
      generalize World.alloc W2 (.cells #[.string Q] 9) = W3 at *
      generalize (World.heap W2).size = gQ at *
      try simp only [Act.put, List.setIfInBounds_toArray, List.set_cons_zero, List.set_cons_succ]
      refine wpAnyH_ready (rs := [2]) (by kernel_rfl) (by simp) ?_
      refine AllReadyH.cons (o := ⟨some 91, _, _, _, _, _⟩) rfl (fun K hK => ?_) AllReadyH.nil
      refine step_append_elt_at tElt (o := ⟨some 91, _, _, _, _, _⟩) rfl (.tmp 89) (.tmp 90) rfl w21.heap.size (some ⟨gE, 0, none⟩) 0 0 [] rfl (lit_ownB hE3 hlE3) ⟨b, off, none⟩ nw cw (cellsT ws) rfl HL1.out (txts_news (HT21.out.below hB3)) (one_cell ws) (by omega) (by omega) (by unfold maxLen; omega) ?_
      intro A2 c2 W4 hA4 hg _
      try simp only [Nat.zero_add]
      rw [List.nil_append, Nat.zero_add] at hA4
      have hB4 := bG hB3 hg (fun z hz => by simp [ownB] at hz; omega)
      have hQ4 := past_lit hE3 hQ3 (by simp) hg
      have hX4 := past_lit hE3 hX3 (by simp) hg
      refine hK.out _ _ ((Below.cell (p := ⟨b, off + q, none⟩) hB4 hbl).trans hk0) (fun hHeld => ?_)
      clear hK K hg hB3 hE3 hlE3 hQ3 hX3
      try simp only [Act.put, List.setIfInBounds_toArray, List.set_cons_zero, List.set_cons_succ]
      refine wpAnyH_ready (rs := [11]) (by kernel_rfl) (by simp) ?_
      refine AllReadyH.cons (o := ⟨some 100, _, _, _, _, _⟩) rfl (fun K hK => ?_) AllReadyH.nil
      refine step_append_elt_at tElt (o := ⟨some 100, _, _, _, _, _⟩) rfl (.tmp 91) (.tmp 99) rfl w21.heap.size A2 nw c2 (cellsT ws) rfl hA4 ⟨gQ, 0, none⟩ 1 1 [.string Q] rfl rfl (Blk.news hQ4) (by intro u hu; simp at hu; subst hu; rfl) (by omega) (by omega) (by unfold maxLen; omega) ?_
      intro A3 c3 W5 hP5 hg _
      have hB5 := bGo hB4 hA4 hg
      have hX5 := past_own hA4 hX4 hg
      refine hK.out _ _ ((Below.cell (p := ⟨b, off + q, none⟩) hB5 hbl).trans hk0) (fun hHeld => ?_)
      clear hK K hg hB4 hQ4 hX4 hA4
      try simp only [Act.put, List.setIfInBounds_toArray, List.set_cons_zero, List.set_cons_succ]
      refine wpAnyH_ready (rs := [12]) (by kernel_rfl) (by simp) ?_
      refine AllReadyH.cons (o := ⟨some 101, _, _, _, _, _⟩) rfl (fun K hK => ?_) AllReadyH.nil
      go_simp
      (go_at_call 9; (with_reducible refine (HCz.out _ w21.heap.size A3 c3 hP5).mono ?_); rintro e W6 ⟨Az, cz, rfl, hmz, hbz⟩)
      try go_wp2_with fail
      have hOz := Lib.hid hmz.2.1
      have hM6 : Mts W6 Az Z ∧ Mts W6 Az Z := ⟨hmz.1, hmz.1⟩
      have hB6 := bC hB5 hbz
      have hX6 := bkC hX5 hbz
      have hMX : ∀ v, Mts (W6.setCell ⟨gX, 0, none⟩ v) Az Z := fun v => hmz.2.2 ⟨gX, 0, none⟩ v hX5.lt
      refine hK.out _ _ ((Below.cell (p := ⟨b, off + q, none⟩) hB6 hbl).trans hk0) (fun hHeld => ?_)
      clear hK K hmz hbz hB5 hX5 hP5
      try simp only [Act.put, List.setIfInBounds_toArray, List.set_cons_zero, List.set_cons_succ]
      refine wpAnyH_take (i := 13) (oi := ⟨some 88, _, _, _, _, _⟩) (v := ?_) rfl (by kernel_rfl) (by kernel_rfl) (by kernel_rfl) (fun _ _ _ h => h) (Or.inl ⟨by rfl, ?_⟩) (by assumption) ?_
      rotate_left
      · intro W hSw; go_simp; try (with_reducible rfl)
      try simp only [Act.put, List.setIfInBounds_toArray, List.set_cons_zero, List.set_cons_succ]
      refine wpAnyH_take (i := 14) (oi := ⟨some 102, _, _, _, _, _⟩) (v := ?_) rfl (by kernel_rfl) (by kernel_rfl) (by kernel_rfl) (fun _ _ _ h => h) (Or.inl ⟨by rfl, ?_⟩) (by assumption) ?_
      rotate_left
      · intro W hSw; go_simp; try (with_reducible rfl)
      try simp only [Act.put, List.setIfInBounds_toArray, List.set_cons_zero, List.set_cons_succ]
      refine wpAnyH_take (i := 15) (oi := ⟨some 103, _, _, _, _, _⟩) (v := ?_) rfl (by kernel_rfl) (by kernel_rfl) (by kernel_rfl) (fun _ _ _ h => h) (Or.inl ⟨by rfl, ?_⟩) (by assumption) ?_
      rotate_left
      · intro W hSw; go_simp; try (with_reducible rfl)
      try simp only [Act.put, List.setIfInBounds_toArray, List.set_cons_zero, List.set_cons_succ]
      have hc := hX6.cell (i := 0) rfl
      have hf := hX6.frozen 0
      have hgX := hX6.lt
      have hlX : w21.heap.size ≤ gX := hgX0
      refine wpAnyH_ready (rs := [17]) (by kernel_rfl) (by simp) ?_
      refine AllReadyH.cons (o := ⟨none, _, _, _, _, _⟩) rfl (fun K hK => ?_) AllReadyH.nil
      go_simp
      have hBz := Below.setCell hB6 (p := ⟨gX, 0, none⟩) hlX (.slice Az zl cz)
      refine hK.out _ _ ((Below.cell (p := ⟨b, off + q, none⟩) hBz hbl).trans hk0) (fun hHeld => ?_)
      clear hK K
      try simp only [Act.put, List.setIfInBounds_toArray, List.set_cons_zero, List.set_cons_succ]
      refine wpAnyH_take (i := 18) (oi := ⟨some 22, _, _, _, _, _⟩) (v := ?_) rfl (by kernel_rfl) (by kernel_rfl) (by kernel_rfl) (fun _ _ _ h => h) (Or.inl ⟨by rfl, ?_⟩) (by assumption) ?_
      rotate_left
      · intro W hSw; go_simp; try (with_reducible rfl)
      try simp only [Act.put, List.setIfInBounds_toArray, List.set_cons_zero, List.set_cons_succ]
      refine wpAnyH_done (by kernel_rfl) ?_ _
      refine NoPanic.normal ?_
      have hRel := Lib.hid (box_set (c := cz) hX6 HZL.out hOz.out (hMX (.slice Az zl cz)))
      have hBel := Lib.hid hBz
      clear hc hf hBz
      go_wp2_with fail
      go_meet
      case rel => exact ⟨gX, Az, cz, rfl, rfl, hRel, hBel⟩
    refine AllReadyH.cons (o := ⟨some 99, _, _, _, _, _⟩) rfl (fun K hK => ?_) AllReadyH.nil
    go_simp
    have hQ2 : Blk (World.alloc W1 (.cells #[.string Q] 9)) (World.heap W1).size [.string Q] 9 := bkN1 rfl
    have hB2 := bA hB1 (.cells #[.string Q] 9)
    have hX2 := bkA hX1 (.cells #[.string Q] 9)
    refine hK.out _ _ ((Below.cell (p := ⟨b, off + q, none⟩) hB2 hbl).trans hk0) (fun hHeld => ?_)
    clear hK K
    clear hB1 hX1
    generalize World.alloc W1 (.cells #[.string Q] 9) = W2 at *
    generalize (World.heap W1).size = gQ at *
    try simp only [Act.put, List.setIfInBounds_toArray, List.set_cons_zero, List.set_cons_succ]
    refine wpAnyH_ready (rs := [0]) (by kernel_rfl) (by simp) ?_
    refine AllReadyH.cons (o := ⟨some 89, _, _, _, _, _⟩) rfl (fun K hK => ?_) AllReadyH.nil
    go_simp
    have hE3 : Blk (World.alloc W2 (.cells #[] 9)) (World.heap W2).size [] 9 := bkN0 rfl
    have hlE3 : w21.heap.size ≤ (World.heap W2).size := hB2.size
    have hB3 := bA hB2 (.cells #[] 9)
    have hQ3 := bkA hQ2 (.cells #[] 9)
    have hX3 := bkA hX2 (.cells #[] 9)
    refine hK.out _ _ ((Below.cell (p := ⟨b, off + q, none⟩) hB3 hbl).trans hk0) (fun hHeld => ?_)
    clear hK K
    clear hB2 hQ2 hX2
    generalize World.alloc W2 (.cells #[] 9) = W3 at *
    generalize (World.heap W2).size = gE at *
    try simp only [Act.put, List.setIfInBounds_toArray, List.set_cons_zero, List.set_cons_succ]
    refine wpAnyH_ready (rs := [2]) (by kernel_rfl) (by simp) ?_
    refine AllReadyH.cons (o := ⟨some 91, _, _, _, _, _⟩) rfl (fun K hK => ?_) AllReadyH.nil
    refine step_append_elt_at tElt (o := ⟨some 91, _, _, _, _, _⟩) rfl (.tmp 89) (.tmp 90) rfl w21.heap.size (some ⟨gE, 0, none⟩) 0 0 [] rfl (lit_ownB hE3 hlE3) ⟨b, off, none⟩ nw cw (cellsT ws) rfl HL1.out (txts_news (HT21.out.below hB3)) (one_cell ws) (by omega) (by omega) (by unfold maxLen; omega) ?_
    intro A2 c2 W4 hA4 hg _
    try simp only [Nat.zero_add]
    rw [List.nil_append, Nat.zero_add] at hA4
    have hB4 := bG hB3 hg (fun z hz => by simp [ownB] at hz; omega)
    have hQ4 := past_lit hE3 hQ3 (by simp) hg
    have hX4 := past_lit hE3 hX3 (by simp) hg
    refine hK.out _ _ ((Below.cell (p := ⟨b, off + q, none⟩) hB4 hbl).trans hk0) (fun hHeld => ?_)
    clear hK K hg hB3 hE3 hlE3 hQ3 hX3
    try simp only [Act.put, List.setIfInBounds_toArray, List.set_cons_zero, List.set_cons_succ]
    refine wpAnyH_ready (rs := [11]) (by kernel_rfl) (by simp) ?_
    refine AllReadyH.cons (o := ⟨some 100, _, _, _, _, _⟩) rfl (fun K hK => ?_) AllReadyH.nil
    refine step_append_elt_at tElt (o := ⟨some 100, _, _, _, _, _⟩) rfl (.tmp 91) (.tmp 99) rfl w21.heap.size A2 nw c2 (cellsT ws) rfl hA4 ⟨gQ, 0, none⟩ 1 1 [.string Q] rfl rfl (Blk.news hQ4) (by intro u hu; simp at hu; subst hu; rfl) (by omega) (by omega) (by unfold maxLen; omega) ?_
    intro A3 c3 W5 hP5 hg _
    have hB5 := bGo hB4 hA4 hg
    have hX5 := past_own hA4 hX4 hg
    refine hK.out _ _ ((Below.cell (p := ⟨b, off + q, none⟩) hB5 hbl).trans hk0) (fun hHeld => ?_)
    clear hK K hg hB4 hQ4 hX4 hA4
    try simp only [Act.put, List.setIfInBounds_toArray, List.set_cons_zero, List.set_cons_succ]
    refine wpAnyH_ready (rs := [12]) (by kernel_rfl) (by simp) ?_
    refine AllReadyH.cons (o := ⟨some 101, _, _, _, _, _⟩) rfl (fun K hK => ?_) AllReadyH.nil
    go_simp
    (go_at_call 9; (with_reducible refine (HCz.out _ w21.heap.size A3 c3 hP5).mono ?_); rintro e W6 ⟨Az, cz, rfl, hmz, hbz⟩)
    try go_wp2_with fail
    have hOz := Lib.hid hmz.2.1
    have hM6 : Mts W6 Az Z ∧ Mts W6 Az Z := ⟨hmz.1, hmz.1⟩
    have hB6 := bC hB5 hbz
    have hX6 := bkC hX5 hbz
    have hMX : ∀ v, Mts (W6.setCell ⟨gX, 0, none⟩ v) Az Z := fun v => hmz.2.2 ⟨gX, 0, none⟩ v hX5.lt
    refine hK.out _ _ ((Below.cell (p := ⟨b, off + q, none⟩) hB6 hbl).trans hk0) (fun hHeld => ?_)
    clear hK K hmz hbz hB5 hX5 hP5
    try simp only [Act.put, List.setIfInBounds_toArray, List.set_cons_zero, List.set_cons_succ]
    refine wpAnyH_take (i := 13) (oi := ⟨some 88, _, _, _, _, _⟩) (v := ?_) rfl (by kernel_rfl) (by kernel_rfl) (by kernel_rfl) (fun _ _ _ h => h) (Or.inl ⟨by rfl, ?_⟩) (by assumption) ?_
    rotate_left
    · intro W hSw; go_simp; try (with_reducible rfl)
    try simp only [Act.put, List.setIfInBounds_toArray, List.set_cons_zero, List.set_cons_succ]
    refine wpAnyH_take (i := 14) (oi := ⟨some 102, _, _, _, _, _⟩) (v := ?_) rfl (by kernel_rfl) (by kernel_rfl) (by kernel_rfl) (fun _ _ _ h => h) (Or.inl ⟨by rfl, ?_⟩) (by assumption) ?_
    rotate_left
    · intro W hSw; go_simp; try (with_reducible rfl)
    try simp only [Act.put, List.setIfInBounds_toArray, List.set_cons_zero, List.set_cons_succ]
    refine wpAnyH_take (i := 15) (oi := ⟨some 103, _, _, _, _, _⟩) (v := ?_) rfl (by kernel_rfl) (by kernel_rfl) (by kernel_rfl) (fun _ _ _ h => h) (Or.inl ⟨by rfl, ?_⟩) (by assumption) ?_
    rotate_left
    · intro W hSw; go_simp; try (with_reducible rfl)
    try simp only [Act.put, List.setIfInBounds_toArray, List.set_cons_zero, List.set_cons_succ]
    have hc := hX6.cell (i := 0) rfl
    have hf := hX6.frozen 0
    have hgX := hX6.lt
    have hlX : w21.heap.size ≤ gX := hgX0
    refine wpAnyH_ready (rs := [17]) (by kernel_rfl) (by simp) ?_
    refine AllReadyH.cons (o := ⟨none, _, _, _, _, _⟩) rfl (fun K hK => ?_) AllReadyH.nil
    go_simp
    have hBz := Below.setCell hB6 (p := ⟨gX, 0, none⟩) hlX (.slice Az zl cz)
    refine hK.out _ _ ((Below.cell (p := ⟨b, off + q, none⟩) hBz hbl).trans hk0) (fun hHeld => ?_)
    clear hK K
    try simp only [Act.put, List.setIfInBounds_toArray, List.set_cons_zero, List.set_cons_succ]
    refine wpAnyH_take (i := 18) (oi := ⟨some 22, _, _, _, _, _⟩) (v := ?_) rfl (by kernel_rfl) (by kernel_rfl) (by kernel_rfl) (fun _ _ _ h => h) (Or.inl ⟨by rfl, ?_⟩) (by assumption) ?_
    rotate_left
    · intro W hSw; go_simp; try (with_reducible rfl)
    try simp only [Act.put, List.setIfInBounds_toArray, List.set_cons_zero, List.set_cons_succ]
    refine wpAnyH_done (by kernel_rfl) ?_ _
    refine NoPanic.normal ?_
    have hRel := Lib.hid (box_set (c := cz) hX6 HZL.out hOz.out (hMX (.slice Az zl cz)))
    have hBel := Lib.hid hBz
    clear hc hf hBz
    go_wp2_with fail
    go_meet
    case rel => exact ⟨gX, Az, cz, rfl, rfl, hRel, hBel⟩
  case rest =>
    obtain ⟨g, Az, cz, rfl, rfl, hZ, hB⟩ := hcut
    have X25 := Lib.hid (X21.out.below hB.out)
    have Y25 := Lib.hid (Y21.out.below hB.out)
    have P25 := Lib.hid (HP21.out.below hB.out)
    have B25 := Lib.hid (B21.out.trans (hB.out.mono B21.out.size))
    have hx := HX.out.hx l
    have hy := HX.out.hy l
    have hz := HX.out.hz l
    rw [HIs.out] at hx hy hz
    obtain ⟨zx, hzx⟩ : ∃ z, holdB l X = z := ⟨_, rfl⟩
    obtain ⟨zy, hzy⟩ : ∃ z, holdB l Y = z := ⟨_, rfl⟩
    obtain ⟨zz, hzz⟩ : ∃ z, holdB l Z = z := ⟨_, rfl⟩
    rw [hzx] at hx
    rw [hzy] at hy
    rw [hzz] at hz
    have HHx := Lib.hid fun (W : World) (h : Below wc.heap.size wc W) => (X25.out.below h).holds (d := cl) (P25.out.below h) HLL.out (by omega) hzx
    have HHy := Lib.hid fun (W : World) (h : Below wc.heap.size wc W) => (Y25.out.below h).holds (d := cl) (P25.out.below h) HLL.out (by omega) hzy
    have HHz := Lib.hid fun (W : World) (h : Below wc.heap.size wc W) => (hZ.out.below h).holds (d := cl) (P25.out.below h) HLL.out (by omega) hzz
    have x0 := X25.out.box.cell (i := 0) rfl
    have y0 := Y25.out.box.cell (i := 0) rfl
    have z0 := hZ.out.box.cell (i := 0) rfl
    clear hzx hzy hzz HX HIs X21 Y21 HP21 B21 HT21 HCz HAdd hB
    cases is with
    | true =>
      obtain rfl := hx rfl
      obtain rfl := hz rfl
      clear hx hy hz HHy y0
      go_wp2_with (first
        | (go_at_call 17; (with_reducible refine (HHx.out _ (Below.refl _ _)).mono ?_); rintro e w26 ⟨rfl, hb⟩; have B26 := Lib.hid hb; have z1 := (hZ.out.below hb).box.cell (i := 0) rfl; clear hb)
        | (go_at_call 17; (with_reducible refine (HHz.out _ B26.out).mono ?_); rintro e w27 ⟨rfl, hb⟩; have B27 := Lib.hid (B26.out.trans (hb.mono B26.out.size)); clear hb))
      go_ret
      exact ⟨rfl, B25.out.trans (B27.out.mono B25.out.size)⟩
    | false =>
      obtain rfl := hy rfl
      clear hx hy hz HHx HHz x0 z0
      go_wp2_with (go_at_call 17; (with_reducible refine (HHy.out _ (Below.refl _ _)).mono ?_); rintro e w26 ⟨rfl, hb⟩; have B26 := Lib.hid hb; clear hb)
      go_ret
      exact ⟨rfl, B25.out.trans (B26.out.mono B25.out.size)⟩
end Go.Proofs.Ytoplpnpimiboiaa.MatchWaysW
