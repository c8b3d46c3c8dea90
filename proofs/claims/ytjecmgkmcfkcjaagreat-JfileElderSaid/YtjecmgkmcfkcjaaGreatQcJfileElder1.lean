/-
  JfileElder: the texts beneath the proof.
-/
import Derived.Test.YtjecmgkmcfkcjaaGreatQcJfileReads1
namespace Go.Proofs.YtjecmgkmcfkcjaaGreat.Jl
open Bytes8 Blk8 Ya LeNum LeAl Ob Oc Ga Gb Gf Gj Ma Mb Me Mg Mh Na Nb Nc Nh Nl Np Fc Nq Ns Nt Nu Nv Sg Fa Yd Yc Yp Yg Yh Yj Za Zb Zc Zd Ze Zf Zg Zh Zi Zj Zk Zl Pr8 Ps8 Pl8 Ra Rj Rk Rm Rn Rr Va Wa Ls
open Rd (dcode dz)
open Ri (ecode9)
open Rg (arcode)
open Go1 (hcode magicB)
set_option linter.unusedVariables false
set_option linter.unusedSimpArgs false
set_option maxRecDepth 100000

structure Std (G : Nat → Prop) (l : List Int) (os : List O) : Prop where
  ok : ∀ o ∈ os, o.Ok
  at_ : ∀ a o, obj 272 os a = some o → G a → ∃ p q, l = p ++ (o.enc ++ q) ∧ p.length = a
theorem Std.read {G : Nat → Prop} {l : List Int} {os : List O} (r : Std G l os) {a : Nat} {o : O} (ho : obj 272 os a = some o) (hg : G a) : code l a = 0 ∧ kindL l a = o.k ∧ sizeL l a = (16 + o.body.length : Nat) ∧ bodyL l a = o.body := by
  obtain ⟨p, q, e, hp⟩ := r.at_ a o ho hg
  have hk := r.ok o (obj_mem _ _ _ _ ho)
  rw [e]
  exact put_read p q o.body o.k a hp (obj_8 _ _ _ _ (by decide) ho) hk.k.1 hk.k.2 (by have := hk.n; omega)
theorem Std.lt {G : Nat → Prop} {l : List Int} {os : List O} (r : Std G l os) {a : Nat} {o : O} (ho : obj 272 os a = some o) (hg : G a) : 272 ≤ a ∧ a + 16 + o.body.length ≤ l.length := by
  obtain ⟨p, q, e, hp⟩ := r.at_ a o ho hg
  have h1 := obj_bd _ _ _ _ ho
  have h2 := o.n_is
  have h3 := o.body_len
  have h4 : o.enc.length = o.n := rfl
  rw [e, List.length_append, List.length_append, h4]
  omega
theorem read_arrG {G : Nat → Prop} {l : List Int} {os : List O} (R : Std G l os) {a r : Nat} {g : Nat × Nat} (hs : shp os a = some ⟨6, 1 + r, [], g⟩) (hr : 1 ≤ r) (hg : G a) :
    ecode l a 6 8 8 = 0 ∧ arX l a = wd os a 0 ∧ arM l a = r ∧ ∀ j, j < r → arF (bodyL l a) j = wd os a (1 + j) := by
  obtain ⟨o, ho, hsh⟩ := shp_some hs
  have ok := R.ok o (obj_mem _ _ _ _ ho)
  injection hsh with h1 h2 h3 h4
  obtain ⟨c1, c2, c3, c4⟩ := R.read ho hg
  have hw : ∀ j, wd os a j = o.ws.getD j 0 := fun j => by unfold wd; rw [ho]
  have hbl : o.body.length = 8 * (1 + r) := by rw [O.body_len, h2, h3]; simp
  have he : ecode l a 6 8 8 = 0 := by
    unfold ecode
    rw [if_neg (by omega), c2, h1, if_neg (by decide), c4, hbl, if_neg (by omega)]
  refine ⟨he, ?_, ?_, fun j hj => ?_⟩
  · unfold arX
    rw [if_pos he, c4, hw]
    exact u8_body ok 0 0 (by omega) rfl
  · unfold arM arN
    rw [if_pos he, c4, hbl]
    omega
  · unfold arF
    rw [c4, hw]
    exact u8_body ok (1 + j) _ (by omega) (by omega)
/-- A payload's object is read. -/
theorem data_readG {G : Nat → Prop} {m : Mk} {os : List O} {hs : Nat → List Nat} {mi : List Nat} {es : List (Nat × List Int)} (hH : Hold m os hs mi es) {H : HD} {l : List Int} (R : Std G l os) (h0 : H.N 0 = 272) (hic : H.ic = if m.C.keyed then 4 else 0) (hI : ∀ i, i < 16 → H.I i = m.C.F i) {x : Nat} (hx : x < m.datas.length) (htx : (Mk.kn m x).text ≠ []) (hg : G (Mk.kn m x).at_) :
    hcode9 H l l.length (Mk.kn m x).at_ = 0 ∧ bnum l (Mk.kn m x).at_ 1 6 0 = Mk.sum m (Mk.kn m x).text ∧ bpay l (Mk.kn m x).at_ 1 6 = (Mk.kn m x).text ∧ (Mk.kn m x).at_ < l.length := by
  have D := hH.dat x hx
  rw [kn_at hx] at htx hg ⊢
  generalize m.datas[x] = d at *
  obtain ⟨o, ho, hsh⟩ := shp_some D.sh
  have ok := hH.rep.ok o (obj_mem _ _ _ _ ho)
  injection hsh with h1 h2 h3 h4
  obtain ⟨c1, c2, c3, c4⟩ := R.read ho hg
  have htl := List.length_pos_iff.2 htx
  have hbl : o.body.length = 48 + d.text.length := by rw [O.body_len, h2, h3]
  have hbc : bcode l d.at_ 1 6 = 0 := by
    unfold bcode
    rw [if_neg (by omega), c2, h1, if_neg (by decide), c4, if_neg (by omega)]
  have hlt := R.lt ho hg
  have h272 : 272 ≤ d.at_ := hlt.1
  have hnum : bnum l d.at_ 1 6 0 = Mk.sum m d.text := by
    unfold bnum
    rw [if_pos hbc, c4, show 8 * 0 = 0 from rfl, u8_body ok 0 0 (by omega) rfl, ← D.w0]
    unfold wd
    rw [ho]
  have hpay : bpay l d.at_ 1 6 = d.text := by
    unfold bpay
    rw [if_pos hbc, c4]
    unfold O.body
    rw [List.drop_left' (by rw [nums_len, h2]), h3]
  have hdc : dcode H l l.length d.at_ = 0 := by
    unfold dcode
    rw [if_pos ⟨by rw [h0]; omega, by omega⟩, hbc]
  obtain ⟨k1, k2⟩ := key_is H m.C hic hI
  refine ⟨?_, hnum, hpay, by omega⟩
  unfold hcode9
  rw [if_neg (by omega), hnum, hpay, k1, k2]
  exact if_pos rfl
theorem rec_readG {G : Nat → Prop} {m : Mk} {os : List O} {hs : Nat → List Nat} {mi : List Nat} {es : List (Nat × List Int)} (hH : Hold m os hs mi es) {H : HD} {l : List Int} (R : Std G l os) (h0 : H.N 0 = 272) (hic2 : H.ic = if m.C.keyed then 4 else 0) (hI2 : ∀ i, i < 16 → H.I i = m.C.F i) (hmax : l.length ≤ 1000000)
    {a : Nat} {body : List Int} {gg : Nat × Nat} (hE : shp os a = some ⟨3, 0, body, gg⟩) (hga : G a) {sq : Int} (hsq : W64 sq) (hsq0 : sq ≠ 0) {L : List PR} {real mono : Int} {K : Nat → Int} (hr : RROk (L, real, mono, K)) {who : List Nat} (w1 : ∀ x ∈ who, x < m.datas.length) (w2 : who.Pairwise (fun a b => (Mk.kn m a).at_ < (Mk.kn m b).at_)) (w3 : (who.map fun i => (Mk.kn m i).text).Perm ((listL L).map fun q => pay q.1 q.2))
    (w4 : body = entB sq real mono K ((xr ((listL L).map fun q => pay q.1 q.2) : Nat) : Int) (prs (fun i => ((Mk.kn m (who.getD i 0)).at_ : Int)) (fun i => Mk.sum m (Mk.kn m (who.getD i 0)).text) who.length)) (hgw : ∀ x ∈ who, G (Mk.kn m x).at_) :
    rcode H l l.length a = 0 ∧ (recP H l l.length a).s = sq ∧ (recP H l l.length a).r = real ∧ (recP H l l.length a).m = mono ∧ (∀ j, j < 16 → (recP H l l.length a).K j = K j) ∧ (∀ x, x ∈ (recP H l l.length a).pl ↔ x ∈ listL L) := by
  obtain ⟨r1, r2, r3, r4, r5⟩ := hr
  dsimp only at r1 r2 r3 r4 r5
  -- the payloads
  obtain ⟨n16, hok⟩ := list_ok r1
  have hpos : listL L ≠ [] := by
    unfold listL
    rw [if_pos r1]
    have hL : L ≠ [] := fun h => by unfold listE at r1; rw [if_pos h] at r1; cases r1
    obtain ⟨y, hy⟩ := List.exists_mem_of_ne_nil _ hL
    exact List.ne_nil_of_mem ((sortP_mem _ y).2 ((ded_mem L y).2 hy))
  have hwl : who.length = (listL L).length := by have := w3.length_eq; rwa [List.length_map, List.length_map] at this
  have hw0 : 0 < who.length := by rw [hwl]; exact List.length_pos_iff.2 hpos
  have htext : ∀ x ∈ who, ∃ p ∈ listL L, (Mk.kn m x).text = pay p.1 p.2 ∧ flawI p.1 p.2 = 0 := fun x hx => by
    obtain ⟨p, hp, e⟩ := List.mem_map.1 (w3.mem_iff.1 (List.mem_map.2 ⟨x, hx, rfl⟩))
    exact ⟨p, hp, e.symm, (hok p hp).2⟩
  have hne : ∀ x ∈ who, (Mk.kn m x).text ≠ [] := fun x hx => by
    obtain ⟨p, _, e, _⟩ := htext x hx
    rw [e]; unfold pay; simp
  have hrd : ∀ x ∈ who, _ := fun x hx => data_readG hH R h0 hic2 hI2 (w1 x hx) (hne x hx) (hgw x hx)
  have hf : Wd (fun i => ((Mk.kn m (who.getD i 0)).at_ : Int)) who.length := fun j hj => by
    have := (hrd _ (List.getElem_mem hj)).2.2.2
    rw [← getD_lt hj] at this
    dsimp only
    omega
  have hg : Wd (fun i => Mk.sum m (Mk.kn m (who.getD i 0)).text) who.length := fun j hj => by
    have D := hH.dat _ (w1 _ (List.getElem_mem hj))
    have h2 := wd_bd hH.rep (a := (m.datas[who[j]]'(w1 _ (List.getElem_mem hj))).at_) (j := 0)
    rw [D.w0] at h2
    dsimp only
    rw [getD_lt hj, kn_at (w1 _ (List.getElem_mem hj))]
    exact h2
  have hX : W64 ((xr ((listL L).map fun q => pay q.1 q.2) : Nat) : Int) := by
    have := xr_lt ((listL L).map fun q => pay q.1 q.2)
    exact ⟨by omega, by omega⟩
  -- the entry's object
  obtain ⟨o, ho, hsh⟩ := shp_some hE
  have ok := hH.rep.ok o (obj_mem _ _ _ _ ho)
  injection hsh with h1 h2 h3 h4
  obtain ⟨c1, c2, c3, c4⟩ := R.read ho hga
  have hlt := R.lt ho hga
  have hob : o.body = body := by
    unfold O.body
    rw [List.eq_nil_of_length_eq_zero h2, h3]
    rfl
  rw [hob] at c3 c4
  have hbl : body.length = 48 + 16 * who.length := by rw [w4, entB_len]
  obtain ⟨n0, n8, n16', n40⟩ := ent_nums sq real mono K _ (prs (fun i => ((Mk.kn m (who.getD i 0)).at_ : Int)) (fun i => Mk.sum m (Mk.kn m (who.getD i 0)).text) who.length) hsq r3 r4 hX
  have hit := fun j hj => ent_items sq real mono K ((xr ((listL L).map fun q => pay q.1 q.2) : Nat) : Int) (fun i => ((Mk.kn m (who.getD i 0)).at_ : Int)) (fun i => Mk.sum m (Mk.kn m (who.getD i 0)).text) who.length j hj hf hg
  have hKK := fun j hj => ent_K sq real mono K ((xr ((listL L).map fun q => pay q.1 q.2) : Nat) : Int) (prs (fun i => ((Mk.kn m (who.getD i 0)).at_ : Int)) (fun i => Mk.sum m (Mk.kn m (who.getD i 0)).text) who.length) j hj
  rw [← w4] at n0 n8 n16' n40 hit hKK
  have hN : itN body = who.length := by unfold itN; omega
  have hris : risB (itA body) who.length = true := by
    rw [risB_cong (fun j hj => (hit j hj).1)]
    refine risB_of fun j hj => ?_
    have h5 := List.pairwise_iff_getElem.1 w2 j (j + 1) (by omega) (by omega) (by omega)
    try dsimp only
    rw [getD_lt (by omega), getD_lt (by omega)]
    omega
  have hec : ecode l a 3 48 16 = 0 := by
    unfold ecode
    rw [if_neg (by omega), c2, h1, if_neg (by decide), c4, hbl, if_neg (by omega)]
  have hcode : entC0 l a = 0 := by
    unfold entC0
    rw [if_neg (by omega), c4, n0, if_neg hsq0, hN, hris]
    rfl
  obtain ⟨t1, t2, t3⟩ := told_yes hcode
  rw [c4] at t2 t3
  have hec9 : ecode9 H l l.length a = 0 := by
    unfold ecode9
    rw [if_pos ⟨by rw [h0]; omega, by omega⟩, hcode]
  have hP : ∀ j (hj : j < who.length), payP l (itA body) j = (Mk.kn m who[j]).text := fun j hj => by
    show bpay l (itA body j).toNat 1 6 = _
    rw [(hit j hj).1]
    try dsimp only
    rw [getD_lt hj, Int.toNat_natCast]
    exact (hrd _ (List.getElem_mem hj)).2.2.1
  have hrows : rowsL (payP l (itA body)) who.length = who.map fun x => (Mk.kn m x).text := rowsL_get hP
  have hic0 : ∀ j, j < who.length → icode H l l.length (itA body) (itH body) j = 0 := fun j hj => by
    obtain ⟨p1, p2, p3, p4⟩ := hrd _ (List.getElem_mem hj)
    have e1 : itA body j = ((Mk.kn m who[j]).at_ : Int) := by rw [(hit j hj).1]; (try dsimp only); rw [getD_lt hj]
    have e2 : itH body j = Mk.sum m (Mk.kn m who[j]).text := by rw [(hit j hj).2]; (try dsimp only); rw [getD_lt hj]
    rw [icode_split e1 p1 (p2.trans e2.symm), p3]
    obtain ⟨p, _, e, fl⟩ := htext _ (List.getElem_mem hj)
    rw [e]
    exact (split_pay fl).1
  have hrc : rcode H l l.length a = 0 := by
    unfold rcode
    rw [t3, hN, c4]
    refine (rc_of H l l.length _ who.length (itA body) (itH body) _).e hec9 (by omega) hic0 ?_
    rw [t1, c4, n40, hrows, xr_perm w3]
  unfold recP
  rw [if_pos hrc]
  refine ⟨hrc, ?_, ?_, ?_, fun j hj => ?_, fun x => ?_⟩
  · show eNum l a 0 = sq; rw [t1, c4, n0]
  · show eNum l a 8 = real; rw [t1, c4, n8]
  · show eNum l a 16 = mono; rw [t1, c4, n16']
  · show eK l a j = K j; rw [t2]; exact hKK j hj
  · show x ∈ prsL (payP l (itA (bodyL l a))) (eN l a) ↔ _
    rw [t3, hN, c4]
    have hpl : prsL (payP l (itA body)) who.length = (who.map fun x => (Mk.kn m x).text).map fun t => (splitN t, splitV t) := by
      rw [← hrows]
      unfold prsL rowsL
      rw [List.map_map]
      rfl
    rw [hpl]
    constructor
    · intro hx
      obtain ⟨t, ht, e⟩ := List.mem_map.1 hx
      obtain ⟨p, hp, e2⟩ := List.mem_map.1 (w3.mem_iff.1 ht)
      obtain ⟨_, s2, s3⟩ := split_pay (hok p hp).2
      rw [← e, ← e2]
      try dsimp only
      rw [s2, s3]
      exact hp
    · intro hx
      obtain ⟨_, s2, s3⟩ := split_pay (hok x hx).2
      refine List.mem_map.2 ⟨pay x.1 x.2, w3.mem_iff.2 (List.mem_map.2 ⟨x, hx, rfl⟩), ?_⟩
      rw [s2, s3]
variable {h : HD} {l : List Int} {os : List O} {t : Nat} {arr its : List Nat} {G : Nat → Prop}
theorem inA_arrG (w : ArrW os t arr its) (hasc : its.Pairwise (· < ·)) {E n : Nat} (hn : n ≤ its.length) (hp0 : ∀ x ∈ its, 0 < x) (hpos : ∀ i (hi : i < its.length), i < n → its[i] < E) (ni : Int) (K : List Int → List Int × Int) (g : Nat → Int) (k : Nat) (hk : k < arr.length)
    (hg : ∀ j, j < roomN k → g j = wd os arr[k] (1 + j)) (hK : rooms (k + 1) ≤ n → K (toI (its.take (rooms (k + 1)))) = (toI (its.take n), 0)) (hKf : ∀ o : List Int, (o.length : Int) = (n : Int) → K o = (o, 0)) :
    ∀ (q j : Nat), q + j = roomN k → rooms k + j ≤ n → inA K E (n : Int) ni g q j (toI (its.take (rooms k + j))) = (toI (its.take n), 0) := by
  have hrs := rooms_succ k
  intro q
  induction q with
  | zero =>
    intro j hj h1
    have e : rooms k + j = rooms (k + 1) := by omega
    show K _ = _
    rw [e] at h1 ⊢
    exact hK h1
  | succ q ih =>
    intro j hj h1
    by_cases hn1 : rooms k + j = n
    · rw [inA_full _ _ _ _ _ _ _ _ (by rw [toI_len _ _ (by omega), hn1]) (hKf _ (by rw [toI_len _ _ (by omega), hn1])), hn1]
    · have hl2 : rooms k + j < its.length := by omega
      unfold inA
      rw [if_neg (by rw [toI_len _ _ (by omega)]; omega), hg j (by omega), w.it k hk j (by omega)]
      have e1 : its.getD (rooms k + j) 0 = its[rooms k + j] := by simp [List.getElem?_eq_getElem hl2]
      have p1 := hp0 its[rooms k + j] (List.getElem_mem _)
      have p2 := hpos (rooms k + j) hl2 (by omega)
      have hlt := lastI_take hasc hp0 (rooms k + j) hl2
      rw [e1, if_neg (by simp [nothB]; omega), if_neg (by omega), toI_step its _ hl2]
      exact ih (j + 1) (by omega) (by omega)
theorem chase_arrG (R : Std G l os) (h0 : h.N 0 = 272) (w : ArrW os t arr its) (hasc : its.Pairwise (· < ·)) {n : Nat} (hn : n ≤ its.length) (hp0 : ∀ x ∈ its, 0 < x) (hpos : ∀ i (hi : i < its.length), i < n → its[i] < l.length) (hG : ∀ k (hk : k < arr.length), rooms k < n → G arr[k]) (na ni : Int) :
    ∀ (f k last : Nat), k ≤ arr.length → rooms k ≤ n → (k = 0 → last = 0) → (∀ hk : 0 < k, last = arr.getD (k - 1) 0) → last ≤ l.length → l.length + 1 ≤ f + last →
      chase h l l.length (n : Int) na ni f (toI (its.take (rooms k))) (arr.getD k 0) last = (toI (its.take n), 0) := by
  intro f
  induction f with
  | zero => intro k last _ _ _ _ h1 h2; omega
  | succ f ih =>
    intro k last hk hr hl0 hlk hle hf
    by_cases hfull : rooms k = n
    · rw [chase_full _ _ _ _ _ _ _ _ _ _ (by rw [toI_len _ _ (by omega), hfull]), hfull]
    · unfold chase
      rw [if_neg (by rw [toI_len _ _ (by omega)]; omega)]
      have hke : k ≠ arr.length := fun e => by
        have := w.le
        rw [e] at hr hfull
        omega
      have hklt : k < arr.length := by omega
      have e1 : arr.getD k 0 = arr[k] := by simp [List.getElem?_eq_getElem hklt]
      have hgk := hG k hklt (by omega)
      obtain ⟨o, ho, hsh⟩ := shp_some (w.sh k hklt)
      have hb := R.lt ho hgk
      have hrb := roomN_bd k
      have hlast : last < arr[k] := by
        rcases Nat.eq_zero_or_pos k with h1 | h1
        · rw [hl0 h1]; omega
        · have h2 := List.pairwise_iff_getElem.1 w.asc (k - 1) k (by omega) hklt (by omega)
          have h3 := hlk h1
          have e2 : arr.getD (k - 1) 0 = arr[k - 1] := by simp [List.getElem?_eq_getElem (show k - 1 < arr.length by omega)]
          omega
      obtain ⟨r1, r2, r3, r4⟩ := read_arrG R (w.sh k hklt) (by omega) hgk
      have hrng : h.N 0 ≤ (arr[k] : Int) ∧ arr[k] < l.length := by rw [h0]; omega
      have ha : arcode h l l.length arr[k] = 0 := by unfold arcode; rw [if_pos hrng]; exact r1
      have hx : (aX9 h l l.length arr[k]).toNat = arr.getD (k + 1) 0 := by
        unfold aX9
        rw [if_pos hrng, r2, w.nx k hklt, Int.toNat_natCast]
      have hc : aC9 h l l.length arr[k] = roomN k := by unfold aC9; rw [if_pos hrng]; exact r3
      rw [e1, if_neg (by simp [nothB]; omega), if_neg (by omega), if_neg (by rw [ha]; decide), hx, hc]
      refine inA_arrG w hasc hn hp0 hpos ni _ _ k hklt r4 (fun q1 => ?_) (fun o ho => chase_full _ _ _ _ _ _ _ _ _ _ ho) (roomN k) 0 (by omega) (by omega)
      exact ih (k + 1) arr[k] (by omega) q1 (fun h => absurd h (by omega)) (fun _ => by rw [Nat.add_sub_cancel]; exact e1.symm) (by omega) (by omega)
end Go.Proofs.YtjecmgkmcfkcjaaGreat.Jl
namespace Go.Proofs.YtjecmgkmcfkcjaaGreat.Jm
open Bytes8 Blk8 Ya LeNum LeAl Ob Oc Ga Gb Gf Gj Ma Mb Me Mg Na Nb Nc Nh Nl Np Fc Nq Nr Ns Nt Nu Sg Fa Yd Yc Za Zb Zc Zd Ze Zf Zg Zh Zi Zj Zk Zl Pr8 Ps8 Pl8 Va Wa Ls Rn Rr Ja Jd Je Jf Ji Jl
open Go1 (hcode magicB)
set_option linter.unusedVariables false
set_option linter.unusedSimpArgs false
set_option maxRecDepth 100000

theorem kept_step {m : Mk} {rs : List RR} {os : List O} {hs : Nat → List Nat} {mi : List Nat} {es : List (Nat × List Int)} (k : Kept m rs.length os hs mi es) (q : Recs m rs es) (L : List PR) (hP : AllP L) (real mono : Int) (K : Nat → Int) (hr : 0 ≤ real ∧ real ≤ 18446744073709551615) (hm : 0 ≤ mono ∧ mono ≤ 18446744073709551615) (hK : IdOk K) (h0 : Mk.acode m L real mono K = 0) :
    ∃ os' hs' a body, Kept (Mk.after m L real mono K) (rs ++ [(L, real, mono, K)]).length os' hs' (mi ++ [a]) (es ++ [(a, body)]) ∧ Recs (Mk.after m L real mono K) (rs ++ [(L, real, mono, K)]) (es ++ [(a, body)]) ∧ DG m (Mk.after m L real mono K) ∧ m.main <+: (Mk.after m L real mono K).main ∧ (Mk.after m L real mono K).h.N 9 = m.h.N 9 + 1 ∧ m.b.length ≤ (Mk.after m L real mono K).b.length := by
  have ga := after_good k.good hP real mono K hr hm hK
  have h1 : listE L = 0 := by
    unfold Mk.acode at h0
    by_cases h1 : listE L = 0
    · exact h1
    · rw [if_pos h1] at h0; exact absurd h0 h1
  have h9 : m.h.N 9 ≠ 18446744073709551615 := fun h9 => by
    unfold Mk.acode at h0
    rw [if_neg (by simpa using h1), if_pos h9] at h0
    cases h0
  have ok := prOk_list hP h1
  have hml := k.good.img.len
  have hbl : m.b.length ≤ 900000 := by omega
  obtain ⟨wd1, wp1, ws1⟩ := who_all k.hold k.good.img.inv (listL L) ok hbl (list_nodup h1) (listL L).length (Nat.le_refl _)
  obtain ⟨i1, i2, i3, i4, i5⟩ := inv_dataAll k.good.img.inv (listL L) ok.all (listL L).length (Nat.le_refl _)
  rw [List.take_length] at wd1 wp1 ws1 i3 i5
  obtain ⟨o2, H, h11, hle, hlt⟩ := hold_grown k.hold k.good.img.inv (by rw [k.n8, k.len]) ok k.good.img.len real mono K hK
  have e8 := entered_n8 k.good.img.inv k.good.img.hg (listL L) ok.all ok.len k.good.img.len real mono K hr hm hK h9
  have hA : Mk.after m L real mono K = Mk.entered m (listL L) real mono K := by unfold Mk.after; rw [if_pos h0]
  rw [hA] at ga ⊢
  have hb : (Mk.entered m (listL L) real mono K).b = (Mk.grown m (listL L) real mono K).b := rfl
  have hbd : ∀ x ∈ mi ++ [(Mk.dataAll m (listL L)).1.b.length], 304 ≤ x ∧ x < (Mk.grown m (listL L) real mono K).b.length := fun x hx => by
    rcases List.mem_append.1 hx with h2 | h2
    · have := k.bd x h2; omega
    · rw [List.mem_singleton] at h2
      have := k.good.img.inv.len
      omega
  have H2 := hold_told H (m.h.N 8).toNat (m.h.N 9 + 1) real mono K (Mk.dataAll m (listL L)).1.b.length
  have dgA : DG (Mk.dataAll m (listL L)).1 (Mk.entered m (listL L) real mono K) :=
    ((dg_object _ _).trans (dg_linked _ _ _)).trans ((dg_markAll _ _ _).trans (dg_told _ _ _ _ _ _ _))
  have dgM : DG m (Mk.entered m (listL L) real mono K) := wd1.trans dgA
  have hN9 : (Mk.entered m (listL L) real mono K).h.N 9 = m.h.N 9 + 1 := by
    show (Mk.told _ _ _ _ _ _ _).h.N 9 = _
    rw [told_N _ _ _ _ _ _ _ _ (by decide), if_neg (by decide), if_neg (by decide), if_pos rfl]
  have hqb := q.base
  have hqt := q.top
  have hmn : m.main <+: (Mk.entered m (listL L) real mono K).main := by
    have e1 : (Mk.dataAll m (listL L)).1.main = m.main := i5.main
    show m.main <+: (Mk.markAll (Mk.dataAll m (listL L)).1.b.length (Mk.linked ((Mk.dataAll m (listL L)).1.object (Mk.eobj (Mk.dataAll m (listL L)).1 (Mk.dataAll m (listL L)).2 ((listL L).map fun q => pay q.1 q.2) (m.h.N 9 + 1) real mono K)) (Mk.dataAll m (listL L)).1.b.length (m.h.N 8).toNat) (Mk.dataAll m (listL L)).2).main
    rw [(markAll_keep _ _ _).1]
    show m.main <+: (Mk.link _ (Mk.dataAll m (listL L)).1.main _ 176 _).2.1
    rw [e1]
    unfold Mk.link
    split
    · exact List.prefix_append _ _
    · exact List.prefix_refl _
  refine ⟨o2, _, _, _, ⟨H2, ga, ?_, ?_, ?_, ?_, hbd, ?_⟩, ⟨?_, ?_, fun i hi => ?_, ?_, ?_, ?_, ?_⟩, dgM, hmn, hN9, by rw [hb]; omega⟩
  · rw [e8, k.n8, List.length_append]; rfl
  · rw [List.length_append, List.length_append, k.len]; rfl
  · show (Mk.told _ _ _ _ _ _ _).h.N 11 = ((Mk.told _ _ _ _ _ _ _).main.headD 0 : Nat)
    rw [told_N _ _ _ _ _ _ _ _ (by decide), if_neg (by decide), if_neg (by decide), if_neg (by decide), if_neg (by omega), if_neg (by omega)]
    exact h11
  · rw [List.pairwise_append]
    refine ⟨k.rise, by simp, fun a ha2 b hb2 => ?_⟩
    rw [List.mem_singleton] at hb2
    have := k.bd a ha2
    omega
  · rw [List.map_append, k.ent]; rfl
  · rw [List.length_append, List.length_append, q.len]; rfl
  · rw [dgM.ic, dgM.C]; exact q.ic
  · rw [dgM.I i hi, dgM.C]; exact q.I i hi
  · rw [hN9, List.length_append, List.length_singleton]; push_cast; omega
  · rw [hN9]; omega
  · intro r hr2
    rcases List.mem_append.1 hr2 with h2 | h2
    · exact q.ok r h2
    · rw [List.mem_singleton] at h2
      subst h2
      exact ⟨h1, hP, hr, hm, hK⟩
  · intro i hi hi2
    rw [hN9, List.length_append, List.length_singleton]
    by_cases hlast : i < rs.length
    · rw [List.getElem_append_left hlast, List.getElem_append_left (by have := q.len; omega)]
      have h3 := (q.ent i hlast (by have := q.len; omega)).dg dgM
      rw [show m.h.N 9 + 1 - ((rs.length + 1 : Nat) : Int) + (i : Int) + 1 = m.h.N 9 - (rs.length : Int) + (i : Int) + 1 by push_cast; omega]
      exact h3
    · have hi3 : i = rs.length := by rw [List.length_append, List.length_singleton] at hi; omega
      subst hi3
      have hl := q.len
      rw [List.getElem_append_right (Nat.le_refl _), List.getElem_append_right (by omega)]
      have h4 : EntR (Mk.dataAll m (listL L)).1 (m.h.N 9 + 1) (L, real, mono, K) (entB (m.h.N 9 + 1) real mono K ((xr ((listL L).map fun q => pay q.1 q.2) : Nat) : Int) (prs (fun i => ((Mk.kn (Mk.dataAll m (listL L)).1 ((Mk.dataAll m (listL L)).2.getD i 0)).at_ : Int)) (fun i => Mk.sum (Mk.dataAll m (listL L)).1 (Mk.kn (Mk.dataAll m (listL L)).1 ((Mk.dataAll m (listL L)).2.getD i 0)).text) (Mk.dataAll m (listL L)).2.length)) :=
        ⟨_, i3, ws1, wp1, rfl⟩
      have h5 := h4.dg dgA
      rw [show m.h.N 9 + 1 - ((rs.length + 1 : Nat) : Int) + (rs.length : Int) + 1 = m.h.N 9 + 1 by push_cast; omega]
      simpa using h5

/-- A writer some entries later. -/
inductive More (m : Mk) : Mk → List RR → Prop
  | refl : More m m []
  | step {m1 : Mk} {rs : List RR} (h : More m m1 rs) (L : List PR) (hP : AllP L) (real mono : Int) (K : Nat → Int) (hr : 0 ≤ real ∧ real ≤ 18446744073709551615) (hm : 0 ≤ mono ∧ mono ≤ 18446744073709551615) (hK : IdOk K) (h0 : Mk.acode m1 L real mono K = 0) : More m (Mk.after m1 L real mono K) (rs ++ [(L, real, mono, K)])
structure Ltr (m m' : Mk) (mi mi' : List Nat) (es es' : List (Nat × List Int)) (n : Nat) : Prop where
  dg : DG m m'
  mi : mi <+: mi'
  es : es <+: es'
  main : m.main <+: m'.main
  n9 : m'.h.N 9 = m.h.N 9 + (n : Int)
  len : m.b.length ≤ m'.b.length
theorem kept_more {m : Mk} {rs : List RR} {os : List O} {hs : Nat → List Nat} {mi : List Nat} {es : List (Nat × List Int)} (k : Kept m rs.length os hs mi es) (q : Recs m rs es) {m' : Mk} {more : List RR} (h : More m m' more) :
    ∃ os' hs' mi' es', Kept m' (rs ++ more).length os' hs' mi' es' ∧ Recs m' (rs ++ more) es' ∧ Ltr m m' mi mi' es es' more.length := by
  induction h with
  | refl => exact ⟨os, hs, mi, es, by rw [List.append_nil]; exact k, by rw [List.append_nil]; exact q, ⟨DG.refl m, List.prefix_refl _, List.prefix_refl _, List.prefix_refl _, by simp, Nat.le_refl _⟩⟩
  | step h L hP real mono K hr hm hK h0 ih =>
    rename_i m1 more
    obtain ⟨os1, hs1, mi1, es1, k1, q1, t⟩ := ih
    obtain ⟨os2, hs2, a, body, k2, q2, d2, n2, c2, l2⟩ := kept_step k1 q1 L hP real mono K hr hm hK h0
    rw [← List.append_assoc]
    refine ⟨os2, hs2, _, _, k2, q2, t.dg.trans d2, t.mi.trans (List.prefix_append _ _), t.es.trans (List.prefix_append _ _), t.main.trans n2, ?_, Nat.le_trans t.len l2⟩
    rw [c2, t.n9, List.length_append, List.length_singleton]
    push_cast
    omega
/-! ## places -/
theorem place_in {os os' : List O} {a : Nat} {s : Sh} (h : shp os a = some s) (h' : shp os' a = some s) : ∀ o, obj 272 os' a = some o → a + o.n ≤ endO os := by
  intro o ho
  obtain ⟨o1, h1, e1⟩ := shp_some h
  obtain ⟨o2, h2, e2⟩ := shp_some h'
  rw [ho] at h2
  injection h2 with h2
  subst h2
  have hb := obj_bd _ _ _ _ h1
  have e3 := e1.trans e2.symm
  injection e3 with e4 e5 e6 e7
  have n1 := o.n_is
  have n2 := o1.n_is
  rw [e5, e6, ← n1] at n2
  unfold endO
  omega
theorem std_cut {l hd : List Int} {os : List O} (hl : l = hd ++ enc os) (hh : hd.length = 272) (hok : ∀ o ∈ os, o.Ok) (E : Nat) : Std (fun a => ∀ o, obj 272 os a = some o → a + o.n ≤ E) (l.take E) os where
  ok := hok
  at_ := fun a o ho hg => by
    obtain ⟨p, q, e, hp⟩ := obj_split _ _ _ _ ho
    have h1 := hg o ho
    have h2 : o.enc.length = o.n := rfl
    refine ⟨hd ++ p, q.take (E - a - o.n), ?_, by rw [List.length_append, hh, hp]⟩
    rw [hl, e, ← List.append_assoc, List.take_append, List.take_of_length_le (by rw [List.length_append]; omega), List.take_append, List.take_of_length_le (by rw [List.length_append]; omega)]
    congr 2
    rw [List.length_append, h2]
    congr 1
    omega
/-! ## an elder head -/
def elL (m m' : Mk) (st : Int) : List Int := (stH m st).bytes 21 ++ m'.b.drop 272
theorem el_len {m m' : Mk} (h : Img m') (st : Int) : (elL m m' st).length = m'.b.length := by
  have := h.lens
  unfold elL
  rw [List.length_append, HD.bytes_len, List.length_drop]
  omega
theorem el_says {m m' : Mk} (h : Img m) {st : Int} (hs : 0 ≤ st ∧ st ≤ 2) : Says (hdOf (elL m m' st)) (stH m st) :=
  hd_back (stH m st) (st_ok h hs) (by show 0 ≤ st ∧ st < 256; omega) (m'.b.drop 272)
theorem el_hcode {m m' : Mk} (h : Img m) (h' : Img m') (hle : m.b.length ≤ m'.b.length) {st : Int} (hs : 0 ≤ st ∧ st ≤ 2) : hcode (elL m m' st) m'.b.length = 0 := by
  have hl := h.lens
  unfold hcode
  rw [if_neg (by omega), show magicB (elL m m' st) = true from magic_back _ _ _, if_neg (by simp), (el_says h hs).fcode, st_fcode h hs, img_fcode h _ (by omega)]
theorem el_end {m m' : Mk} (h : Img m) {st : Int} (hs : 0 ≤ st ∧ st ≤ 2) : endV (hdOf (elL m m' st)) = (m.b.length : Int) ∧ endB (hdOf (elL m m' st)) = true := by
  have s := el_says (m' := m') h hs
  have e0 := (s.N 0 (by decide)).trans (stH_N m st 0 (by decide))
  have e1 := (s.N 1 (by decide)).trans (stH_N m st 1 (by decide))
  obtain ⟨l1, l2, l3⟩ := h.lens
  rw [if_neg (by decide), h.hg.n0] at e0
  rw [if_pos rfl] at e1
  unfold endV endB
  rw [e0, e1]
  constructor
  · split <;> omega
  · simp; omega
variable {m m' : Mk} {rs more : List RR} {os os' : List O} {hs hs' : Nat → List Nat} {mi mi' : List Nat} {es es' : List (Nat × List Int)}
theorem pre_get {α : Type} {l l' : List α} (h : l <+: l') (i : Nat) (hi : i < l.length) : ∃ hi' : i < l'.length, l'[i] = l[i] := by
  obtain ⟨t, rfl⟩ := h
  exact ⟨by rw [List.length_append]; omega, List.getElem_append_left hi⟩
theorem el_std (k' : Kept m' (rs ++ more).length os' hs' mi' es') (st : Int) (E : Nat) : Std (fun a => ∀ o, obj 272 os' a = some o → a + o.n ≤ E) ((elL m m' st).take E) os' :=
  std_cut (hd := (stH m st).bytes 21) (by unfold elL; rw [k'.hold.rep.rep.eq]) (by rw [HD.bytes_len]) k'.hold.rep.ok E
theorem el_chase (k : Kept m rs.length os hs mi es) (k' : Kept m' (rs ++ more).length os' hs' mi' es') (t : Ltr m m' mi mi' es es' more.length) {st : Int} (ht : 0 ≤ st ∧ st ≤ 2) :
    chase (hdOf (elL m m' st)) ((elL m m' st).take m.b.length) m.b.length ((hdOf (elL m m' st)).N 8) 14 2 (m.b.length + 1) [] ((hdOf (elL m m' st)).N 11).toNat 0 = (toI mi, 0) := by
  have hI := k.good.img
  have s := el_says (m' := m') hI ht
  have hL := el_len (m := m) k'.good.img st
  have hLe : ((elL m m' st).take m.b.length).length = m.b.length := by rw [List.length_take, hL]; have := t.len; omega
  have e0 := (s.N 0 (by decide)).trans (stH_N m st 0 (by decide))
  rw [if_neg (by decide), hI.hg.n0] at e0
  have e8 := (s.N 8 (by decide)).trans (stH_N m st 8 (by decide))
  rw [if_neg (by decide), k.n8] at e8
  have e11 := (s.N 11 (by decide)).trans (stH_N m st 11 (by decide))
  rw [if_neg (by decide), k.n11] at e11
  rw [e8, e11, Int.toNat_natCast]
  by_cases hz : rs.length = 0
  · rw [chase_full _ _ _ _ _ _ _ _ _ _ (by rw [hz]; rfl), List.eq_nil_of_length_eq_zero (k.len.trans hz)]
    rfl
  · have hsz := k.hold.rep.size
    have hmn := k.hold.mn.le
    have hml : m.main ≠ [] := fun e => by
      rw [e] at hmn
      have h1 : rooms ([] : List Nat).length = 0 := rfl
      have := k.len
      omega
    have e : m.main.headD 0 = m'.main.getD 0 0 := by
      obtain ⟨u, hu⟩ := t.main
      rw [← hu]
      cases h : m.main with
      | nil => exact absurd h hml
      | cons x y => rfl
    have hmp : mi = mi'.take rs.length := by
      obtain ⟨u, hu⟩ := t.mi
      rw [← hu, ← k.len, List.take_left]
    have hlen := t.mi.length_le
    have hkl := k.len
    have q := chase_arrG (h := hdOf (elL m m' st)) (el_std k' st m.b.length) e0 k'.hold.mn k'.rise (n := rs.length) (by omega) (fun x hx => by have := k'.bd x hx; omega) (fun i hi hin => by
      rw [hLe]
      obtain ⟨hi2, e2⟩ := pre_get t.mi i (by omega)
      rw [e2]
      exact (k.bd _ (List.getElem_mem _)).2) (fun j hj hjn => by
      have hj2 : j < m.main.length := by
        rcases Nat.lt_or_ge j m.main.length with h1 | h1
        · exact h1
        · have := rooms_mono h1; omega
      obtain ⟨hj3, e2⟩ := pre_get t.main j hj2
      have s1 := k'.hold.mn.sh j hj
      rw [e2] at s1 ⊢
      rw [hsz]
      exact place_in (k.hold.mn.sh j hj2) s1) 14 2 (m.b.length + 1) 0 0 (Nat.zero_le _) (Nat.zero_le _) (fun _ => rfl) (fun h => absurd h (by decide)) (Nat.zero_le _) (by rw [hLe]; omega)
    rw [hLe] at q
    rw [e, hmp]
    exact q
theorem el_rec (k : Kept m rs.length os hs mi es) (q : Recs m rs es) (k' : Kept m' (rs ++ more).length os' hs' mi' es') (t : Ltr m m' mi mi' es es' more.length) {st : Int} (ht : 0 ≤ st ∧ st ≤ 2) (i : Nat) (hi : i < rs.length) :
    rcode (hdOf (elL m m' st)) ((elL m m' st).take m.b.length) m.b.length (mi.getD i 0) = 0 ∧ (recP (hdOf (elL m m' st)) ((elL m m' st).take m.b.length) m.b.length (mi.getD i 0)).s = m.h.N 9 - rs.length + i + 1 ∧ (recP (hdOf (elL m m' st)) ((elL m m' st).take m.b.length) m.b.length (mi.getD i 0)).r = rs[i].2.1 ∧ (recP (hdOf (elL m m' st)) ((elL m m' st).take m.b.length) m.b.length (mi.getD i 0)).m = rs[i].2.2.1 ∧ (∀ j, j < 16 → (recP (hdOf (elL m m' st)) ((elL m m' st).take m.b.length) m.b.length (mi.getD i 0)).K j = rs[i].2.2.2 j) ∧ (∀ x, x ∈ (recP (hdOf (elL m m' st)) ((elL m m' st).take m.b.length) m.b.length (mi.getD i 0)).pl ↔ x ∈ listL rs[i].1) := by
  have hI := k.good.img
  have s := el_says (m' := m') hI ht
  have hL := el_len (m := m) k'.good.img st
  have hmx := k'.good.img.len
  have hLe : ((elL m m' st).take m.b.length).length = m.b.length := by rw [List.length_take, hL]; have := t.len; omega
  have e0 := (s.N 0 (by decide)).trans (stH_N m st 0 (by decide))
  rw [if_neg (by decide), hI.hg.n0] at e0
  have hie : i < es.length := by have := q.len; omega
  have hat : mi.getD i 0 = es[i].1 := by
    rw [← k.ent, List.getD_eq_getElem?_getD, List.getElem?_eq_getElem (by rw [List.length_map]; exact hie), List.getElem_map]; rfl
  have hE := k.hold.ent i hie
  obtain ⟨hi2, e2⟩ := pre_get t.es i hie
  have hE' := k'.hold.ent i hi2
  rw [e2] at hE'
  obtain ⟨who, w1, w2, w3, w4⟩ := q.ent i hi hie
  have hr := q.ok rs[i] (List.getElem_mem hi)
  have hb1 := q.base
  have hb2 := q.top
  have hsz := k.hold.rep.size
  have w1' : ∀ x ∈ who, x < m'.datas.length := fun x hx => Nat.lt_of_lt_of_le (w1 x hx) t.dg.len
  have hgw : ∀ x ∈ who, ∀ o, obj 272 os' (Mk.kn m' x).at_ = some o → (Mk.kn m' x).at_ + o.n ≤ m.b.length := fun x hx => by
    rw [hsz]
    have D := (k.hold.dat x (w1 x hx)).sh
    have D' := (k'.hold.dat x (w1' x hx)).sh
    rw [← kn_at (w1 x hx)] at D
    rw [← kn_at (w1' x hx), (t.dg.kn x (w1 x hx)).2] at D'
    rw [(t.dg.kn x (w1 x hx)).1] at D' ⊢
    exact place_in D D'
  rw [hat]
  have r := rec_readG k'.hold (el_std (m := m) k' st m.b.length) (H := hdOf (elL m m' st)) e0 (s.ic.trans (q.ic.trans (by rw [t.dg.C]))) (fun j hj => (s.I j (by omega)).trans ((q.I j hj).trans (by rw [t.dg.C]))) (by rw [hLe]; have := t.len; omega) hE' (by rw [hsz]; exact place_in hE hE') (sq := m.h.N 9 - (rs.length : Int) + (i : Int) + 1) ⟨by omega, by omega⟩ (by omega) hr w1'
    (w2.imp_of_mem fun {a b} ha hb hab => by rw [(t.dg.kn a (w1 a ha)).1, (t.dg.kn b (w1 b hb)).1]; exact hab) (by rw [List.map_congr_left fun x hx => (t.dg.kn x (w1 x hx)).2]; exact w3)
    (w4.trans (by
      congr 1
      refine prs_cong fun j hj => ?_
      rw [getD_lt hj, (t.dg.kn _ (w1 _ (List.getElem_mem hj))).1, (t.dg.kn _ (w1 _ (List.getElem_mem hj))).2, sum_C t.dg.C]
      exact ⟨rfl, rfl⟩)) hgw
  rw [hLe] at r
  exact r
/-- The right entries of a journal under an elder head: all of that time. -/
theorem el_good (k : Kept m rs.length os hs mi es) (q : Recs m rs es) (k' : Kept m' (rs ++ more).length os' hs' mi' es') (t : Ltr m m' mi mi' es es' more.length) {st : Int} (ht : 0 ≤ st ∧ st ≤ 2) {b0 : Int} (h9 : m.h.N 9 = b0 + (rs.length : Int)) :
    (goodRecs (hdOf (elL m m' st)) ((elL m m' st).take m.b.length) m.b.length (toI mi) mi.length).length = rs.length ∧ ∀ i (hi : i < rs.length), SameP ((goodRecs (hdOf (elL m m' st)) ((elL m m' st).take m.b.length) m.b.length (toI mi) mi.length).getD i dP) (rowP b0 i rs[i]) := by
  have hb := q.base
  have hsr := fun i hi => el_rec k q k' t ht i hi
  rw [k.len]
  have hall := goodRecs_all (h := hdOf (elL m m' st)) (l := (elL m m' st).take m.b.length) (E := m.b.length) (out := toI mi) (b := b0) (by omega) rs.length (fun x hx => by
    obtain ⟨s1, s2, _⟩ := hsr x hx
    show rcode _ _ _ ((toI mi).getD x 0).toNat = 0 ∧ (recP _ _ _ ((toI mi).getD x 0).toNat).s = _
    rw [toI_nat]
    exact ⟨s1, by rw [s2]; omega⟩)
  rw [hall]
  refine ⟨by rw [List.length_map, List.length_range], fun i hi => ?_⟩
  rw [List.getD_eq_getElem?_getD, List.getElem?_map, List.getElem?_range hi]
  obtain ⟨s1, s2, s3, s4, s5, s6⟩ := hsr i hi
  show SameP (recP _ _ _ ((toI mi).getD i 0).toNat) _
  rw [toI_nat]
  exact ⟨by rw [s2]; show _ = b0 + (i : Int) + 1; omega, s3, s4, s5, fun y => (s6 y).trans (list_mem (q.ok _ (List.getElem_mem hi)).list y)⟩
end Go.Proofs.YtjecmgkmcfkcjaaGreat.Jm
namespace Go.Proofs.YtjecmgkmcfkcjaaGreat.Jn
open Go.ChangeShapes Go.WideShapes Go.ChangeAt Go.RowKit
open Bytes8 Blk8 OwnM OwnE OwnA LeA LeNum LeP Rows2 Ob Oc Od Ga Gb Gc Gd Gf Gi Gj Ma Mb Mc Md Mf Mh Na Nb Nc Nd Nh No Np Nq Nr Ns Nt Nu Nv Kf Seq8 Pr8 Ps8 Pl8 Zj Jm
set_option linter.unusedVariables false
set_option linter.unusedSimpArgs false
set_option maxRecDepth 100000

theorem ty_own {E : TypeId} {size : Nat} {w : World} {B n c : Nat} {A : Option Addr} {xs : List Value} (h : OwnE E size w B A n c xs) {k : Nat} (e : ownB A = some k) : ∃ cur, w.heap[k]? = some (.cells cur E (0, 0)) := by
  rcases h.2.2 with ⟨e0, _⟩ | ⟨g, cap, cur, hv, hbg, hg, _⟩
  · injection e0 with e1 e2 e3
    subst e1
    cases e
  · injection hv with e1 e2 e3
    subst e1
    have e4 : g = k := by simpa [ownB] using e
    subst e4
    exact ⟨cur, hg⟩
theorem foot_ty {w : World} {B g : Nat} {p : Pl} {m : Mk} (h : At w B g p m) {k : Nat} (hf : p.foot g k) : ∃ cur T, w.heap[k]? = some (.cells cur T (0, 0)) ∧ (T = 167 ∨ T = 5 ∨ T = 198) := by
  rcases hf with rfl | rfl | h1 | h1
  · exact ⟨_, _, h.st.st, .inl rfl⟩
  · obtain ⟨cur, hc⟩ := ty_own (E := 5) (size := 1) ⟨h.st.own.2.2.1, h.st.own.2.2.2⟩ (k := p.bb) rfl
    exact ⟨cur, _, hc, .inr (.inl rfl)⟩
  · obtain ⟨cur, hc⟩ := ty_own h.dr h1
    exact ⟨cur, _, hc, .inr (.inr rfl)⟩
  · obtain ⟨cur, hc⟩ := ty_own h.fr h1
    exact ⟨cur, _, hc, .inr (.inr rfl)⟩
theorem rws_off {w : World} {B B0 g n c : Nat} {p : Pl} {m : Mk} {A : Option Addr} {xs : List Value} (h : At w B g p m) (r : Rws w B0 A n c xs) : ∀ k, ownB A = some k → ¬ p.foot g k := fun k e hf => by
  obtain ⟨cur, hc⟩ := ty_own r.own e
  obtain ⟨cur2, T, h2, h3⟩ := foot_ty h hf
  rw [hc] at h2
  injection h2 with h2
  injection h2 with _ h2
  rw [← h2] at h3
  revert h3
  decide
theorem seq_off {w : World} {B g gq : Nat} {p : Pl} {m : Mk} {vs : List Value} (h : At w B g p m) (hq : Blk w gq vs 55) : ¬ p.foot g gq := fun hf => by
  obtain ⟨cur2, T, h2, h3⟩ := foot_ty h hf
  have hq' : w.heap[gq]? = _ := hq
  rw [hq'] at h2
  injection h2 with h2
  injection h2 with _ h2
  rw [← h2] at h3
  revert h3
  decide
theorem arr_off {w w' : World} {Ft : Nat → Prop} {v : Value} {l : List Nat} {gq : Nat} {a : Option Addr} {n c : Nat} {vs : List Value} {T : TypeId} (h : Arr w Ft v l) (hq : Blk w gq (.slice a n c :: vs) T) (hk : KeptF (One gq) w w') : Arr w' Ft v l := by
  obtain ⟨A2, n2, c2, rfl, hl, hc⟩ := h
  refine ⟨A2, n2, c2, rfl, hl, fun i hi => ?_⟩
  obtain ⟨b, e, hb, hf, hcell⟩ := hc i hi
  refine ⟨b, e, Nat.lt_of_lt_of_le hb hk.size, hf, ?_⟩
  have hne : b ≠ gq := fun e2 => by
    obtain ⟨b3, e3, _, _, hc3⟩ := hc 0 (by omega)
    rw [e] at e3
    injection e3 with e3
    injection e3 with e3
    rw [← e3, e2, hq.cell (i := 0) rfl] at hc3
    cases hc3
  exact (World.cell?_of_block (a := ⟨b, i, none⟩) (hk.block b hb hne)).trans hcell
/-- A sequence of its own is turned. -/
theorem at_seq {w w' : World} {B g gq : Nat} {p : Pl} {m : Mk} {a : Option Addr} {n c : Nat} {vs : List Value} (h : At w B g p m) (hq : Blk w gq (.slice a n c :: vs) 55) (hk : KeptF (One gq) w w') : At w' B g p m :=
  have off : ∀ k, p.foot g k → ¬ One gq k := fun k hf e => seq_off h hq (show p.foot g gq from (show k = gq from e) ▸ hf)
  { st := ⟨Kf.Blk.keptF h.st.st hk (off _ (.inl rfl)), Kf.Own.keptF h.st.own hk (fun k hk' => off k (.inr (.inl (by injection hk' with e; exact e.symm)))), h.st.ne⟩
    dr := Mf.OwnE.keptF h.dr hk (fun k e => off k (.inr (.inr (.inl e))))
    fr := Mf.OwnE.keptF h.fr hk (fun k e => off k (.inr (.inr (.inr e))))
    dm := h.dm, fm := h.fm
    da := fun q hq2 => arr_off (h.da q hq2) hq hk
    ma := arr_off h.ma hq hk
    dg := h.dg, fg := h.fg, df := h.df, gB := h.gB, fo := h.fo }
theorem seq_kept {w w' : World} {gq : Nat} {a : Option Addr} {len cap : Nat} {f : Nat → Int} {k : Nat} {F : Nat → Prop} (h : SeqIn w gq a len cap f k) (hk : KeptF F w w') (hg : ¬ F gq) (hA : 0 < len → ∀ b off, a = some ⟨b, off, none⟩ → ¬ F b) : SeqIn w' gq a len cap f k :=
  ⟨Kf.Blk.keptF h.1 hk hg, fun i hi => by
    obtain ⟨b, off, e, h1, h2, h3⟩ := h.2.1 i hi
    exact ⟨b, off, e, Nat.lt_of_lt_of_le h1 hk.size, (World.cell?_of_block (hk.block b h1 (hA (by omega) b off e))).trans h2, h3⟩, h.2.2⟩
theorem after_goodR {m : Mk} (g : Nu.Good m) {L : List PR} (hP : AllP L) (real mono : Int) (K : Nat → Int) (hr : 0 ≤ real ∧ real ≤ 18446744073709551615) (hm : 0 ≤ mono ∧ mono ≤ 18446744073709551615) (hK : IdOk K) {m0 : Mk} {more : List RR} (h : More m0 m more) :
    Nu.Good (Mk.after m L real mono K) ∧ ∃ more', More m0 (Mk.after m L real mono K) more' := by
  refine ⟨after_good g hP real mono K hr hm hK, ?_⟩
  by_cases h0 : Mk.acode m L real mono K = 0
  · exact ⟨_, More.step h L hP real mono K hr hm hK h0⟩
  · unfold Mk.after
    rw [if_neg h0]
    exact ⟨_, h⟩
/-- Where the loop stands: the writer, some entries later. -/
structure LE (W0 wr : World) (B g gq : Nat) (a : Option Addr) (len cap : Nat) (f : Nat → Int) (p0 : Pl) (m0 : Mk) : Prop where
  jr : ∃ p m more, At wr B g p m ∧ Nu.Good m ∧ More m0 m more ∧ ∀ b, p.foot g b → p0.foot g b ∨ W0.heap.size ≤ b
  sq : ∃ k, SeqIn wr gq a len cap f k
  kp : KeptF (fun b => p0.foot g b ∨ b = gq) W0 wr
theorem LE.below {W0 wr w' : World} {B g gq : Nat} {a : Option Addr} {len cap : Nat} {f : Nat → Int} {p0 : Pl} {m0 : Mk} (h : LE W0 wr B g gq a len cap f p0 m0) (hb : Below wr.heap.size wr w') : LE W0 w' B g gq a len cap f p0 m0 := by
  obtain ⟨⟨p, m, more, h1, h2, h3, h4⟩, ⟨k, h5⟩, h6⟩ := h
  exact ⟨⟨p, m, more, At.below h1 hb, h2, h3, h4⟩, ⟨k, h5.below hb⟩, h6.trans (KeptF.of_below (F := fun _ => False) hb) (fun _ _ h => h.elim)⟩
/-- The document's journal under an elder head is opened. -/
theorem jopen_el {m m' : Mk} {rs more : List RR} {os os' : List Za.O} {hs hs' : Nat → List Nat} {mi mi' : List Nat} {es es' : List (Nat × List Int)} (k : Zg.Kept m rs.length os hs mi es) (k' : Zg.Kept m' (rs ++ more).length os' hs' mi' es') (t : Ltr m m' mi mi' es es' more.length) {st : Int} (ht : 0 ≤ st ∧ st ≤ 2) (A : Option Addr) (c : Nat) (w : World) (hb : Bytes w A (elL m m' st)) (hc : m'.b.length ≤ c) :
    Calls Tryz.prog 42 #[.slice A m'.b.length c] w fun e w' => ∃ (gf gv : Nat) (A2 : Option Addr) (c2 : Nat) (P : Option Addr) (cp : Nat), e = .returned (.tuple #[.pointer (some ⟨gf, 0, none⟩), .int .i64 0]) ∧ Jb.FileAt w' gf gv (hdOf (elL m m' st)) A2 m.b.length c2 ((elL m m' st).take m.b.length) P mi.length cp (Zh.toI mi) 0 ∧ Below w.heap.size w w' := by
  have hI := k.good.img
  have hlens := k'.good.img.lens
  have hL := el_len (m := m) k'.good.img st
  obtain ⟨e1, e2⟩ := el_end (m' := m') hI ht
  have hch := el_chase k k' t ht
  refine (Jb.jopen_fine (elL m m' st) A m'.b.length c w hb hL (by omega) hc (el_hcode hI k'.good.img t.len ht) m.b.length e1 e2 t.len (hdOf_ok hb.1 21)).mono ?_
  rintro e w' ⟨gf, gv, A2, c2, P, q, cp, rfl, hf, hb'⟩
  rw [hch] at hf
  dsimp only at hf
  have hq : q = mi.length := by have := hf.len; rw [List.length_map] at this; exact this.symm
  subst hq
  exact ⟨gf, gv, A2, c2, P, cp, rfl, hf, hb'⟩
end Go.Proofs.YtjecmgkmcfkcjaaGreat.Jn
namespace Go.Proofs.YtjecmgkmcfkcjaaGreat.JfileElderW
open Go.ChangeShapes Go.WideShapes Go.ChangeAt Go.RowKit
open Bytes8 Blk8 Own8 OwnM OwnA OwnE LeA LeNum LeP Rows2 Ob Oc Od Ga Gb Gc Gd Gf Gi Gj Numb Ma Mb Mc Mh Mi Na Nd Nh Ni No Np Nq Nr Ns Nt Nu Nv Ra Rc Rn Rp Rr Va Wa Ls Pr8 Ps8 Pl8 Zg Zh Zi Zj Zk Zl Zt Seq8 Kf Ja Jb Jd Je Jf Jg Ji Jm Jn
open Go1 (hcode)
set_option linter.unusedVariables false
set_option linter.unusedSimpArgs false
set_option maxRecDepth 100000

theorem cut_hi (A : Option Addr) (len cap hi : Nat) (h2 : hi ≤ cap) (w : World) :
    (Instr.slice 23 (.slice A len cap) none (some (.int .i64 (hi : Int))) none).run Tryz.prog w = .ok (.slice (cutA A cap 0) hi cap) w := by
  have ht : Tryz.prog.underlying 23 = some (.slice (Tryz.prog.elem 23)) := by rw [elem8]; exact Tryz.underlying23
  rw [run_slice_h w 23 A len cap ht .i64 hi (by omega) (by omega), elem8, sizeof8]
  unfold sliced cutA
  by_cases hc : cap = 0
  · simp [hc]
  · simp [hc]
attribute [local irreducible] Mk.cells HD.cells wpList Code.wp
set_option maxHeartbeats 16000000 in
theorem walk_main (a : Option Addr) (len cap : Nat) (f : Nat → Int) (a2 : Option Addr) (len2 cap2 : Nat) (f2 : Nat → Int) (w : World) (hI : InInts .i64 w a len f) (hl : len ≤ 120) (hI2 : InInts .i64 w a2 len2 f2) (hl2 : len2 ≤ 120) :
    Calls Tryz.prog 9 #[.slice a len cap, .slice a2 len2 cap2] w fun e w' => e = .returned (.bool true) ∧ Below w.heap.size w w' := by
  have d1 : decide ((120 : Int) < (len : Int)) = false := by simp; omega
  have d2 : decide ((120 : Int) < (len2 : Int)) = false := by simp; omega
  have HI := Lib.hid hI
  have HI2 := Lib.hid hI2
  clear hI hI2
  go_enter Tryz.func9, Tryz.ntmps9
  go_upto_region 6 with (go_at_call 41; ((with_reducible refine (first_jfile _).mono ?_); rintro e w1 ⟨rfl, hb1⟩; have B1 := Lib.hid hb1; clear hb1))
  clear d1 d2
  have HI1 := Lib.hid (HI.out.below B1.out)
  have Q1 := Lib.hid (show SeqIn (w1.alloc (.cells #[.slice a len cap, .int .i64 0] 55)) w1.heap.size a len cap f 0 from ⟨Blk.new w1 [.slice a len cap, .int .i64 0] _, HI1.out.below ((Below.refl _ _).alloc (Nat.le_refl _) _), fun h0 b off e => by obtain ⟨b', off', e', h1, _⟩ := HI1.out 0 h0; rw [e] at e'; injection e' with e'; injection e' with e'; omega, Nat.zero_le _, by omega⟩)
  have b1 := Lib.hid ((Below.refl w1.heap.size w1).alloc (Nat.le_refl _) (.cells #[.slice a len cap, .int .i64 0] 55))
  have HM := Lib.hid (makerR_any w1.heap.size a len cap f 0 10 _ Q1.out (by decide))
  unfold MadeR at HM
  go_upto_region 7 with (first
    | (go_at_call 28; (refine HM.out.mono ?_); rintro e w2 ⟨g, A, n, c, B, p, m, rs, xs, b0, rfl, hB, hat, hgd, hk, hrw, hrc, hrl, hn9, hro⟩; have HA := Lib.hid hat; have HG := Lib.hid hgd; have HK := Lib.hid hk; have HRw := Lib.hid hrw; have HRc := Lib.hid hrc; have HRl := Lib.hid hrl; have HN9 := Lib.hid hn9; have HRo := Lib.hid hro; clear hat hgd hk hrw hrc hrl hn9 hro)
    | fail)
  have hI := HG.out.img
  obtain ⟨l1, l2, l3⟩ := hI.lens
  have hn10 := HG.out.le
  have HIm := Lib.hid (image_any B g p.bb p.cb p.S m 1 w2 HA.out.st (by omega) (st_head hI (by decide)) (by have := hI.inv.dep; omega))
  unfold Owned at HIm
  have hsl : (HD.plus (Mk.head m 1) (m.depth : Int)).bytes 21 ++ m.b.drop 272 = stL m 1 := rfl
  rw [hsl] at HIm
  have hsz1 : w.heap.size ≤ w1.heap.size := B1.out.size
  have hB1 : w1.heap.size < B := by have : (w1.alloc (.cells #[.slice a len cap, .int .i64 0] 55)).heap.size = w1.heap.size + 1 := by simp
                                    omega
  have B2 := Lib.hid (B1.out.trans ((b1.out.trans (KeptB.below (HK.out.mono b1.out.size) (Nat.le_refl _))).mono B1.out.size))
  clear Q1 HM b1 HI HI1 hsl
  go_upto_region 8 with (first
    | (go_at_call 29; (refine HIm.out.mono ?_); rintro e w3 ⟨A3, c3, rfl, ho3, hb3⟩; have HO3 := Lib.hid ho3; have B23 := Lib.hid hb3; clear ho3 hb3)
    | fail)
  have B3 := Lib.hid (B2.out.trans (B23.out.mono B2.out.size))
  have HLE0 := Lib.hid (show LE (w3.alloc (.cells #[.slice a2 len2 cap2, .int .i64 0] 55)) (w3.alloc (.cells #[.slice a2 len2 cap2, .int .i64 0] 55)) B g w3.heap.size a2 len2 cap2 f2 p m from
    ⟨⟨p, m, [], At.below (At.below HA.out B23.out) ((Below.refl _ _).alloc (Nat.le_refl _) _), HG.out.good, More.refl, fun b h => .inl h⟩,
     ⟨0, Blk.new w3 [.slice a2 len2 cap2, .int .i64 0] _, (HI2.out.below B3.out).below ((Below.refl _ _).alloc (Nat.le_refl _) _), (fun h0 b off e => by obtain ⟨b', off', e', h1, _⟩ := HI2.out.below B3.out 0 h0; rw [e] at e'; injection e' with e'; injection e' with e'; omega), Nat.zero_le _, by omega⟩, KeptF.refl _ _⟩)
  have hA2 := Lib.hid (show 0 < len2 → ∀ b off, a2 = some ⟨b, off, none⟩ → b < w.heap.size from fun h0 b off e => by obtain ⟨b', off', e', h1, _⟩ := HI2.out 0 h0; rw [e] at e'; injection e' with e'; injection e' with e'; omega)
  have hoff := Lib.hid (rws_off HA.out HRw.out)
  have HB30 := Lib.hid ((Below.refl w3.heap.size w3).alloc (Nat.le_refl _) (.cells #[.slice a2 len2 cap2, .int .i64 0] 55))
  go_upto_block 0 with fail
  generalize w3.alloc (.cells #[.slice a2 len2 cap2, .int .i64 0] 55) = W0 at *
  go_cut [10, 11, 12, 13] from 43 to 70 (fun z10 z11 z12 z13 wx => Hid (LE W0 wx B g w3.heap.size a2 len2 cap2 f2 p m))
  case first =>
    clear HIm HO3 hoff HRw HRo HRc HRl HN9
    go_wp2_with fail
    go_loopw [10, 11, 12, 13] (fun i z11 z12 z13 wr => ∃ j : Nat, j ≤ 10 ∧ i = .int .i64 (j : Int) ∧ Hid (LE W0 wr B g w3.heap.size a2 len2 cap2 f2 p m)) (fun i _ _ _ _ => 10 - Rn.natOf i)
    case atStart => exact ⟨0, by omega, rfl, HLE0⟩
    case round =>
      obtain ⟨j, hj, rfl, hL⟩ := hrel
      obtain ⟨⟨p1, m1, more, hat, hgd, hmr, hft⟩, ⟨k, hsq⟩, hkp⟩ := hL.out
      have HAt := Lib.hid hat
      have HGd := Lib.hid hgd
      have HMo := Lib.hid hmr
      have HFt := Lib.hid hft
      have HSq := Lib.hid hsq
      have HKp := Lib.hid hkp
      clear hat hgd hmr hft hsq hkp HLE0
      have HMr := Lib.hid (more_any w3.heap.size a2 len2 cap2 f2 k wr HSq.out)
      have hw1 : IntKind.i64.wrap ((j : Int) + 1) = ((j + 1 : Nat) : Int) := by rw [IntKind.wrap_i64]; omega
      by_cases hlt : j < 10
      · have d1 : decide ((j : Int) < 10) = true := by simp; omega
        by_cases hk : k < len2
        · have d2 : decide (k < len2) = true := by simpa using hk
          rw [d2] at HMr
          go_upto_region 12 with (first
            | (go_at_call 58; (refine HMr.out.mono ?_); rintro e w5 ⟨rfl, hb5⟩; have B5 := Lib.hid hb5; clear hb5)
            | fail)
          have HA5 := Lib.hid (At.below HAt.out B5.out)
          have Q5 := Lib.hid (HSq.out.below B5.out)
          have HTl := Lib.hid (tail_any B g p1.bb p1.cb p1.S m1 w5 HA5.out.st)
          have HRc := Lib.hid fun (x : Int) => record_any w3.heap.size a2 len2 cap2 f2 k x w5 Q5.out
          unfold Recorded at HRc
          obtain ⟨sq, hwq⟩ : ∃ y, IntKind.u64.wrap (m1.h.N 9 + 1) = y := ⟨_, rfl⟩
          clear d1 d2 HMr
          go_upto_region 13 with (first
            | (go_at_call 60; (refine HTl.out.mono ?_); rintro e w6 ⟨rfl, rfl⟩)
            | (go_at_call 59; (refine (HRc.out _).mono ?_); rintro e w7 ⟨L, Ar, nr, cr, k7, r, mo7, x, rfl, hL7, hn7, hP7, hr7, hm7, hx7, hq7, hk7, hnw7⟩; have HL7 := Lib.hid hL7; have HPr7 := Lib.hid hP7; have HQ7 := Lib.hid hq7; have HK7 := Lib.hid hk7; clear hL7 hP7 hq7 hk7 hnw7)
            | ((with_reducible apply at_store (.tmp 11) (.tmp 55)); refine wpList_store_row rfl 64 (.tmp 11) (.tmp 55) rfl w7.heap.size (recL sq (r : Int) (mo7 : Int) (mkId x) (.slice Ar nr cr)).toArray rfl rfl 64 zR (heap_alloc_new w7 _) (recInfo _ _ _ _ _) rfl (by simp [Value.oneCell']) ?_)
            | fail)
          have R8 := Lib.hid (show Blk ((w7.alloc (.cells zR 64)).setRow w7.heap.size (recL sq (r : Int) (mo7 : Int) (mkId x) (.slice Ar nr cr)).toArray) w7.heap.size (recL sq (r : Int) (mo7 : Int) (mkId x) (.slice Ar nr cr)) 64 from setRow_heap _ _ _ _ _ (0, 0) (heap_alloc_new w7 _))
          have B8 := Lib.hid (show Below w7.heap.size w7 ((w7.alloc (.cells zR 64)).setRow w7.heap.size (recL sq (r : Int) (mo7 : Int) (mkId x) (.slice Ar nr cr)).toArray) from below_setRow ((Below.refl _ _).alloc (Nat.le_refl _) _) (Nat.le_refl _) _)
          generalize (w7.alloc (.cells zR 64)).setRow w7.heap.size (recL sq (r : Int) (mo7 : Int) (mkId x) (.slice Ar nr cr)).toArray = w8 at *
          clear HTl HRc hwq
          have HA7 := Lib.hid (at_seq HA5.out Q5.out.1 (kf_of_kb HK7.out))
          have HA8 := Lib.hid (At.below HA7.out B8.out)
          have HPr8 := Lib.hid (HPr7.out.below B8.out)
          have HQ8 := Lib.hid (HQ7.out.below B8.out)
          have HK8 := Lib.hid (show KeptF (fun b => p.foot g b ∨ b = w3.heap.size) W0 w8 from ((HKp.out.trans (KeptF.of_below (F := fun _ => False) B5.out) (fun _ _ h => h.elim)).trans (kf_of_kb HK7.out) (fun _ _ h => .inr h)).trans (KeptF.of_below (F := fun _ => False) B8.out) (fun _ _ h => h.elim))
          have HRg := Lib.hid (rec_range R8.out)
          have c19 : w8.cell? ⟨w7.heap.size, 19, none⟩ = some (.slice Ar nr cr) := R8.out.cell rfl
          have c1 : w8.cell? ⟨w7.heap.size, 1, none⟩ = some (.int .u64 (r : Int)) := R8.out.cell rfl
          have c2 : w8.cell? ⟨w7.heap.size, 2, none⟩ = some (.int .u64 (mo7 : Int)) := R8.out.cell rfl
          have HApp := Lib.hid (append_any (p := p1) (m := m1) Ar L nr cr (r : Int) (mo7 : Int) (mkId x) w8 HA8.out HGd.out.img.inv HPr8.out HL7.out (by omega) HGd.out.img.len (by rw [HGd.out.most]; decide) (mkId_ok (by omega)) (by omega) (by omega) (HGd.out.img.hg.nb 9 (by omega)))
          unfold Appended at HApp
          have HGd9 := Lib.hid (after_goodR HGd.out HPr8.out.1 (r : Int) (mo7 : Int) (mkId x) (by omega) (by omega) (mkId_ok (by omega)) HMo.out)
          generalize Mk.after m1 L (r : Int) (mo7 : Int) (mkId x) = m9 at *
          generalize Mk.acode m1 L (r : Int) (mo7 : Int) (mkId x) = cd at *
          clear HA5 Q5 HQ7 HK7 HA7 HPr7 HL7 HPr8 B5 HMo
          generalize hs7e : w7.heap.size = s7 at *
          clear hs7e B8
          go_upto_region 14 with (first
            | ((with_reducible apply at_slot 65); refine wpList_load_mid rfl 62 (.tmp 64) rfl s7 3 rfl (idJ (mkId x)) _ HRg.out Tryz.underlying62 rfl (idJ_info _) ?_)
            | (go_at_call 61; (refine HApp.out.mono ?_); rintro e w9 ⟨rfl, p9, ha9, hp9⟩; have HA9 := Lib.hid ha9; have HP9 := Lib.hid hp9; clear ha9 hp9)
            | fail)
          clear c19 c1 c2 HRg HApp
          obtain ⟨hg9, more9, hm9⟩ := HGd9.out
          have hsz8 := HK8.out.size
          have HLE := Lib.hid (show LE W0 w9 B g w3.heap.size a2 len2 cap2 f2 p m from
            ⟨⟨p9, m9, more9, HA9.out, hg9, hm9, fun b hf => (HP9.out.foot b hf).elim (fun h => HFt.out b h) (fun h => .inr (by omega))⟩,
             ⟨k7, seq_kept HQ8.out HP9.out.kept (seq_off HA8.out HQ8.out.1) (fun h0 b off e hf => by have h1 := hA2.out h0 b off e; have h2 := (At.lt HA8.out b hf).1; omega)⟩,
             HK8.out.trans HP9.out.kept (fun i hi h => (HFt.out i h).elim .inl (fun h2 => absurd hi (by omega)))⟩)
          clear hg9 hm9 HGd9 HK8 HA8 HQ8 HA9 HP9 R8 HAt HGd HFt HSq HKp hL
          by_cases hz : cd = 0
          · have d3 : (cd != 0) = false := by simp [hz]
            clear hz
            go_wp2_with fail
            go_roundw
            case rel => exact ⟨j + 1, by omega, rfl, HLE⟩
            case measure => simp [Rn.natOf]; omega
          · have d3 : (cd != 0) = true := by simpa using hz
            clear hz
            go_wp2_with fail
            all_goals (go_meet; exact HLE)
        · have d2 : decide (k < len2) = false := by simpa using hk
          rw [d2] at HMr
          go_wp2_with (first
            | (go_at_call 58; (refine HMr.out.mono ?_); rintro e w5 ⟨rfl, hb5⟩; have B5 := Lib.hid hb5; clear hb5)
            | fail)
          go_meet
          exact Lib.hid (hL.out.below B5.out)
      · have d1 : decide ((j : Int) < 10) = false := by simp; omega
        go_wp2_with fail
        go_meet
        exact hL
  case rest =>
    obtain ⟨⟨p9, m9, more9, hat9, hgd9, hmr9, hft9⟩, _, hkp9⟩ := hcut.out
    obtain ⟨os, hs, mi, es, hkept, hrecs⟩ := kept_recs HRc.out
    obtain ⟨os', hs', mi', es', hkept', hrecs', ht⟩ := kept_more hkept hrecs hmr9
    have HMl := Lib.hid (show mi.length = n by rw [hkept.len, HRl.out])
    have hI9 := hgd9.img
    obtain ⟨k1, k2, k3⟩ := hI9.lens
    have hs23 := B23.out.size
    have hs30 := HB30.out.size
    -- what is kept since the rows were told
    have HKc := Lib.hid (show KeptF (fun b => p.foot g b ∨ b = w3.heap.size) w2 wc from ((KeptF.of_below (F := fun b => p.foot g b ∨ b = w3.heap.size) B23.out).trans (KeptF.of_below (F := fun _ => False) HB30.out) (fun _ _ h => h.elim)).trans hkp9 (fun _ _ h => h))
    have HBc := Lib.hid (show Below w.heap.size w wc from (B3.out.trans (HB30.out.mono B3.out.size)).trans (hkp9.below (by have := B3.out.size; omega) (fun b h => h.elim (fun h => by have := (At.lt HA.out b h).1; omega) (fun h => by have := B3.out.size; omega))))
    have HRwc := Lib.hid (Mf.OwnE.keptF HRw.out.own HKc.out (fun b e h => h.elim (hoff.out b e) (fun h => by have := (Dc.OwnE.ltB HRw.out.own b e).2; omega)))
    have HRoc := Lib.hid (show RowsR wc w1.heap.size (p.foot g) A xs b0 rs from HRo.out.step HKc.out (fun b hb h => h.elim (fun h => .inr (.inl h)) (fun h => by omega)) (fun _ _ h => h) (fun _ _ h => h))
    have HKk := fun (i : Nat) (hi : i < rs.length) => (hrecs.ok _ (List.getElem_mem hi)).K
    have HRa := Lib.hid fun (i : Nat) (hi : i < rs.length) => rowAt_rows HRwc.out HRoc.out i hi (HKk i hi)
    have HO3c := Lib.hid (Kf.Own.keptF (Kf.Own.keptF HO3.out (KeptF.of_below (F := fun _ => False) HB30.out) (fun _ _ h => h)) hkp9 (fun b e h => by
      have h1 := Dc.OwnE.ltB (E := 5) (size := 1) ⟨HO3.out.2.2.1, HO3.out.2.2.2⟩ b e
      rcases h with h | h
      · have := (At.lt HA.out b h).2; omega
      · omega))
    have hcap := (own_cap HO3c.out)
    have hL3 := st_len hI 1
    have hLp := HD.bytes_len (stH m 1) 21
    have HTake : (stL m 1).take 272 = (stH m 1).bytes 21 := by
      unfold stL
      rw [List.take_append_of_le_length (by rw [HD.bytes_len]; decide), List.take_of_length_le (by rw [HD.bytes_len]; decide)]
    have HB5 := Lib.hid (show Bytes wc (cutA A3 c3 0) ((stH m 1).bytes 21) from by
      have h := Bytes.cut HO3c.out.bytes c3 0 272 (by rw [hL3]; exact hcap.1)
      rw [List.drop_zero, HTake] at h
      exact h)
    have HCp := Lib.hid (Cl8.bytes_any (cutA A3 c3 0) ((stH m 1).bytes 21) 272 c3 wc HB5.out (by rw [hLp]) (by decide))
    have hcut0 : ∀ W : World, (Instr.slice 23 (.slice A3 m.b.length c3) none (some (.int .i64 272)) none).run Tryz.prog W = .ok (.slice (cutA A3 c3 0) 272 c3) W := fun W => cut_hi A3 m.b.length c3 272 (by omega) W
    obtain ⟨d, hd⟩ : ∃ d, m9.b.length = 272 + d := ⟨m9.b.length - 272, by omega⟩
    have hcutl : ∀ (A' : Option Addr) (c' : Nat) (W : World), (Instr.slice 23 (.slice A' m9.b.length c') (some (.int .i64 272)) none none).run Tryz.prog W = .ok (.slice (cutA A' c' 272) d (c' - 272)) W := fun A' c' W => by
      have k := cut_l A' m9.b.length c' 272 (by omega) W
      rwa [show m9.b.length - 272 = d by omega] at k
    have hdr : (stL m9 1).drop 272 = m9.b.drop 272 := by
      unfold stL
      rw [List.drop_append_of_le_length (by rw [HD.bytes_len]; decide), List.drop_of_length_le (by rw [HD.bytes_len]; decide), List.nil_append]
    have hL9 := st_len hI9 1
    have HCu := Lib.hid fun (W : World) (A' : Option Addr) (c' : Nat) (h : Bytes W A' (stL m9 1)) (hc : m9.b.length ≤ c') => show Bytes W (cutA A' c' 272) (m9.b.drop 272) from by
      have h := Bytes.cut h c' 272 (m9.b.length - 272) (by rw [hL9]; exact hc)
      rw [List.take_of_length_le (by rw [List.length_drop, hL9]; exact Nat.le_refl _), hdr] at h
      exact h
    have hLd : (m9.b.drop 272).length = d := by rw [List.length_drop]; omega
    have hsl9 : (HD.plus (Mk.head m9 1) (m9.depth : Int)).bytes 21 ++ m9.b.drop 272 = stL m9 1 := rfl
    have HIm9 := Lib.hid fun (W : World) (hW : Below wc.heap.size wc W) => by
      have k := image_any B g p9.bb p9.cb p9.S m9 1 W (At.below hat9 hW).st (by omega) (st_head hI9 (by decide)) (by have := hI9.inv.dep; omega)
      unfold Owned at k
      rw [hsl9] at k
      exact k
    have hel : (stH m 1).bytes 21 ++ m9.b.drop 272 = elL m m9 1 := rfl
    have HOp := Lib.hid fun (A' : Option Addr) (c' : Nat) (W : World) (hb : Bytes W A' (elL m m9 1)) (hc : m9.b.length ≤ c') => jopen_el hkept hkept' ht (by decide) A' c' W hb hc
    obtain ⟨hgl, hgs⟩ := el_good hkept hrecs hkept' ht (st := 1) (by decide) (b0 := b0) (by rw [HRl.out]; exact HN9.out)
    have HGs := Lib.hid hgs
    rw [HMl.out] at HOp HGs hgl
    rw [hd] at HOp
    clear hkept hrecs hkept' hrecs' ht hgs hcut HLE0 HIm hI hI9 hgd9 hmr9 hft9 hat9 hkp9 HTake hdr hL9 hL3 hsl9 HKk HG HK HRc HN9 HRw HRo HO3 HA hA2 hoff HKc HRwc HRoc B23 B3 HB30 HI2
    generalize hdOf (elL m m9 1) = H at *
    go_upto_region 16 with (first
      | (go_at_call 62; ((refine HCp.out.mono ?_); rintro e w10 ⟨A5, c5, rfl, ho5, hb5⟩; have HO5 := Lib.hid ho5; have B5 := Lib.hid hb5; have HIm5 := Lib.hid (HIm9.out _ hb5); clear ho5 hb5))
      | (go_at_call 29; (refine HIm5.out.mono ?_); rintro e w11 ⟨A6, c6, rfl, ho6, hb6⟩; have HC6 := Lib.hid (HCu.out w11 A6 c6 ho6.bytes (own_cap ho6).1); have HO6 := Lib.hid (HO5.out.kept hb6 (Nat.le_refl _)); have B6 := Lib.hid (B5.out.trans (hb6.mono B5.out.size)); clear ho6 hb6)
      | (at_builtin; refine wpList_append_bytes rfl (.tmp 73) (.tmp 76) rfl wc.heap.size A5 272 c5 _ rfl HO6.out (cutA A6 c6 272) d (c6 - 272) (m9.b.drop 272) rfl HC6.out hLd (by omega) ?_; intro A7 c7 w12 ho7 hb7; have HO7 := Lib.hid ho7; have B7 := Lib.hid (B6.out.trans hb7); clear ho7 hb7)
      | fail)
    rw [hel] at HO7
    have HB7 := Lib.hid HO7.out.bytes
    have hc7 := (own_cap HO7.out).1
    go_upto_region 17 with (first
      | (go_at_call 42; (refine (HOp.out _ _ _ HB7.out hc7).mono ?_); rintro e w4 ⟨gf, gv, A9, c9, P, cp, rfl, hf, hb4⟩; have HF := Lib.hid hf; have B4 := Lib.hid (HBc.out.trans ((B7.out.trans (hb4.mono B7.out.size)).mono HBc.out.size)); have B4c := Lib.hid (B7.out.trans (hb4.mono B7.out.size)); clear hf hb4)
      | fail)
    have HC := Lib.hid (code_any HF.out)
    have HRe := Lib.hid (records_any HF.out)
    unfold Gathered at HRe
    generalize (elL m m9 1).take m.b.length = lE at *
    generalize goodRecs H lE m.b.length (toI mi) n = G at *
    clear HOp HCp HCu HIm9 HIm5 HC6 HO6 HO5 HB5 hcut0 hcutl hel B5 B6 B7 HB7 HO7 HF HO3c B2 B1
    go_upto_region 20 with (first
      | (go_at_call 45; ((refine HC.out.mono ?_); rintro e w6 ⟨rfl, rfl⟩))
      | (go_at_call 55; ((refine HRe.out.mono ?_); rintro e w5 ⟨A5, m5, c5, ys, B0, rfl, hm5, ho5, hq5, hb5⟩; have B5 := Lib.hid (B4.out.trans (hb5.mono B4.out.size)); have B5c := Lib.hid (B4c.out.trans (hb5.mono B4c.out.size)); have HRow := Lib.hid (fun i hi => rowAt_recs ho5 hq5 i hi); clear ho5 hq5 hb5))
      | fail)
    have hm : m5 = n := by have := HRl.out; omega
    subst hm
    have HSr := Lib.hid (samerows_yes A5 A m5 c5 c (fun i => G.getD i Ji.dP) (fun i => rowP b0 i (rs.getD i ([], 0, 0, fun _ => 0))) w5 (fun i hi => by
        have h1 : i < G.length := by omega
        have q := HRow.out i h1
        rw [List.getD_eq_getElem?_getD, List.getElem?_eq_getElem h1]
        exact q) (fun i hi => by
        have h1 : i < rs.length := by rw [HRl.out]; exact hi
        have q := (HRa.out i h1).below B5c.out
        rw [List.getD_eq_getElem?_getD, List.getElem?_eq_getElem h1]
        exact q) (fun i hi => by
        have h1 : i < rs.length := by rw [HRl.out]; exact hi
        have q := HGs.out i h1
        rw [List.getD_eq_getElem?_getD (l := rs), List.getElem?_eq_getElem h1]
        exact q) (by omega))
    clear HRe HC HRa HRow HGs
    go_wp2_with (first
      | (go_at_call 56; ((refine HSr.out.mono ?_); rintro e w6 ⟨rfl, hb6⟩; have B6 := Lib.hid (B5.out.trans (hb6.mono B5.out.size)); clear hb6))
      | fail)
    all_goals (go_ret; exact ⟨rfl, B6.out⟩)
theorem walk (a : Option Addr) (len cap : Nat) (z : List Int) (a2 : Option Addr) (len2 cap2 : Nat) (z2 : List Int) (w : World) (h : IsRow .i64 w a len cap z) (h2 : IsRow .i64 w a2 len2 cap2 z2) :
    Calls Tryz.prog 9 #[.slice a len cap, .slice a2 len2 cap2] w fun e w' => e = .returned (.bool true) ∧ Below w.heap.size w w' := by
  obtain ⟨hI, _, _⟩ := ints_in h
  obtain ⟨hI2, _, _⟩ := ints_in h2
  by_cases h1 : len ≤ 120
  · by_cases h3 : len2 ≤ 120
    · exact walk_main a len cap _ a2 len2 cap2 _ w hI h1 hI2 h3
    · have d1 : decide ((120 : Int) < (len : Int)) = false := by simp; omega
      have d2 : decide ((120 : Int) < (len2 : Int)) = true := by simp; omega
      clear h hI h2 hI2
      go_enter Tryz.func9, Tryz.ntmps9
      go_wp2_with (go_at_call 41; ((with_reducible refine (first_jfile _).mono ?_); rintro e w1 ⟨rfl, hb1⟩; have B1 := Lib.hid hb1; clear hb1))
      go_ret
      exact ⟨rfl, B1.out⟩
  · have d1 : decide ((120 : Int) < (len : Int)) = true := by simp; omega
    clear h hI h2 hI2
    go_enter Tryz.func9, Tryz.ntmps9
    go_wp2_with (go_at_call 41; ((with_reducible refine (first_jfile _).mono ?_); rintro e w1 ⟨rfl, hb1⟩; have B1 := Lib.hid hb1; clear hb1))
    go_ret
    exact ⟨rfl, B1.out⟩
end Go.Proofs.YtjecmgkmcfkcjaaGreat.JfileElderW
