/-
  Texts beneath the proof, one behind the other.
-/
import Derived.Deep.CutRange
import Derived.Deep.RegionHeld3
import Derived.Deep.CutBlock
import Derived.StillTailTactics
import Derived.Test.YtkdbgilnehjpmaaQc2
import Derived.Test.YtkdbgilnehjpmaaQc5
import Derived.Test.YtkdbgilnehjpmaaQc4
import Derived.Test.YtkdbgilnehjpmaaQc3
import Derived.Test.YtkdbgilnehjpmaaQc1
/-
  A journal's bytes as objects one behind the other: plain.
-/
namespace Go.Proofs.Ytkdbgilnehjpmaa.Za
open Bytes8 LeNum LeAl Ob Ga Ma
set_option linter.unusedVariables false
set_option linter.unusedSimpArgs false
set_option maxRecDepth 100000
/-- An object: its kind, its numbers of eight bytes, the bytes behind them; who it is (that stands in no byte). -/
structure O where
  k : Int
  ws : List Int
  tl : List Int
  g : Nat × Nat
def O.body (o : O) : List Int := nums o.ws ++ o.tl
def O.enc (o : O) : List Int := objB o.k o.body
def O.n (o : O) : Nat := o.enc.length
def O.setW (j : Nat) (v : Int) (o : O) : O := { o with ws := o.ws.set j v }
theorem O.body_len (o : O) : o.body.length = 8 * o.ws.length + o.tl.length := by unfold O.body; rw [List.length_append, nums_len]
theorem O.n_is (o : O) : o.n = 16 + (8 * o.ws.length + o.tl.length) + padN (8 * o.ws.length + o.tl.length) := by
  unfold O.n O.enc
  rw [objB_len, O.body_len]
theorem O.n8 (o : O) : o.n % 8 = 0 ∧ 16 ≤ o.n := by
  rw [O.n_is]
  have := padN_le (8 * o.ws.length + o.tl.length)
  omega
theorem O.setW_n (j : Nat) (v : Int) (o : O) : (o.setW j v).n = o.n := by rw [O.n_is, O.n_is]; simp [O.setW]
def enc (os : List O) : List Int := os.flatMap O.enc
theorem enc_cons (o : O) (os : List O) : enc (o :: os) = o.enc ++ enc os := by simp [enc]
theorem enc_app (l m : List O) : enc (l ++ m) = enc l ++ enc m := by simp [enc]
theorem enc_one (o : O) : enc [o] = o.enc := by simp [enc]
/-- The object at a place, the first one standing at s. -/
def obj : Nat → List O → Nat → Option O
  | _, [], _ => none
  | s, o :: os, a => if a = s then some o else obj (s + o.n) os a
def upd : Nat → List O → Nat → (O → O) → List O
  | _, [], _, _ => []
  | s, o :: os, a, f => if a = s then f o :: os else o :: upd (s + o.n) os a f
theorem obj_bd : ∀ (os : List O) (s a : Nat) (o : O), obj s os a = some o → s ≤ a ∧ a + o.n ≤ s + (enc os).length
  | [], s, a, o, h => by cases h
  | x :: os, s, a, o, h => by
    unfold obj at h
    rw [enc_cons, List.length_append]
    have hx : x.enc.length = x.n := rfl
    by_cases e : a = s
    · rw [if_pos e] at h
      injection h with h
      subst h
      omega
    · rw [if_neg e] at h
      have := obj_bd os (s + x.n) a o h
      omega
theorem obj_app : ∀ (os : List O) (s a : Nat) (o : O), obj s (os ++ [o]) a = if a = s + (enc os).length then some o else obj s os a
  | [], s, a, o => by
    show (if a = s then some o else none) = _
    by_cases e : a = s
    · rw [if_pos e, if_pos (by simpa [enc] using e)]
    · rw [if_neg e, if_neg (by simpa [enc] using e)]; rfl
  | x :: os, s, a, o => by
    have hx : x.enc.length = x.n := rfl
    have h8 := x.n8
    show (if a = s then some x else obj (s + x.n) (os ++ [o]) a) = if a = s + (enc (x :: os)).length then some o else (if a = s then some x else obj (s + x.n) os a)
    rw [enc_cons, List.length_append, hx]
    by_cases e : a = s
    · rw [if_pos e, if_neg (by omega), if_pos e]
    · rw [if_neg e, if_neg e, obj_app os (s + x.n) a o, Nat.add_assoc]
theorem obj_upd {f : O → O} (hf : ∀ o, (f o).n = o.n) : ∀ (os : List O) (s a x : Nat), obj s (upd s os a f) x = if x = a then (obj s os a).map f else obj s os x
  | [], s, a, x => by
    show none = if x = a then none else none
    split <;> rfl
  | o :: os, s, a, x => by
    unfold upd
    by_cases e : a = s
    · rw [if_pos e]
      show (if x = s then some (f o) else obj (s + (f o).n) os x) = if x = a then (if a = s then some o else obj (s + o.n) os a).map f else (if x = s then some o else obj (s + o.n) os x)
      rw [hf, if_pos e]
      by_cases e2 : x = s
      · rw [if_pos e2, if_pos (by omega)]; rfl
      · rw [if_neg e2, if_neg (by omega), if_neg e2]
    · rw [if_neg e]
      show (if x = s then some o else obj (s + o.n) (upd (s + o.n) os a f) x) = if x = a then (if a = s then some o else obj (s + o.n) os a).map f else (if x = s then some o else obj (s + o.n) os x)
      rw [obj_upd hf os (s + o.n) a x, if_neg e]
      by_cases e2 : x = s
      · rw [if_pos e2, if_neg (by omega), if_pos e2]
      · rw [if_neg e2, if_neg e2]
theorem upd_mem {f : O → O} : ∀ (os : List O) (s a : Nat) (x : O), x ∈ upd s os a f → x ∈ os ∨ ∃ o, obj s os a = some o ∧ x = f o
  | [], s, a, x, h => by cases h
  | o :: os, s, a, x, h => by
    unfold upd at h
    unfold obj
    split at h
    · next e =>
      rw [if_pos e]
      rcases List.mem_cons.1 h with h | h
      · exact .inr ⟨o, rfl, h⟩
      · exact .inl (List.mem_cons_of_mem _ h)
    · next e =>
      rw [if_neg e]
      rcases List.mem_cons.1 h with h | h
      · exact .inl (h ▸ List.mem_cons_self ..)
      · rcases upd_mem os (s + o.n) a x h with h | h
        · exact .inl (List.mem_cons_of_mem _ h)
        · exact .inr h
theorem obj_mem : ∀ (os : List O) (s a : Nat) (o : O), obj s os a = some o → o ∈ os
  | [], s, a, o, h => by cases h
  | x :: os, s, a, o, h => by
    unfold obj at h
    split at h
    · injection h with h; exact h ▸ List.mem_cons_self ..
    · exact List.mem_cons_of_mem _ (obj_mem os _ a o h)
theorem obj_split : ∀ (os : List O) (s a : Nat) (o : O), obj s os a = some o → ∃ p q, enc os = p ++ (o.enc ++ q) ∧ s + p.length = a
  | [], s, a, o, h => by cases h
  | x :: os, s, a, o, h => by
    unfold obj at h
    by_cases e : a = s
    · rw [if_pos e] at h
      injection h with h
      subst h
      exact ⟨[], enc os, by rw [enc_cons]; rfl, e.symm⟩
    · rw [if_neg e] at h
      obtain ⟨p, q, h1, h2⟩ := obj_split os (s + x.n) a o h
      have hx : x.enc.length = x.n := rfl
      exact ⟨x.enc ++ p, q, by rw [enc_cons, h1, List.append_assoc], by rw [List.length_append]; omega⟩
theorem obj_8 : ∀ (os : List O) (s a : Nat) (o : O), s % 8 = 0 → obj s os a = some o → a % 8 = 0
  | [], s, a, o, _, h => by cases h
  | x :: os, s, a, o, h8, h => by
    unfold obj at h
    have := x.n8
    split at h
    · omega
    · exact obj_8 os (s + x.n) a o (by omega) h
/-! ## bytes put -/
theorem over_left (x y : List Int) (i : Nat) (l : List Int) (h : i + l.length ≤ x.length) : over (x ++ y) i l = over x i l ++ y := by
  unfold over
  rw [List.take_append_of_le_length (by omega), List.drop_append_of_le_length (by omega)]
  simp
theorem over_right (x y : List Int) (n i : Nat) (l : List Int) (hn : n = x.length + i) : over (x ++ y) n l = x ++ over y i l := by
  subst hn
  unfold over
  rw [List.take_append, List.take_of_length_le (by omega), show x.length + i - x.length = i by omega, List.drop_append, List.drop_of_length_le (by omega), show x.length + i + l.length - x.length = i + l.length by omega]
  simp
theorem nums_set : ∀ (ws : List Int) (j : Nat) (v : Int), j < ws.length → nums (ws.set j v) = over (nums ws) (8 * j) (lowB v 8)
  | [], j, v, h => by simp at h
  | w :: ws, 0, v, h => by
    show nums (v :: ws) = _
    rw [nums_cons, nums_cons]
    unfold over
    rw [Nat.mul_zero, List.take_zero, List.nil_append, Nat.zero_add, lowB_len, List.drop_append, lowB_len, Nat.sub_self, List.drop_zero, List.drop_of_length_le (by rw [lowB_len]; exact Nat.le_refl _), List.nil_append]
  | w :: ws, j + 1, v, h => by
    show nums (w :: ws.set j v) = _
    rw [nums_cons, nums_cons, nums_set ws j v (by simpa using h)]
    exact (over_right (lowB w 8) (nums ws) (8 * (j + 1)) (8 * j) (lowB v 8) (by rw [lowB_len]; omega)).symm
theorem O.setW_enc (o : O) (j : Nat) (v : Int) (h : j < o.ws.length) : (o.setW j v).enc = over o.enc (16 + 8 * j) (lowB v 8) := by
  have e1 : (o.setW j v).body = over (nums o.ws) (8 * j) (lowB v 8) ++ o.tl := by
    show nums (o.ws.set j v) ++ o.tl = _
    rw [nums_set _ _ _ h]
  have e2 : (o.setW j v).body.length = o.body.length := by rw [O.body_len, O.body_len]; simp [O.setW]
  unfold O.enc objB
  rw [e2]
  show front o.k _ ++ _ = _
  rw [over_right (front o.k o.body.length) _ (16 + 8 * j) (8 * j) _ (by rw [front_len]), e1]
  congr 1
  unfold O.body
  rw [List.append_assoc, List.append_assoc, over_left (nums o.ws) _ (8 * j) _ (by rw [lowB_len, nums_len]; omega)]
theorem enc_setW : ∀ (os : List O) (s a : Nat) (o : O) (j : Nat) (v : Int), obj s os a = some o → j < o.ws.length → enc (upd s os a (O.setW j v)) = over (enc os) (a - s + 16 + 8 * j) (lowB v 8)
  | [], s, a, o, j, v, h, _ => by cases h
  | x :: os, s, a, o, j, v, h, hj => by
    have hx : x.enc.length = x.n := rfl
    unfold obj at h
    unfold upd
    by_cases e : a = s
    · rw [if_pos e] at h ⊢
      injection h with h
      subst h
      rw [enc_cons, enc_cons, O.setW_enc _ _ _ hj, e, Nat.sub_self, Nat.zero_add, over_left _ _ _ _ (by
        rw [lowB_len]
        have := x.n_is
        omega)]
    · rw [if_neg e] at h ⊢
      have hb := obj_bd _ _ _ _ h
      rw [enc_cons, enc_cons, enc_setW os (s + x.n) a o j v h hj, over_right x.enc (enc os) (a - s + 16 + 8 * j) (a - (s + x.n) + 16 + 8 * j) _ (by omega)]
/-- The bytes behind the head are those of the objects. -/
structure Rep (b : List Int) (os : List O) : Prop where
  len : 272 ≤ b.length
  eq : b.drop 272 = enc os
theorem Rep.size {b : List Int} {os : List O} (h : Rep b os) : b.length = 272 + (enc os).length := by
  have h1 := congrArg List.length h.eq
  have := h.len
  rw [List.length_drop] at h1
  omega
theorem Rep.is {b : List Int} {os : List O} (h : Rep b os) : b = b.take 272 ++ enc os := by rw [← h.eq, List.take_append_drop]
theorem Rep.put {b : List Int} {os : List O} (h : Rep b os) {a x j : Nat} {o : O} (ho : obj 272 os a = some o) (hj : j < o.ws.length) (hx : x = a + 16 + 8 * j) (v : Int) : Rep (put8 b x v) (upd 272 os a (O.setW j v)) := by
  have hb := obj_bd _ _ _ _ ho
  have hn := o.n_is
  have hs := h.size
  have hl : (put8 b x v).length = b.length := put8_len _ _ _ (by omega)
  have ht : (b.take 272).length = 272 := by rw [List.length_take]; omega
  refine ⟨by rw [hl]; exact h.len, ?_⟩
  have e : put8 b x v = b.take 272 ++ over (enc os) (a - 272 + 16 + 8 * j) (lowB v 8) := by
    conv => lhs; rw [h.is]
    exact over_right _ _ _ _ _ (by rw [ht]; omega)
  rw [e, enc_setW os 272 a o j v ho hj, List.drop_append, ht, Nat.sub_self, List.drop_zero, List.drop_of_length_le (by omega), List.nil_append]
theorem Rep.front {b : List Int} {os : List O} (h : Rep b os) {x : Nat} (hx : x + 8 ≤ 272) (v : Int) : Rep (put8 b x v) os := by
  have hl : (put8 b x v).length = b.length := put8_len _ _ _ (by have := h.len; omega)
  have ht : (b.take 272).length = 272 := by rw [List.length_take]; have := h.len; omega
  refine ⟨by rw [hl]; exact h.len, ?_⟩
  have e : put8 b x v = over (b.take 272) x (lowB v 8) ++ enc os := by
    conv => lhs; rw [h.is]
    exact over_left _ _ _ _ (by rw [lowB_len, ht]; exact hx)
  have ht2 : (over (b.take 272) x (lowB v 8)).length = 272 := by rw [over_len _ _ _ (by rw [lowB_len, ht]; exact hx), ht]
  rw [e, List.drop_append, ht2, Nat.sub_self, List.drop_zero, List.drop_of_length_le (by omega), List.nil_append]
theorem Rep.push {b : List Int} {os : List O} (h : Rep b os) (o : O) : Rep (b ++ o.enc) (os ++ [o]) := by
  refine ⟨by rw [List.length_append]; have := h.len; omega, ?_⟩
  rw [List.drop_append_of_le_length h.len, h.eq, enc_app, enc_one]
/-! ## read -/
/-- An object that may be. -/
structure O.Ok (o : O) : Prop where
  k : 1 ≤ o.k ∧ o.k ≤ 7
  ws : I64 o.ws
  tl : AllB o.tl
  n : o.body.length ≤ 900000
theorem O.Ok.setW {o : O} (h : o.Ok) (j : Nat) {v : Int} (hv : 0 ≤ v ∧ v ≤ 18446744073709551615) : (o.setW j v).Ok :=
  { k := h.k
    ws := fun x hx => by
      rcases List.mem_or_eq_of_mem_set hx with h1 | h1
      · exact h.ws x h1
      · exact h1 ▸ hv
    tl := h.tl
    n := by
      have e2 : (o.setW j v).body.length = o.body.length := by rw [O.body_len, O.body_len]; simp [O.setW]
      rw [e2]; exact h.n }
theorem read_at {l hd : List Int} {os : List O} (hl : l = hd ++ enc os) (hh : hd.length = 272) {a : Nat} {o : O} (ho : obj 272 os a = some o) (hk : o.Ok) :
    code l a = 0 ∧ kindL l a = o.k ∧ sizeL l a = (16 + o.body.length : Nat) ∧ bodyL l a = o.body := by
  obtain ⟨p, q, h1, h2⟩ := obj_split _ _ _ _ ho
  have h8 := obj_8 _ _ _ _ (by decide) ho
  have e : l = (hd ++ p) ++ (objB o.k o.body ++ q) := by rw [hl, h1, List.append_assoc]; rfl
  rw [e]
  exact put_read (hd ++ p) q o.body o.k a (by rw [List.length_append]; omega) h8 hk.k.1 hk.k.2 (by have := hk.n; omega)
theorem body_w {o : O} (hk : o.Ok) (i : Nat) (hi : i < o.ws.length) : u8 o.body (8 * i) = o.ws.getD i 0 := by
  unfold O.body
  refine u8_nums _ _ i hi ?_
  have e : o.ws.getD i 0 = o.ws[i] := by simp [List.getElem?_eq_getElem hi]
  rw [e]
  exact hk.ws _ (List.getElem_mem hi)
end Go.Proofs.Ytkdbgilnehjpmaa.Za
/-
  What a journal's objects hold, plainly: their numbers, chains of them, tables.
-/
namespace Go.Proofs.Ytkdbgilnehjpmaa.Zb
open Bytes8 LeNum LeAl Ob Ga Ma Za
set_option linter.unusedVariables false
set_option linter.unusedSimpArgs false
set_option maxRecDepth 100000
/-- A number of the object at a place. -/
def wd (os : List O) (a i : Nat) : Int := match obj 272 os a with
  | some o => o.ws.getD i 0
  | none => 0
/-- What of an object no number turns. -/
structure Sh where
  k : Int
  n : Nat
  tl : List Int
  g : Nat × Nat
def O.sh (o : O) : Sh := ⟨o.k, o.ws.length, o.tl, o.g⟩
def shp (os : List O) (a : Nat) : Option Sh := (obj 272 os a).map O.sh
theorem shp_some {os : List O} {a : Nat} {s : Sh} (h : shp os a = some s) : ∃ o, obj 272 os a = some o ∧ O.sh o = s := Option.map_eq_some_iff.1 h
theorem shp_set (os : List O) (a j x : Nat) (v : Int) : shp (upd 272 os a (O.setW j v)) x = shp os x := by
  unfold shp
  rw [obj_upd (O.setW_n j v)]
  split
  · next e =>
    subst e
    cases obj 272 os x with
    | none => rfl
    | some o => simp [O.sh, O.setW]
  · rfl
theorem wd_set {os : List O} {a j : Nat} {s : Sh} (hs : shp os a = some s) (hj : j < s.n) (v : Int) (x i : Nat) : wd (upd 272 os a (O.setW j v)) x i = if x = a ∧ i = j then v else wd os x i := by
  obtain ⟨o, ho, hsh⟩ := shp_some hs
  subst hsh
  have hj2 : j < o.ws.length := hj
  unfold wd
  rw [obj_upd (O.setW_n j v)]
  by_cases e : x = a
  · subst e
    rw [if_pos rfl, ho]
    show (o.ws.set j v).getD i 0 = if x = x ∧ i = j then v else o.ws.getD i 0
    by_cases e2 : i = j
    · subst e2
      simp [List.getD_eq_getElem?_getD, List.getElem?_set, hj2]
    · rw [if_neg (fun h => e2 h.2)]
      simp [List.getD_eq_getElem?_getD, List.getElem?_set, Ne.symm e2]
  · rw [if_neg e, if_neg (fun h => e h.1)]
def endO (os : List O) : Nat := 272 + (enc os).length
theorem shp_push (os : List O) (o : O) (x : Nat) : shp (os ++ [o]) x = if x = endO os then some (O.sh o) else shp os x := by
  unfold shp endO
  rw [obj_app]
  split <;> rfl
theorem wd_push (os : List O) (o : O) (x i : Nat) : wd (os ++ [o]) x i = if x = endO os then o.ws.getD i 0 else wd os x i := by
  unfold wd endO
  rw [obj_app]
  by_cases e : x = 272 + (enc os).length
  · rw [if_pos e, if_pos e]
  · rw [if_neg e, if_neg e]
theorem shp_lt {os : List O} {a : Nat} {s : Sh} (h : shp os a = some s) : 272 ≤ a ∧ a + 16 + 8 * s.n ≤ endO os := by
  obtain ⟨o, ho, hs⟩ := shp_some h
  have h1 := obj_bd _ _ _ _ ho
  have h2 := o.n_is
  subst hs
  show 272 ≤ a ∧ a + 16 + 8 * o.ws.length ≤ _
  unfold endO
  omega
/-- What a step leaves: each object is what it was, its numbers but those of S, too. -/
structure Stp (os os' : List O) (S : Nat → Nat → Prop) : Prop where
  shp : ∀ x s, shp os x = some s → shp os' x = some s
  wd : ∀ x i s, Zb.shp os x = some s → ¬ S x i → wd os' x i = wd os x i
theorem Stp.refl (os : List O) (S : Nat → Nat → Prop) : Stp os os S := ⟨fun _ _ h => h, fun _ _ _ _ _ => rfl⟩
theorem Stp.trans {a b c : List O} {S : Nat → Nat → Prop} (h : Stp a b S) (k : Stp b c S) : Stp a c S :=
  ⟨fun x s e => k.shp x s (h.shp x s e), fun x i s e n => (k.wd x i s (h.shp x s e) n).trans (h.wd x i s e n)⟩
theorem Stp.mono {a b : List O} {S S' : Nat → Nat → Prop} (h : Stp a b S) (hS : ∀ x i s, Zb.shp a x = some s → S x i → S' x i) : Stp a b S' := ⟨h.shp, fun x i s e n => h.wd x i s e (fun h2 => n (hS x i s e h2))⟩
theorem Stp.set {os : List O} {a j : Nat} {s : Sh} (hs : Zb.shp os a = some s) (hj : j < s.n) (v : Int) : Stp os (upd 272 os a (O.setW j v)) (fun x i => x = a ∧ i = j) :=
  ⟨fun x s e => by rw [shp_set]; exact e, fun x i _ _ n => by rw [wd_set hs hj, if_neg n]⟩
theorem Stp.push (os : List O) (o : O) (S : Nat → Nat → Prop) : Stp os (os ++ [o]) S :=
  ⟨fun x s e => by rw [shp_push, if_neg (by have := shp_lt e; omega)]; exact e, fun x i s e _ => by rw [wd_push, if_neg (by have := shp_lt e; omega)]⟩
/-- Bytes that are those of objects that may be. -/
structure RepO (b : List Int) (os : List O) : Prop where
  rep : Rep b os
  ok : ∀ o ∈ os, o.Ok
theorem RepO.size {b : List Int} {os : List O} (h : RepO b os) : b.length = endO os := h.rep.size
theorem RepO.put {b : List Int} {os : List O} (h : RepO b os) {a x j : Nat} {s : Sh} (hs : shp os a = some s) (hj : j < s.n) (hx : x = a + 16 + 8 * j) {v : Int} (hv : 0 ≤ v ∧ v ≤ 18446744073709551615) : RepO (put8 b x v) (upd 272 os a (O.setW j v)) := by
  obtain ⟨o, ho, hsh⟩ := shp_some hs
  subst hsh
  refine ⟨h.rep.put ho hj hx v, fun y hy => ?_⟩
  rcases upd_mem _ _ _ _ hy with h1 | ⟨o2, h1, rfl⟩
  · exact h.ok y h1
  · exact (h.ok o2 (obj_mem _ _ _ _ h1)).setW j hv
theorem RepO.front {b : List Int} {os : List O} (h : RepO b os) {x : Nat} (hx : x + 8 ≤ 272) (v : Int) : RepO (put8 b x v) os := ⟨h.rep.front hx v, h.ok⟩
theorem RepO.push {b : List Int} {os : List O} (h : RepO b os) (o : O) (ho : o.Ok) : RepO (b ++ o.enc) (os ++ [o]) := ⟨h.rep.push o, fun y hy => by
  rcases List.mem_append.1 hy with h1 | h1
  · exact h.ok y h1
  · rw [List.mem_singleton] at h1; exact h1 ▸ ho⟩
/-! ## chains -/
def Fol (nx : Nat → Int) : Int → List Nat → Prop
  | a, [] => a = 0
  | a, x :: xs => a = (x : Int) ∧ Fol nx (nx x) xs
theorem Fol.cong {nx ny : Nat → Int} : ∀ (l : List Nat) (a : Int), Fol nx a l → (∀ x ∈ l, ny x = nx x) → Fol ny a l
  | [], a, h, _ => h
  | x :: xs, a, h, e => ⟨h.1, by
    rw [e x (List.mem_cons_self ..)]
    exact Fol.cong xs _ h.2 (fun y hy => e y (List.mem_cons_of_mem _ hy))⟩
theorem Fol.snoc {nx ny : Nat → Int} {z : Nat} : ∀ (l : List Nat) (a : Int) (hne : l ≠ []), Fol nx a l → l.Pairwise (· < ·) → (∀ x ∈ l, x ≠ l.getLast hne → ny x = nx x) → ny (l.getLast hne) = (z : Int) → ny z = 0 → Fol ny a (l ++ [z])
  | [], a, hne, _, _, _, _, _ => absurd rfl hne
  | [x], a, hne, h, _, _, h1, h2 => ⟨h.1, h1, h2⟩
  | x :: y :: t, a, hne, h, hs, he, h1, h2 => by
    have hy : (x :: y :: t).getLast hne = (y :: t).getLast (by simp) := rfl
    rw [List.pairwise_cons] at hs
    refine ⟨h.1, ?_⟩
    have hx : x ≠ (x :: y :: t).getLast hne := by
      rw [hy]
      have := hs.1 _ (List.getLast_mem (l := y :: t) (by simp))
      omega
    show Fol ny (ny x) ((y :: t) ++ [z])
    rw [he x (List.mem_cons_self ..) hx]
    exact Fol.snoc (y :: t) _ (by simp) h.2 hs.2 (fun w hw hwn => he w (List.mem_cons_of_mem _ hw) (by rw [hy]; exact hwn)) (by rw [← hy]; exact h1) h2
/-- The places of those of a slot. -/
def pl (l : List Kn) (s : Nat) : List Nat := (l.filter fun k => k.slot == s).map Kn.at_
abbrev Asc (l : List Kn) : Prop := (l.map Kn.at_).Pairwise (· < ·)
theorem Asc.pl {l : List Kn} (h : Asc l) (s : Nat) : (pl l s).Pairwise (· < ·) := by
  unfold Zb.pl
  exact List.Pairwise.sublist ((List.filter_sublist).map Kn.at_) h
theorem Asc.inj : ∀ {l : List Kn}, Asc l → ∀ {d e : Kn}, d ∈ l → e ∈ l → d.at_ = e.at_ → d = e
  | [], _, d, e, hd, _, _ => by cases hd
  | x :: l, h, d, e, hd, he, h1 => by
    have h2 : ((x :: l).map Kn.at_).Pairwise (· < ·) := h
    rw [List.map_cons, List.pairwise_cons] at h2
    rcases List.mem_cons.1 hd with e1 | hd2
    · rcases List.mem_cons.1 he with e2 | he2
      · rw [e1, e2]
      · have := h2.1 _ (List.mem_map_of_mem he2); rw [e1] at h1; omega
    · rcases List.mem_cons.1 he with e2 | he2
      · have := h2.1 _ (List.mem_map_of_mem hd2); rw [e2] at h1; omega
      · exact Asc.inj h2.2 hd2 he2 h1
theorem mem_pl {l : List Kn} {s x : Nat} (h : x ∈ pl l s) : ∃ d ∈ l, d.slot = s ∧ d.at_ = x := by
  obtain ⟨d, hd, e⟩ := List.mem_map.1 h
  rw [List.mem_filter] at hd
  exact ⟨d, hd.1, by simpa using hd.2, e⟩
theorem pl_snoc (l : List Kn) (k : Kn) (s : Nat) : pl (l ++ [k]) s = if k.slot = s then pl l s ++ [k.at_] else pl l s := by
  unfold pl
  rw [List.filter_append]
  by_cases h : k.slot = s
  · simp [h]
  · simp [h]
theorem pl_nil {l : List Kn} {s : Nat} (h : inSlot l s = 0) : pl l s = [] := by
  unfold inSlot at h
  unfold pl
  rw [List.eq_nil_of_length_eq_zero h]; rfl
theorem pl_last {l : List Kn} {s : Nat} (h : inSlot l s ≠ 0) : ∃ hne : pl l s ≠ [], (pl l s).getLast hne = lastIn l s := by
  unfold inSlot at h
  have h1 : (l.filter fun k => k.slot == s) ≠ [] := fun e => h (by rw [e]; rfl)
  have h2 : pl l s ≠ [] := by unfold pl; simpa using h1
  refine ⟨h2, ?_⟩
  have h3 : (pl l s).getLast? = some (lastIn l s) := by
    unfold pl lastIn
    rw [List.getLast?_map, List.getLast?_eq_some_getLast h1]
    rfl
  rw [List.getLast?_eq_some_getLast h2] at h3
  injection h3
/-- A table: the first one of each slot's chain, and the last one. -/
structure TabW (os : List O) (a : Nat) (k : Int) (n : Nat) (l : List Kn) : Prop where
  sh : ∃ g, shp os a = some ⟨k, 2 * n, [], g⟩
  fol : ∀ s, s < n → Fol (fun x => wd os x 1) (wd os a (2 * s)) (pl l s)
  last : ∀ s, s < n → wd os a (2 * s + 1) = (lastIn l s : Nat)
theorem TabW.stp {os os' : List O} {a : Nat} {k : Int} {n : Nat} {l : List Kn} (h : TabW os a k n l) {S : Nat → Nat → Prop} (t : Stp os os' S) (ha : ∀ i, ¬ S a i) (hl : ∀ d ∈ l, (∃ s, shp os d.at_ = some s) ∧ ¬ S d.at_ 1) : TabW os' a k n l := by
  obtain ⟨g, hg⟩ := h.sh
  refine ⟨⟨g, t.shp _ _ hg⟩, fun s hs => ?_, fun s hs => ?_⟩
  · rw [t.wd _ _ _ hg (ha _)]
    refine Fol.cong _ _ (h.fol s hs) (fun x hx => ?_)
    obtain ⟨d, hd, _, e⟩ := mem_pl hx
    obtain ⟨⟨s2, h2⟩, h3⟩ := hl d hd
    rw [← e]
    exact t.wd _ _ _ h2 h3
  · rw [t.wd _ _ _ hg (ha _)]
    exact h.last s hs
/-- An object goes to the end of its slot's chain. -/
theorem hung_W {b : List Int} {os : List O} {a : Nat} {k : Int} {n : Nat} {l : List Kn} (h : RepO b os) (t : TabW os a k n l) (kn : Kn) {s : Sh} (hz : shp os kn.at_ = some s) (hn : 1 < s.n) (h0 : wd os kn.at_ 1 = 0) (hza : kn.at_ ≠ a)
    (hl : ∀ d ∈ l, (∃ s2, shp os d.at_ = some s2 ∧ 1 < s2.n) ∧ d.at_ ≠ a ∧ d.at_ < kn.at_) (hasc : Asc l) (hs : kn.slot < n) (hb : b.length ≤ 10000000) :
    ∃ os', RepO (hung b l (a + 16) kn.at_ kn.slot) os' ∧ Stp os os' (fun x i => x = a ∨ (i = 1 ∧ ∃ d ∈ l, d.at_ = x)) ∧ (∀ x, shp os' x = shp os x) ∧ TabW os' a k n (l ++ [kn]) := by
  obtain ⟨g, hg⟩ := t.sh
  obtain ⟨z, slot, hzs⟩ : ∃ z slot, z = kn.at_ ∧ slot = kn.slot := ⟨_, _, rfl, rfl⟩
  obtain ⟨e1, e2⟩ := hzs
  rw [← e1] at hz h0 hza ⊢
  rw [← e2] at hs ⊢
  have hl' : ∀ d ∈ l, (∃ s2, shp os d.at_ = some s2 ∧ 1 < s2.n) ∧ d.at_ ≠ a ∧ d.at_ < z := by rw [e1]; exact hl
  have hzb := shp_lt hz
  have hsz := h.size
  have hv : 0 ≤ (z : Int) ∧ (z : Int) ≤ 18446744073709551615 := by omega
  unfold hung
  by_cases hin : inSlot l slot = 0
  · rw [if_pos hin]
    have r1 := h.put hg (j := 2 * slot) (x := a + 16 + 16 * slot) (by show 2 * slot < 2 * n; omega) (by omega) hv
    have s1 := Stp.set hg (j := 2 * slot) (by show 2 * slot < 2 * n; omega) (z : Int)
    have w1 := wd_set hg (j := 2 * slot) (by show 2 * slot < 2 * n; omega) (z : Int)
    have q1 := fun x => shp_set os a (2 * slot) x (z : Int)
    generalize upd 272 os a (O.setW (2 * slot) (z : Int)) = o1 at *
    have hg1 : shp o1 a = some ⟨k, 2 * n, [], g⟩ := by rw [q1]; exact hg
    have r2 := r1.put hg1 (j := 2 * slot + 1) (x := a + 16 + 16 * slot + 8) (by show 2 * slot + 1 < 2 * n; omega) (by omega) hv
    have s2 := Stp.set hg1 (j := 2 * slot + 1) (by show 2 * slot + 1 < 2 * n; omega) (z : Int)
    have w2 := wd_set hg1 (j := 2 * slot + 1) (by show 2 * slot + 1 < 2 * n; omega) (z : Int)
    have q2 := fun x => shp_set o1 a (2 * slot + 1) x (z : Int)
    generalize upd 272 o1 a (O.setW (2 * slot + 1) (z : Int)) = o2 at *
    have st : Stp os o2 (fun x i => x = a ∨ (i = 1 ∧ ∃ d ∈ l, d.at_ = x)) := (s1.mono fun x i _ _ h => .inl h.1).trans (s2.mono fun x i _ _ h => .inl h.1)
    have hw : ∀ x i, x ≠ a → wd o2 x i = wd os x i := fun x i hx => by rw [w2, if_neg (fun h => hx h.1), w1, if_neg (fun h => hx h.1)]
    refine ⟨o2, r2, st, fun x => by rw [q2, q1], ⟨g, by rw [q2, q1]; exact hg⟩, fun s hsn => ?_, fun s hsn => ?_⟩
    · rw [pl_snoc, ← e1, ← e2]
      by_cases he : slot = s
      · subst he
        rw [if_pos rfl, pl_nil hin]
        refine ⟨?_, ?_⟩
        · rw [w2, if_neg (by omega), w1, if_pos ⟨rfl, rfl⟩]
        · show wd o2 z 1 = 0
          rw [hw z 1 hza]; exact h0
      · rw [if_neg he, w2, if_neg (by omega), w1, if_neg (by omega)]
        refine Fol.cong _ _ (t.fol s hsn) (fun x hx => ?_)
        obtain ⟨d, hd, _, e⟩ := mem_pl hx
        rw [← e]
        exact hw _ _ (hl' d hd).2.1
    · rw [lastIn_snoc, ← e1, ← e2]
      by_cases he : slot = s
      · subst he
        rw [if_pos rfl, w2, if_pos ⟨rfl, rfl⟩]
      · rw [if_neg he, w2, if_neg (by omega), w1, if_neg (by omega)]
        exact t.last s hsn
  · rw [if_neg hin]
    obtain ⟨hne, hla⟩ := pl_last hin
    obtain ⟨dl, hdl, hds, hda⟩ := mem_pl (List.getLast_mem hne)
    rw [hla] at hda
    obtain ⟨⟨s3, h3, h4⟩, h5, h6⟩ := hl' dl hdl
    rw [hda] at h3 h5 h6
    generalize hLL : lastIn l slot = L at *
    have r1 := h.put h3 (j := 1) (x := L + 24) h4 (by omega) hv
    have s1 := Stp.set h3 (j := 1) h4 (z : Int)
    have w1 := wd_set h3 (j := 1) h4 (z : Int)
    have q1 := fun x => shp_set os L 1 x (z : Int)
    generalize upd 272 os L (O.setW 1 (z : Int)) = o1 at *
    have hg1 : shp o1 a = some ⟨k, 2 * n, [], g⟩ := by rw [q1]; exact hg
    have r2 := r1.put hg1 (j := 2 * slot + 1) (x := a + 16 + 16 * slot + 8) (by show 2 * slot + 1 < 2 * n; omega) (by omega) hv
    have s2 := Stp.set hg1 (j := 2 * slot + 1) (by show 2 * slot + 1 < 2 * n; omega) (z : Int)
    have w2 := wd_set hg1 (j := 2 * slot + 1) (by show 2 * slot + 1 < 2 * n; omega) (z : Int)
    have q2 := fun x => shp_set o1 a (2 * slot + 1) x (z : Int)
    generalize upd 272 o1 a (O.setW (2 * slot + 1) (z : Int)) = o2 at *
    have st : Stp os o2 (fun x i => x = a ∨ (i = 1 ∧ ∃ d ∈ l, d.at_ = x)) := (s1.mono fun x i _ _ h => .inr ⟨h.2, dl, hdl, by rw [hda]; exact h.1.symm⟩).trans (s2.mono fun x i _ _ h => .inl h.1)
    refine ⟨o2, r2, st, fun x => by rw [q2, q1], ⟨g, by rw [q2, q1]; exact hg⟩, fun s hsn => ?_, fun s hsn => ?_⟩
    · have ea : wd o2 a (2 * s) = wd os a (2 * s) := by rw [w2, if_neg (by omega), w1, if_neg (fun h => h5 h.1.symm)]
      rw [pl_snoc, ← e1, ← e2, ea]
      by_cases he : slot = s
      · subst he
        rw [if_pos rfl]
        refine Fol.snoc (nx := fun x => wd os x 1) _ _ hne (t.fol slot hsn) (hasc.pl slot) (fun x hx hxl => ?_) ?_ ?_
        · obtain ⟨d, hd, _, e⟩ := mem_pl hx
          rw [hla] at hxl
          show wd o2 x 1 = wd os x 1
          rw [w2, if_neg (fun h => (hl' d hd).2.1 (e.trans h.1)), w1, if_neg (fun h => hxl h.1)]
        · rw [hla]
          show wd o2 L 1 = z
          rw [w2, if_neg (fun h => h5 h.1), w1, if_pos ⟨rfl, rfl⟩]
        · show wd o2 z 1 = 0
          rw [w2, if_neg (fun h => hza h.1), w1, if_neg (by omega)]
          exact h0
      · rw [if_neg he]
        refine Fol.cong _ _ (t.fol s hsn) (fun x hx => ?_)
        obtain ⟨d, hd, hdst, e⟩ := mem_pl hx
        show wd o2 x 1 = wd os x 1
        rw [w2, if_neg (fun h => (hl' d hd).2.1 (e.trans h.1)), w1, if_neg (fun h => ?_)]
        have := hasc.inj hd hdl (by rw [e, hda]; exact h.1)
        rw [this] at hdst
        omega
    · rw [lastIn_snoc, ← e1, ← e2]
      by_cases he : slot = s
      · subst he
        rw [if_pos rfl, w2, if_pos ⟨rfl, rfl⟩]
      · rw [if_neg he, w2, if_neg (by omega), w1, if_neg (fun h => h5 h.1.symm)]
        exact t.last s hsn
end Go.Proofs.Ytkdbgilnehjpmaa.Zb
/-
  What Value, Sip and Of answer.
-/
namespace Go.Proofs.Ytkdbgilnehjpmaa.Sd
open Go.ChangeShapes Go.WideShapes Go.ChangeAt Go.RowKit
open Bytes8 Blk8 LeNum LeA LeB Hm Ha Hb Hc Hd He Hf Sa Sb Sm Sc
set_option linter.unusedVariables false
set_option maxRecDepth 100000
end Go.Proofs.Ytkdbgilnehjpmaa.Sd
/-
  What Sip, Of and the chapter's examples answer.
-/
namespace Go.Proofs.Ytkdbgilnehjpmaa.Se
open Go.ChangeShapes Go.WideShapes Go.ChangeAt Go.RowKit
open Bytes8 Blk8 Own8 LeNum LeA LeB Hm Ha Hb Hc Hd He Hf Sa Sb Sm Sc Sd
set_option linter.unusedVariables false
set_option maxRecDepth 100000
/-! ## the examples -/
end Go.Proofs.Ytkdbgilnehjpmaa.Se
/-
  The chapter's examples come out true, and nothing that was there is written.
-/
namespace Go.Proofs.Ytkdbgilnehjpmaa.Sf
open Go.ChangeShapes Go.WideShapes Go.ChangeAt Go.RowKit
open Bytes8 Blk8 Own8 LeNum LeA LeB Hm Ha Hb Hc Hd He Hf Sa Sb Sm Sc Sd Se
set_option linter.unusedVariables false
set_option maxRecDepth 100000
end Go.Proofs.Ytkdbgilnehjpmaa.Sf
/-
  What Of, and the document's own Of, answer; a boxed key kept.
-/
namespace Go.Proofs.Ytkdbgilnehjpmaa.Sg
open Go.ChangeShapes Go.WideShapes Go.ChangeAt Go.RowKit
open Bytes8 Blk8 Own8 LeNum LeA LeB Hm Ha Hb Hc Hd He Hf Sa Sb Sm Sc Sd Se Sf
set_option linter.unusedVariables false
set_option maxRecDepth 100000
end Go.Proofs.Ytkdbgilnehjpmaa.Sg
/-
  What 'ReadData' and 'ReadField' tell; the program's.
-/
namespace Go.Proofs.Ytkdbgilnehjpmaa.Ok7
open Go.ChangeShapes Go.WideShapes Go.ChangeAt Go.RowKit
open Bytes8 Blk8 Own8 OwnM OwnE LeA LeAl LeNum LeB LeP RefA RefB Ob Oc Od Oe Oi Oj Cl8
set_option linter.unusedVariables false
set_option maxRecDepth 100000
set_option linter.unusedSimpArgs false
/-- New bytes: how long, within which capacity. -/
def Cap (B : Nat) (A : Option Addr) (m c : Nat) : Prop := m ≤ 1000000 ∧ m ≤ c ∧ c ≤ maxLen ∧ ∀ b off, A = some ⟨b, off, none⟩ → B ≤ b
/-- A copy, its bytes new. -/
theorem clone_cap (A : Option Addr) (l : List Int) (len cap : Nat) (w : World) (hb : Bytes w A l) (hL : l.length = len) (hmax : len ≤ 1000000) :
    Calls Try.prog 25 #[.slice A len cap] w fun e w' => ∃ A2 c2, e = .returned (.slice A2 len c2) ∧ Bytes w' A2 l ∧ Below w.heap.size w w' ∧ Cap w.heap.size A2 len c2 := by
  have q22 : ∀ (w : World) (a : Option Addr) (n c n' c' : Nat), (binOp .eql 31 (.slice a n c) (.slice none n' c')).run Try.prog w = .ok (.bool a.isNone) w := fun w a n c n' c' => Lib.run_eql_slice_nil w _ _ a n c n' c' Try.underlying31
  cases A with
  | none =>
    have h0 : l = [] := by
      rcases l with _ | ⟨x, r⟩
      · rfl
      · obtain ⟨b, off, e, _⟩ := hb.2 0 (by simp)
        cases e
    subst h0
    obtain rfl : len = 0 := by simpa using hL.symm
    clear hb hL
    go_enter Try.func25, Try.ntmps25
    go_wp2
    go_ret
    exact ⟨none, 0, rfl, Bytes.nil _ _, Below.refl _ _, by decide, by decide, by decide, fun b off h => by cases h⟩
  | some a =>
    have HB := Lib.hid (hb.below ((Below.refl w.heap.size w).alloc (Nat.le_refl _) (.cells #[] 5)) (Nat.le_refl _))
    have HL := Lib.hid hL
    clear hb hL
    go_enter Try.func25, Try.ntmps25
    go_wp2_with (at_builtin; refine wpList_append_bytes rfl (.tmp 5) (.tmp 6) rfl w.heap.size _ 0 0 [] rfl (Own.made w _ (Nat.le_refl _)) (some a) len cap l rfl HB.out HL.out (by omega) ?_; intro A2 c2 w2 ho2 hbel2; rw [Nat.zero_add, List.nil_append] at ho2; rw [Nat.zero_add]; have HO2 := Lib.hid ho2; clear ho2)
    go_ret
    refine ⟨A2, c2, rfl, HO2.out.bytes, ((Below.refl _ _).alloc (Nat.le_refl _) _).trans hbel2, hmax, (own_cap HO2.out).1, (own_cap HO2.out).2, fun b off h => ?_⟩
    subst h
    exact (HO2.out.lt b rfl).1
end Go.Proofs.Ytkdbgilnehjpmaa.Ok7
/-
  What the document's 'ReadData' and 'ReadField' tell.
-/
namespace Go.Proofs.Ytkdbgilnehjpmaa.Ol7
open Go.ChangeShapes Go.WideShapes Go.ChangeAt Go.RowKit
open Bytes8 Blk8 Own8 OwnM OwnE LeA LeAl LeNum LeB LeP RefA RefB Ob Oc Od Oe Oi Oj Cl8 Ok7
set_option linter.unusedVariables false
set_option maxRecDepth 100000
set_option linter.unusedSimpArgs false
end Go.Proofs.Ytkdbgilnehjpmaa.Ol7
/-
  Where in a head its IDs and its numbers are.
-/
namespace Go.Proofs.Ytkdbgilnehjpmaa.Gc
open Go.ChangeShapes Go.WideShapes Go.ChangeAt Go.RowKit
open Bytes8 Blk8 Own8 OwnM LeNum Ob Oc Od Ga Gb
set_option linter.unusedVariables false
set_option linter.unusedSimpArgs false
set_option maxRecDepth 100000
abbrev idsV (g : Nat) : Value := .agg #[.pointer (some ⟨g, 3, none⟩), .pointer (some ⟨g, 19, none⟩), .pointer (some ⟨g, 35, none⟩), .pointer (some ⟨g, 51, none⟩)]
abbrev numsV (g : Nat) : Value := .agg #[.pointer (some ⟨g, 67, none⟩), .pointer (some ⟨g, 68, none⟩), .pointer (some ⟨g, 69, none⟩), .pointer (some ⟨g, 70, none⟩), .pointer (some ⟨g, 71, none⟩), .pointer (some ⟨g, 72, none⟩), .pointer (some ⟨g, 73, none⟩), .pointer (some ⟨g, 74, none⟩), .pointer (some ⟨g, 75, none⟩), .pointer (some ⟨g, 76, none⟩), .pointer (some ⟨g, 77, none⟩), .pointer (some ⟨g, 78, none⟩), .pointer (some ⟨g, 79, none⟩), .pointer (some ⟨g, 80, none⟩), .pointer (some ⟨g, 81, none⟩), .pointer (some ⟨g, 82, none⟩), .pointer (some ⟨g, 83, none⟩), .pointer (some ⟨g, 84, none⟩), .pointer (some ⟨g, 85, none⟩), .pointer (some ⟨g, 86, none⟩), .pointer (some ⟨g, 87, none⟩)]
theorem nums_one (g : Nat) : (#[.pointer (some ⟨g, 67, none⟩), .pointer (some ⟨g, 68, none⟩), .pointer (some ⟨g, 69, none⟩), .pointer (some ⟨g, 70, none⟩), .pointer (some ⟨g, 71, none⟩), .pointer (some ⟨g, 72, none⟩), .pointer (some ⟨g, 73, none⟩), .pointer (some ⟨g, 74, none⟩), .pointer (some ⟨g, 75, none⟩), .pointer (some ⟨g, 76, none⟩), .pointer (some ⟨g, 77, none⟩), .pointer (some ⟨g, 78, none⟩), .pointer (some ⟨g, 79, none⟩), .pointer (some ⟨g, 80, none⟩), .pointer (some ⟨g, 81, none⟩), .pointer (some ⟨g, 82, none⟩), .pointer (some ⟨g, 83, none⟩), .pointer (some ⟨g, 84, none⟩), .pointer (some ⟨g, 85, none⟩), .pointer (some ⟨g, 86, none⟩), .pointer (some ⟨g, 87, none⟩)] : Array Value).all (·.oneCell') = true := by simp [Value.oneCell']
theorem p4Info : (Try.prog.info? 79).map (·.size) = some 4 := by kernel_rfl
theorem p21Info : (Try.prog.info? 83).map (·.size) = some 21 := by kernel_rfl
set_option maxHeartbeats 1000000 in
theorem ids_any (g : Nat) (w : World) :
    Calls Try.prog 27 #[.pointer (some ⟨g, 0, none⟩)] w fun e w' => e = .returned (idsV g) ∧ Below w.heap.size w w' := by
  go_enter Try.func27, Try.ntmps27
  go_wp2
  go_region
  all_goals
    go_wp2
    refine bodyPost_ret (v := idsV g) (by exact results_cell_row Try.results27 _ _ w.heap.size 79 _ (0, 0) _ rfl (heap_alloc_new w _) Try.underlying79 rfl p4Info) rfl ?_
    exact ⟨rfl, ((Below.refl w.heap.size w).alloc (Nat.le_refl _) _).drew⟩
set_option maxHeartbeats 1000000 in
theorem hnums_any (g : Nat) (w : World) :
    Calls Try.prog 28 #[.pointer (some ⟨g, 0, none⟩)] w fun e w' => e = .returned (numsV g) ∧ Below w.heap.size w w' := by
  go_enter Try.func28, Try.ntmps28
  go_wp2
  have Z0 := Lib.hid (heap_alloc_new w (.cells #[.pointer none, .pointer none, .pointer none, .pointer none, .pointer none, .pointer none, .pointer none, .pointer none, .pointer none, .pointer none, .pointer none, .pointer none, .pointer none, .pointer none, .pointer none, .pointer none, .pointer none, .pointer none, .pointer none, .pointer none, .pointer none] 83))
  have B0 := Lib.hid ((Below.refl w.heap.size w).alloc (Nat.le_refl _) (.cells #[.pointer none, .pointer none, .pointer none, .pointer none, .pointer none, .pointer none, .pointer none, .pointer none, .pointer none, .pointer none, .pointer none, .pointer none, .pointer none, .pointer none, .pointer none, .pointer none, .pointer none, .pointer none, .pointer none, .pointer none, .pointer none] 83))
  generalize w.alloc (.cells #[.pointer none, .pointer none, .pointer none, .pointer none, .pointer none, .pointer none, .pointer none, .pointer none, .pointer none, .pointer none, .pointer none, .pointer none, .pointer none, .pointer none, .pointer none, .pointer none, .pointer none, .pointer none, .pointer none, .pointer none, .pointer none] 83) = w1 at *
  refine wp_region_still_tail 63 (by kernel_rfl) (by kernel_rfl) ?_
  simp only [List.append_eq, List.cons_append, List.nil_append, List.take_succ_cons, List.take_zero, List.drop_succ_cons, List.drop_zero]
  repeat still_step
  try refine wpStill_nil ?_
  change wpList _ _ _ _ _ w1.drew
  go_wp2_with (first
    | ((with_reducible apply at_slot 66); refine wpList_build_as rfl 83 _ rfl #[.pointer (some ⟨g, 67, none⟩), .pointer (some ⟨g, 68, none⟩), .pointer (some ⟨g, 69, none⟩), .pointer (some ⟨g, 70, none⟩), .pointer (some ⟨g, 71, none⟩), .pointer (some ⟨g, 72, none⟩), .pointer (some ⟨g, 73, none⟩), .pointer (some ⟨g, 74, none⟩), .pointer (some ⟨g, 75, none⟩), .pointer (some ⟨g, 76, none⟩), .pointer (some ⟨g, 77, none⟩), .pointer (some ⟨g, 78, none⟩), .pointer (some ⟨g, 79, none⟩), .pointer (some ⟨g, 80, none⟩), .pointer (some ⟨g, 81, none⟩), .pointer (some ⟨g, 82, none⟩), .pointer (some ⟨g, 83, none⟩), .pointer (some ⟨g, 84, none⟩), .pointer (some ⟨g, 85, none⟩), .pointer (some ⟨g, 86, none⟩), .pointer (some ⟨g, 87, none⟩)] (by kernel_rfl) ?_)
    | ((with_reducible apply at_store (.tmp 2) (.tmp 66)); refine wpList_store_row rfl 83 (.tmp 2) (.tmp 66) rfl w.heap.size #[.pointer (some ⟨g, 67, none⟩), .pointer (some ⟨g, 68, none⟩), .pointer (some ⟨g, 69, none⟩), .pointer (some ⟨g, 70, none⟩), .pointer (some ⟨g, 71, none⟩), .pointer (some ⟨g, 72, none⟩), .pointer (some ⟨g, 73, none⟩), .pointer (some ⟨g, 74, none⟩), .pointer (some ⟨g, 75, none⟩), .pointer (some ⟨g, 76, none⟩), .pointer (some ⟨g, 77, none⟩), .pointer (some ⟨g, 78, none⟩), .pointer (some ⟨g, 79, none⟩), .pointer (some ⟨g, 80, none⟩), .pointer (some ⟨g, 81, none⟩), .pointer (some ⟨g, 82, none⟩), .pointer (some ⟨g, 83, none⟩), .pointer (some ⟨g, 84, none⟩), .pointer (some ⟨g, 85, none⟩), .pointer (some ⟨g, 86, none⟩), .pointer (some ⟨g, 87, none⟩)] rfl rfl 83 #[.pointer none, .pointer none, .pointer none, .pointer none, .pointer none, .pointer none, .pointer none, .pointer none, .pointer none, .pointer none, .pointer none, .pointer none, .pointer none, .pointer none, .pointer none, .pointer none, .pointer none, .pointer none, .pointer none, .pointer none, .pointer none] Z0.out p21Info rfl (nums_one g) ?_))
  refine bodyPost_ret (v := numsV g) (by exact results_cell_row Try.results28 _ _ w.heap.size 83 _ (0, 0) _ rfl (setRow_heap _ w.heap.size _ _ _ (0, 0) Z0.out) Try.underlying83 rfl p21Info) rfl ?_
  exact ⟨rfl, below_setRow B0.out.drew (Nat.le_refl _) _⟩
end Go.Proofs.Ytkdbgilnehjpmaa.Gc
