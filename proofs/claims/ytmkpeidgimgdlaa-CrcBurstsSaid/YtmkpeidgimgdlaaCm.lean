/-
  The sum of 32 bits as plain mathematics: no Go in sight. Bytes are a number, the lowest first; the sum is so many steps of it.
-/
import Derived.Laws.BitsAllLaws
import Derived.Test.YtmkpeidgimgdlaaLeNum
namespace Go.Proofs.Ytmkpeidgimgdlaa.Cm
open Bytes8 LeNum

def stp (x : Nat) : Nat := if x % 2 = 1 then x / 2 ^^^ 2197175160 else x / 2
def stps : Nat → Nat → Nat
  | 0, x => x
  | n + 1, x => stp (stps n x)

theorem stp_lt {x : Nat} (h : x < 4294967296) : stp x < 4294967296 := by
  unfold stp
  have h2 : x / 2 < 2 ^ 32 := by omega
  split
  · exact Nat.xor_lt_two_pow (n := 32) h2 (by decide)
  · omega
theorem stps_lt {x : Nat} (h : x < 4294967296) (n : Nat) : stps n x < 4294967296 := by
  induction n with
  | zero => exact h
  | succ n ih => exact stp_lt ih
theorem xor_odd (x y : Nat) : (x ^^^ y) % 2 = (x + y) % 2 := by
  have h : (x ^^^ y) % 2 = 1 ↔ ¬ (x % 2 = 1 ↔ y % 2 = 1) := by simp
  omega
theorem xor_none {x y : Nat} (h : x ^^^ y = 0) : x = y := by
  have : x ^^^ y ^^^ y = x := by rw [Nat.xor_assoc, Nat.xor_self, Nat.xor_zero]
  rw [h, Nat.zero_xor] at this
  exact this.symm
theorem stp_xor (x y : Nat) : stp (x ^^^ y) = stp x ^^^ stp y := by
  unfold stp
  have h1 := xor_odd x y
  rw [Nat.xor_div_two]
  rcases Nat.mod_two_eq_zero_or_one x with hx | hx <;> rcases Nat.mod_two_eq_zero_or_one y with hy | hy
  · rw [if_neg (by omega), if_neg (by omega), if_neg (by omega)]
  · rw [if_pos (by omega), if_neg (by omega), if_pos (by omega), Nat.xor_assoc]
  · rw [if_pos (by omega), if_pos (by omega), if_neg (by omega), Nat.xor_assoc, Nat.xor_comm (y / 2), ← Nat.xor_assoc]
  · rw [if_neg (by omega), if_pos (by omega), if_pos (by omega), Nat.xor_assoc, Nat.xor_comm 2197175160, Nat.xor_assoc, Nat.xor_self, Nat.xor_zero]
theorem stps_xor (n x y : Nat) : stps n (x ^^^ y) = stps n x ^^^ stps n y := by
  induction n with
  | zero => rfl
  | succ n ih => rw [stps, ih, stp_xor]; rfl
theorem stp_zero {x : Nat} (h : x < 4294967296) (h0 : stp x = 0) : x = 0 := by
  unfold stp at h0
  split at h0
  · have := xor_none h0
    omega
  · omega
theorem stps_zero {x : Nat} (n : Nat) (h : x < 4294967296) (h0 : stps n x = 0) : x = 0 := by
  induction n with
  | zero => exact h0
  | succ n ih => exact ih (stp_zero (stps_lt h n) h0)
theorem stps_inj {x y : Nat} (n : Nat) (hx : x < 4294967296) (hy : y < 4294967296) (h : stps n x = stps n y) : x = y := by
  have h1 : stps n (x ^^^ y) = 0 := by rw [stps_xor, h, Nat.xor_self]
  have h2 := stps_zero n (Nat.xor_lt_two_pow (n := 32) hx hy) h1
  exact xor_none h2
theorem stps_add (a b x : Nat) : stps (a + b) x = stps a (stps b x) := by
  induction a with
  | zero => rw [Nat.zero_add]; rfl
  | succ a ih => rw [Nat.succ_add, stps, ih]; rfl
theorem stps_up (k x : Nat) : stps k (2 ^ k * x) = x := by
  induction k generalizing x with
  | zero => simp [stps]
  | succ k ih =>
    rw [stps, Nat.pow_succ, Nat.mul_assoc, ih]
    unfold stp
    rw [if_neg (by omega)]
    omega
theorem mul_xor (k a b : Nat) : 2 ^ k * (a ^^^ b) = 2 ^ k * a ^^^ 2 ^ k * b := by
  rw [Nat.mul_comm, Nat.mul_comm (2 ^ k) a, Nat.mul_comm (2 ^ k) b, ← Nat.shiftLeft_eq, ← Nat.shiftLeft_eq, ← Nat.shiftLeft_eq, Nat.shiftLeft_xor_distrib]
theorem add_xor (a b : Nat) (h : a < 256) : a + 256 * b = a ^^^ 256 * b := by
  have := Nat.two_pow_add_eq_or_of_lt (i := 8) (a := b) (b := a) h
  rw [show (2 : Nat) ^ 8 = 256 by rfl] at this
  rw [Nat.add_comm, this]
  apply Nat.eq_of_testBit_eq
  intro i
  rw [Nat.testBit_or, Nat.testBit_xor]
  by_cases hi : i < 8
  · have : (256 * b).testBit i = false := by
      rw [show 256 = 2 ^ 8 by rfl, Nat.testBit_two_pow_mul]; simp; omega
    simp [this]
  · have : a.testBit i = false := Nat.testBit_lt_two_pow (Nat.lt_of_lt_of_le h (by
      have : 2 ^ 8 ≤ 2 ^ i := Nat.pow_le_pow_right (by omega) (by omega)
      simpa using this))
    simp [this]

/-- The raw sum going on from s. -/
def raw (s : Nat) (l : List Int) : Nat := l.foldl (fun s c => stps 8 (s ^^^ c.toNat)) s
theorem raw_app (s : Nat) (l m : List Int) : raw s (l ++ m) = raw (raw s l) m := List.foldl_append ..
theorem raw_snoc (s : Nat) (l : List Int) (c : Int) : raw s (l ++ [c]) = stps 8 (raw s l ^^^ c.toNat) := by rw [raw_app]; rfl
theorem raw_lt {s : Nat} (h : s < 4294967296) (l : List Int) (hA : AllB l) : raw s l < 4294967296 := by
  induction l generalizing s with
  | nil => exact h
  | cons c r ih =>
    have hc := hA c (List.mem_cons_self ..)
    exact ih (stps_lt (Nat.xor_lt_two_pow (n := 32) h (by omega)) 8) (fun n hn => hA n (List.mem_cons_of_mem _ hn))

def leNat : List Int → Nat
  | [] => 0
  | c :: r => c.toNat + 256 * leNat r
theorem raw_num (s : Nat) (l : List Int) (hA : AllB l) : raw s l = stps (8 * l.length) (s ^^^ leNat l) := by
  induction l generalizing s with
  | nil => simp [raw, leNat, stps]
  | cons c r ih =>
    have hc := hA c (List.mem_cons_self ..)
    have e : raw s (c :: r) = raw (stps 8 (s ^^^ c.toNat)) r := rfl
    rw [e, ih _ (fun n hn => hA n (List.mem_cons_of_mem _ hn)), leNat, add_xor _ _ (by omega), ← Nat.xor_assoc, List.length_cons, Nat.mul_add, stps_add, show 256 * leNat r = 2 ^ 8 * leNat r by rfl, Nat.mul_one, stps_xor 8 _ (2 ^ 8 * leNat r), stps_up]
theorem flip_num (l : List Int) (hA : AllB l) (j : Nat) (h : j / 8 < l.length) : leNat (l.set (j / 8) ((l.getD (j / 8) 0).toNat ^^^ 2 ^ (j % 8) : Nat)) = leNat l ^^^ 2 ^ j := by
  induction l generalizing j with
  | nil => simp at h
  | cons c r ih =>
    have hc := hA c (List.mem_cons_self ..)
    by_cases hj : j < 8
    · have e : j / 8 = 0 := by omega
      have e2 : j % 8 = j := by omega
      rw [e, e2]
      simp only [List.set_cons_zero, leNat, List.getD_cons_zero, Int.toNat_natCast]
      have h1 : c.toNat ^^^ 2 ^ j < 256 := Nat.xor_lt_two_pow (n := 8) (by omega) (Nat.pow_lt_pow_right (by decide) hj)
      rw [add_xor _ _ h1, add_xor _ _ (by omega), Nat.xor_assoc, Nat.xor_comm (2 ^ j), ← Nat.xor_assoc]
    · obtain ⟨k, rfl⟩ : ∃ k, j = k + 8 := ⟨j - 8, by omega⟩
      have e : (k + 8) / 8 = k / 8 + 1 := by omega
      have e2 : (k + 8) % 8 = k % 8 := by omega
      have hi := ih (fun n hn => hA n (List.mem_cons_of_mem _ hn)) k (by simp at h; omega)
      rw [e, e2]
      simp only [List.set_cons_succ, leNat, List.getD_cons_succ]
      rw [hi, add_xor _ _ (by omega), add_xor _ _ (by omega), show (256 : Nat) = 2 ^ 8 by rfl, mul_xor, Nat.xor_assoc, Nat.pow_add, Nat.mul_comm (2 ^ k)]

/-- The sum as the chapter has it. -/
def crc (s : Nat) (l : List Int) : Nat := 4294967295 ^^^ raw (4294967295 ^^^ s) l
theorem crc_lt {s : Nat} (h : s < 4294967296) (l : List Int) (hA : AllB l) : crc s l < 4294967296 :=
  Nat.xor_lt_two_pow (n := 32) (by decide) (raw_lt (Nat.xor_lt_two_pow (n := 32) (by decide) h) l hA)
theorem crc_app (s : Nat) (l m : List Int) : crc (crc s l) m = crc s (l ++ m) := by
  unfold crc
  rw [raw_app, ← Nat.xor_assoc, Nat.xor_self, Nat.zero_xor]
theorem crc_nil (s : Nat) : crc s [] = s := by
  unfold crc raw
  rw [List.foldl_nil, ← Nat.xor_assoc, Nat.xor_self, Nat.zero_xor]

theorem xor_M (a b : Nat) : 4294967295 ^^^ a = b ↔ a ^^^ b = 4294967295 := by
  constructor
  · intro h; rw [← h, Nat.xor_comm, Nat.xor_assoc, Nat.xor_self, Nat.xor_zero]
  · intro h; rw [← h, Nat.xor_comm a b, Nat.xor_assoc, Nat.xor_self, Nat.xor_zero]
theorem leNat_lt (l : List Int) (hA : AllB l) (n : Nat) (hn : l.length = n) : leNat l < 256 ^ n := by
  subst hn
  induction l with
  | nil => simp [leNat]
  | cons c r ih =>
    have hc := hA c (List.mem_cons_self ..)
    have := ih (fun n hn => hA n (List.mem_cons_of_mem _ hn))
    rw [leNat, List.length_cons, Nat.pow_succ]
    omega
/-- Four bytes are the sum of those ahead just where all of them together come to one number. -/
theorem fit_iff (body t : List Int) (hb : AllB body) (ht : AllB t) (h4 : t.length = 4) : leNat t = crc 0 body ↔ raw 4294967295 (body ++ t) = stps 32 4294967295 := by
  have h1 : raw 4294967295 (body ++ t) = stps 32 (raw 4294967295 body ^^^ leNat t) := by rw [raw_app, raw_num _ _ ht, h4]
  have hl := leNat_lt t ht 4 h4
  have hr := raw_lt (s := 4294967295) (by decide) body hb
  rw [h1]
  have e : crc 0 body = 4294967295 ^^^ raw 4294967295 body := rfl
  rw [e, eq_comm, xor_M]
  constructor
  · intro h; rw [h]
  · intro h; exact stps_inj 32 (Nat.xor_lt_two_pow (n := 32) hr hl) (by decide) h
/-- .. and with bits turned within 32 neighbouring ones they come to another, but where none is. -/
theorem burst (s c : List Int) (hs : AllB s) (hc : AllB c) (hlen : c.length = s.length) (at1 b : Nat) (hb : b < 4294967296) (hfit : at1 + 32 ≤ 8 * s.length) (he : leNat c = leNat s ^^^ 2 ^ at1 * b) (K : Nat) (hK : raw 4294967295 s = K) :
    raw 4294967295 c = K ↔ b = 0 := by
  obtain ⟨m, hm⟩ : ∃ m, 8 * s.length = m + at1 := ⟨8 * s.length - at1, by omega⟩
  rw [raw_num _ _ hc, hlen, he, ← Nat.xor_assoc, stps_xor, ← raw_num _ _ hs, hK, hm, stps_add, stps_up]
  constructor
  · intro h
    refine stps_zero m hb ?_
    have := congrArg (K ^^^ ·) h
    simpa [← Nat.xor_assoc] using this
  · intro h; subst h
    have : ∀ n, stps n 0 = 0 := by
      intro n; induction n with
      | zero => rfl
      | succ n ih => rw [stps, ih]; rfl
    rw [this, Nat.xor_zero]

theorem leNum_nat (l : List Int) (hA : AllB l) : leNum l = (leNat l : Int) := by
  induction l with
  | nil => rfl
  | cons c r ih =>
    have hc := hA c (List.mem_cons_self ..)
    have := ih (fun n hn => hA n (List.mem_cons_of_mem _ hn))
    simp only [leNum, leNat]
    omega
end Go.Proofs.Ytmkpeidgimgdlaa.Cm
