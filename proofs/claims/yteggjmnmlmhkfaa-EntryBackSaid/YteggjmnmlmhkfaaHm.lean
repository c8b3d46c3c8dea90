/-
  The two hashes as plain functions on integers: no program in it.
-/
import Derived.Test.YteggjmnmlmhkfaaLeNum
namespace Go.Proofs.Yteggjmnmlmhkfaa.Hm
open Bytes8 LeNum
set_option linter.unusedVariables false
set_option maxRecDepth 100000

/-! ## 32 bits -/
def rot32 (x k : Int) : Int := bits .or .u32 (x * 2 ^ k.toNat % 4294967296) (x / 2 ^ (32 - k).toNat)
def add32 (a b : Int) : Int := (a + b) % 4294967296
def stir (a b k : Int) : Int := bits .xor .u32 ((a - b) % 4294967296) (rot32 b k)
def setl (a b k : Int) : Int := (bits .xor .u32 a b - rot32 b k) % 4294967296

structure Trio where
  x : Int
  y : Int
  z : Int

def Trio.ok (t : Trio) : Prop := (0 ≤ t.x ∧ t.x ≤ 4294967295) ∧ (0 ≤ t.y ∧ t.y ≤ 4294967295) ∧ (0 ≤ t.z ∧ t.z ≤ 4294967295)

def mix1 (t : Trio) : Trio := ⟨stir t.x t.z 4, t.y, add32 t.z t.y⟩
def mix2 (t : Trio) : Trio := ⟨add32 t.x t.z, stir t.y t.x 6, t.z⟩
def mix3 (t : Trio) : Trio := ⟨t.x, add32 t.y t.x, stir t.z t.y 8⟩
def mix4 (t : Trio) : Trio := ⟨stir t.x t.z 16, t.y, add32 t.z t.y⟩
def mix5 (t : Trio) : Trio := ⟨add32 t.x t.z, stir t.y t.x 19, t.z⟩
def mix6 (t : Trio) : Trio := ⟨t.x, add32 t.y t.x, stir t.z t.y 4⟩
def mix (t : Trio) : Trio := mix6 (mix5 (mix4 (mix3 (mix2 (mix1 t)))))

def fin (t : Trio) : Trio :=
  let z := setl t.z t.y 14
  let x := setl t.x z 11
  let y := setl t.y x 25
  let z := setl z y 16
  let x := setl x z 4
  let y := setl y x 14
  let z := setl z y 24
  ⟨x, y, z⟩

def ans (t : Trio) : Int := bits .or .u64 (t.z * 4294967296) t.y

def w4 (l : List Int) (o : Nat) : Int := leNum ((l.drop o).take 4)
def plus3 (t : Trio) (l : List Int) (o : Nat) : Trio := ⟨add32 t.x (w4 l o), add32 t.y (w4 l (o + 4)), add32 t.z (w4 l (o + 8))⟩
def lookInit (l : List Int) : Trio := ⟨add32 3735928559 l.length, add32 3735928559 l.length, add32 3735928559 l.length⟩
def trioAt (l : List Int) : Nat → Trio
  | 0 => lookInit l
  | k + 1 => mix (plus3 (trioAt l k) l (12 * k))
def lookS (l : List Int) : Int := if l = [] then ans (lookInit l) else ans (fin (plus3 (trioAt l ((l.length - 1) / 12)) l (12 * ((l.length - 1) / 12))))

/-! ## 64 bits -/
def rot64 (x k : Int) : Int := bits .or .u64 (x * 2 ^ k.toNat % 18446744073709551616) (x / 2 ^ (64 - k).toNat)
def add64 (a b : Int) : Int := (a + b) % 18446744073709551616
def xor64 (a b : Int) : Int := bits .xor .u64 a b

structure Quad where
  p : Int
  q : Int
  r : Int
  s : Int

def Quad.ok (f : Quad) : Prop := (0 ≤ f.p ∧ f.p ≤ 18446744073709551615) ∧ (0 ≤ f.q ∧ f.q ≤ 18446744073709551615) ∧ (0 ≤ f.r ∧ f.r ≤ 18446744073709551615) ∧ (0 ≤ f.s ∧ f.s ≤ 18446744073709551615)

def round (f : Quad) : Quad :=
  let p := add64 f.p f.q
  let q := xor64 (rot64 f.q 13) p
  let p := rot64 p 32
  let r := add64 f.r f.s
  let s := xor64 (rot64 f.s 16) r
  let p := add64 p s
  let s := xor64 (rot64 s 21) p
  let r := add64 r q
  let q := xor64 (rot64 q 17) r
  let r := rot64 r 32
  ⟨p, q, r, s⟩

def rounds (f : Quad) : Nat → Quad
  | 0 => f
  | k + 1 => round (rounds f k)

def quadPlus (f : Quad) (m : Int) : Quad :=
  let g := round (round ⟨f.p, f.q, f.r, xor64 f.s m⟩)
  ⟨xor64 g.p m, g.q, g.r, g.s⟩

def w8 (l : List Int) (o : Nat) : Int := leNum ((l.drop o).take 8)
def keyed (key : List Int) : Quad := ⟨xor64 (w8 key 0) 8317987319222330741, xor64 (w8 key 8) 7237128888997146477, xor64 (w8 key 0) 7816392313619706465, xor64 (w8 key 8) 8387220255154660723⟩
def quadAt (key l : List Int) : Nat → Quad
  | 0 => keyed key
  | k + 1 => quadPlus (quadAt key l k) (w8 l (8 * k))
def last8 (l : List Int) : Int := bits .or .u64 (w8 l (8 * (l.length / 8))) ((l.length : Int) % 256 * 72057594037927936)
def sipEnd (f : Quad) (m : Int) : Int :=
  let g := quadPlus f m
  let h := rounds ⟨g.p, g.q, xor64 g.r 255, g.s⟩ 4
  xor64 (xor64 (xor64 h.p h.q) h.r) h.s
def sipS (key l : List Int) : Int := sipEnd (quadAt key l (l.length / 8)) (last8 l)

/-! ## bounds -/
theorem b32 (op : BinOp) (a b : Int) : 0 ≤ bits op .u32 a b ∧ bits op .u32 a b ≤ 4294967295 := by
  have : (Lit.int .u32 (bits op .u32 a b)).wf = true := wf_bits op .u32 a b
  exact bounds_u32 this
theorem b64 (op : BinOp) (a b : Int) : 0 ≤ bits op .u64 a b ∧ bits op .u64 a b ≤ 18446744073709551615 := by
  have : (Lit.int .u64 (bits op .u64 a b)).wf = true := wf_bits op .u64 a b
  exact bounds_u64 this
theorem wrap64_bd (n : Int) : 0 ≤ IntKind.u64.wrap n ∧ IntKind.u64.wrap n ≤ 18446744073709551615 := by rw [IntKind.wrap_u64]; omega
theorem wrap32_bd (n : Int) : 0 ≤ IntKind.u32.wrap n ∧ IntKind.u32.wrap n ≤ 4294967295 := by rw [IntKind.wrap_u32]; omega
theorem stir_bd (a b k : Int) : 0 ≤ stir a b k ∧ stir a b k ≤ 4294967295 := b32 _ _ _
theorem setl_bd (a b k : Int) : 0 ≤ setl a b k ∧ setl a b k ≤ 4294967295 := by unfold setl; omega
theorem add32_bd (a b : Int) : 0 ≤ add32 a b ∧ add32 a b ≤ 4294967295 := by unfold add32; omega
theorem rot32_bd (a k : Int) : 0 ≤ rot32 a k ∧ rot32 a k ≤ 4294967295 := b32 _ _ _
theorem add64_bd (a b : Int) : 0 ≤ add64 a b ∧ add64 a b ≤ 18446744073709551615 := by unfold add64; omega
theorem xor64_bd (a b : Int) : 0 ≤ xor64 a b ∧ xor64 a b ≤ 18446744073709551615 := b64 _ _ _
theorem rot64_bd (a k : Int) : 0 ≤ rot64 a k ∧ rot64 a k ≤ 18446744073709551615 := b64 _ _ _

theorem plus3_ok (t : Trio) (l : List Int) (o : Nat) : (plus3 t l o).ok := ⟨add32_bd _ _, add32_bd _ _, add32_bd _ _⟩
theorem lookInit_ok (l : List Int) : (lookInit l).ok := ⟨add32_bd _ _, add32_bd _ _, add32_bd _ _⟩
theorem mix_ok (t : Trio) : (mix t).ok := by
  refine ⟨?_, ?_, ?_⟩ <;> simp only [mix, mix6, mix5, mix4, mix3, mix2, mix1]
  · exact add32_bd _ _
  · exact add32_bd _ _
  · exact stir_bd _ _ _
theorem fin_ok (t : Trio) : (fin t).ok := ⟨setl_bd _ _ _, setl_bd _ _ _, setl_bd _ _ _⟩
theorem trioAt_ok (l : List Int) (k : Nat) : (trioAt l k).ok := by
  cases k with
  | zero => exact lookInit_ok l
  | succ k => exact mix_ok _

theorem leNum_zeros (l : List Int) (n : Nat) : leNum (l ++ List.replicate n 0) = leNum l := by
  induction l with
  | nil =>
    induction n with
    | zero => rfl
    | succ n ih => rw [List.replicate_succ]; simp [leNum] at ih ⊢; omega
  | cons a r ih => simp [leNum, ih]
theorem w4_bd (l : List Int) (o : Nat) (h : AllB l) : 0 ≤ w4 l o ∧ w4 l o ≤ 4294967295 := by
  have h1 := leNum_bound ((l.drop o).take 4) ((h.drop o).take 4)
  have hl : ((l.drop o).take 4).length ≤ 4 := List.length_take_le _ _
  unfold w4
  generalize (l.drop o).take 4 = m at *
  have : (256 : Int) ^ m.length ≤ 4294967296 := by
    generalize m.length = j at hl
    match j, hl with
    | 0, _ | 1, _ | 2, _ | 3, _ | 4, _ => decide
  omega
theorem w8_bd (l : List Int) (o : Nat) (h : AllB l) : 0 ≤ w8 l o ∧ w8 l o ≤ 18446744073709551615 := by
  have h1 := leNum_bound ((l.drop o).take 8) ((h.drop o).take 8)
  have hl : ((l.drop o).take 8).length ≤ 8 := List.length_take_le _ _
  unfold w8
  generalize (l.drop o).take 8 = m at *
  have := (pow_le64 m.length hl).1
  omega
theorem last8_bd (l : List Int) : 0 ≤ last8 l ∧ last8 l ≤ 18446744073709551615 := b64 _ _ _

theorem round_ok (f : Quad) : (round f).ok := ⟨add64_bd _ _, xor64_bd _ _, rot64_bd _ _, xor64_bd _ _⟩
theorem rounds_ok (f : Quad) (h : f.ok) (n : Nat) : (rounds f n).ok := by
  cases n with
  | zero => exact h
  | succ n => exact round_ok _
theorem quadPlus_ok (f : Quad) (m : Int) : (quadPlus f m).ok := by
  obtain ⟨_, h2, h3, h4⟩ := round_ok (round ⟨f.p, f.q, f.r, xor64 f.s m⟩)
  exact ⟨xor64_bd _ _, h2, h3, h4⟩
theorem keyed_ok (key : List Int) : (keyed key).ok := ⟨xor64_bd _ _, xor64_bd _ _, xor64_bd _ _, xor64_bd _ _⟩
theorem quadAt_ok (key l : List Int) (k : Nat) : (quadAt key l k).ok := by
  cases k with
  | zero => exact keyed_ok key
  | succ k => exact quadPlus_ok _ _

/-! ## the chapter's examples -/
theorem look_nil : lookS [] = 16045690984833335023 := by decide +kernel
theorem sip_first : sipS [0, 1, 2, 3, 4, 5, 6, 7, 8, 9, 10, 11, 12, 13, 14, 15] [0, 1, 2, 3, 4, 5, 6, 7, 8, 9, 10, 11, 12, 13, 14] = 11613035633349379557 := by decide +kernel
end Go.Proofs.Yteggjmnmlmhkfaa.Hm
