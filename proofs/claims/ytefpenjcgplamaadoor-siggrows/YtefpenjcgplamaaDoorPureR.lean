/- The reference's primes, roots, words and padding on lists. -/
import Derived.Test.YtefpenjcgplamaaDoorRhex
namespace Go.Proofs.YtefpenjcgplamaaDoor
set_option linter.unusedVariables false

/-- One bit of a cube root. -/
def rTop (y : UInt64) : UInt64 := mulHi (y * y) y + mulHi y y * y
def rLow (y : UInt64) : UInt64 := (y * y) * y
def rOk (p y : UInt64) : Bool := decide (rTop y < p <<< UInt64.ofNat 32) || (decide (rTop y = p <<< UInt64.ofNat 32) && decide (rLow y = 0))
def rY (x : UInt64) (k : Nat) : UInt64 := x ||| (1 <<< UInt64.ofNat k)
def rStep (p : UInt64) (k : Nat) (x : UInt64) : UInt64 := bif rOk p (rY x k) then rY x k else x
/-- The bits from the kth down. -/
def rootX (p : UInt64) : Nat → UInt64 → UInt64
  | 0, x => x
  | k + 1, x => rootX p k (rStep p k x)
def rootL (p : UInt64) : UInt32 := (rootX p 35 0).toUInt32

/-- The primes among the first k numbers from 2 on. -/
def isP (ps : List UInt64) (p : UInt64) : Bool := ps.all fun q => decide (p % q ≠ 0)
def primesL : Nat → List UInt64
  | 0 => []
  | k + 1 => bif isP (primesL k) (UInt64.ofNat (2 + k)) then primesL k ++ [UInt64.ofNat (2 + k)] else primesL k
theorem primesL_mono : ∀ k j, (primesL k).length ≤ (primesL (k + j)).length
  | k, 0 => Nat.le_refl _
  | k, j + 1 => by
    refine Nat.le_trans (primesL_mono k j) ?_
    rw [← Nat.add_assoc, primesL]
    cases isP (primesL (k + j)) (UInt64.ofNat (2 + (k + j))) <;> simp
theorem primes309 : (primesL 309).length = 63 := by decide +kernel
theorem primes310 : (primesL 310).length = 64 := by decide +kernel
theorem primes_lt {k : Nat} (h : k < 310) : (primesL k).length < 64 := by
  have := primesL_mono k (309 - k)
  rw [show k + (309 - k) = 309 by omega, primes309] at this
  omega
theorem roots_are : (primesL 310).map rootL = kTab := by decide +kernel

attribute [irreducible] primesL

/-- Four bytes, one behind the other, are a word. -/
def foldW (bs : List UInt8) (t : Nat) : Nat → UInt32
  | 0 => 0
  | j + 1 => (foldW bs t j <<< UInt32.ofNat 8) ||| (bs.getD (4 * t + j) 0).toUInt32
theorem foldW_word (bs : List UInt8) (t : Nat) : foldW bs t 4 = word4 bs t := by
  simp only [foldW, word4, Nat.add_zero]
  generalize bs.getD (4 * t) 0 = a
  generalize bs.getD (4 * t + 1) 0 = b
  generalize bs.getD (4 * t + 2) 0 = c
  generalize bs.getD (4 * t + 3) 0 = d
  have ha := a.toNat_lt
  have hb := b.toNat_lt
  have hc := c.toNat_lt
  have hd := d.toNat_lt
  have shl : ∀ (x : UInt32) (k : Nat), k < 32 → x.toNat * 2 ^ k < 2 ^ 32 → (x <<< UInt32.ofNat k).toNat = x.toNat <<< k := fun x k hk hx => by
    rw [UInt32.toNat_shiftLeft, UInt32.toNat_ofNat', Nat.mod_eq_of_lt (show k < 2 ^ 32 by omega), Nat.mod_eq_of_lt hk, Nat.shiftLeft_eq, Nat.mod_eq_of_lt hx]
  have e8 : ∀ z : UInt8, z.toUInt32.toNat = z.toNat := fun z => UInt8.toNat_toUInt32 z
  apply UInt32.toNat_inj.1
  -- the left
  have l1 : ((0 : UInt32) <<< UInt32.ofNat 8 ||| a.toUInt32).toNat = a.toNat := by
    rw [UInt32.toNat_or, shl 0 8 (by decide) (by decide), e8]
    simp
  have l2 : ((((0 : UInt32) <<< UInt32.ofNat 8 ||| a.toUInt32) <<< UInt32.ofNat 8) ||| b.toUInt32).toNat = a.toNat * 256 + b.toNat := by
    rw [UInt32.toNat_or, shl _ 8 (by decide) (by rw [l1]; omega), l1, e8, ← Nat.shiftLeft_add_eq_or_of_lt (by omega), Nat.shiftLeft_eq]
  have l3 : (((((0 : UInt32) <<< UInt32.ofNat 8 ||| a.toUInt32) <<< UInt32.ofNat 8 ||| b.toUInt32) <<< UInt32.ofNat 8) ||| c.toUInt32).toNat = (a.toNat * 256 + b.toNat) * 256 + c.toNat := by
    rw [UInt32.toNat_or, shl _ 8 (by decide) (by rw [l2]; omega), l2, e8, ← Nat.shiftLeft_add_eq_or_of_lt (by omega), Nat.shiftLeft_eq]
  rw [UInt32.toNat_or, shl _ 8 (by decide) (by rw [l3]; omega), l3, e8, ← Nat.shiftLeft_add_eq_or_of_lt (by omega), Nat.shiftLeft_eq]
  -- the right
  have sa : (a.toUInt32 <<< UInt32.ofNat 24).toNat = a.toNat <<< 24 := by rw [shl _ 24 (by decide) (by rw [e8]; omega), e8]
  have sb : (b.toUInt32 <<< UInt32.ofNat 16).toNat = b.toNat <<< 16 := by rw [shl _ 16 (by decide) (by rw [e8]; omega), e8]
  have sc : (c.toUInt32 <<< UInt32.ofNat 8).toNat = c.toNat <<< 8 := by rw [shl _ 8 (by decide) (by rw [e8]; omega), e8]
  rw [UInt32.toNat_or, UInt32.toNat_or, UInt32.toNat_or, sa, sb, sc, e8]
  have r1 : a.toNat <<< 24 ||| b.toNat <<< 16 = (a.toNat * 256 + b.toNat) <<< 16 := by
    rw [← Nat.shiftLeft_add_eq_or_of_lt (show b.toNat <<< 16 < 2 ^ 24 by rw [Nat.shiftLeft_eq]; omega)]
    simp only [Nat.shiftLeft_eq]
    omega
  have r2 : (a.toNat * 256 + b.toNat) <<< 16 ||| c.toNat <<< 8 = ((a.toNat * 256 + b.toNat) * 256 + c.toNat) <<< 8 := by
    rw [← Nat.shiftLeft_add_eq_or_of_lt (show c.toNat <<< 8 < 2 ^ 16 by rw [Nat.shiftLeft_eq]; omega)]
    simp only [Nat.shiftLeft_eq]
    omega
  rw [r1, r2, ← Nat.shiftLeft_add_eq_or_of_lt (by omega), Nat.shiftLeft_eq]

/-- A message with its padding, as the reference lays it. -/
theorem pad_end (n j : Nat) (hj : (n + 1 + j) % 64 = 56) (hm : ∀ i, i < j → (n + 1 + i) % 64 ≠ 56) : n + 1 + j + 8 = n + endLen n := by
  have hlt : j < 64 := by
    rcases Nat.lt_or_ge j 64 with h | h
    · exact h
    · have := hm ((56 + 64 - (n + 1) % 64) % 64) (by omega)
      omega
  unfold endLen
  split
  · rename_i h
    by_cases h0 : (n + 1) % 64 ≤ 56
    · have := hm (56 - (n + 1) % 64)
      omega
    · have := hm (120 - (n + 1) % 64)
      omega
  · rename_i h
    by_cases h0 : (n + 1) % 64 ≤ 56
    · have := hm (56 - (n + 1) % 64)
      omega
    · have := hm (120 - (n + 1) % 64)
      omega
end Go.Proofs.YtefpenjcgplamaaDoor
