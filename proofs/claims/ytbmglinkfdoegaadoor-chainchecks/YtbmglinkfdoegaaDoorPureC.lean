/- Rows and trees of digests, on lists. No program is named here. -/
import Derived.Test.YtbmglinkfdoegaaDoorPure2
namespace Go.Proofs.YtbmglinkfdoegaaDoor
set_option linter.unusedVariables false

def linkL (ks : List UInt32) (d b : List UInt8) : List UInt8 := shaL ks (0 :: (d ++ b))
def leafL (ks : List UInt32) (b : List UInt8) : List UInt8 := shaL ks (1 :: b)
def nodeL (ks : List UInt32) (a b : List UInt8) : List UInt8 := shaL ks (2 :: (a ++ b))
def foldL (ks : List UInt32) : List UInt8 → List (List UInt8) → List UInt8
  | d, [] => d
  | d, b :: l => foldL ks (linkL ks d b) l
theorem linkL_length (ks : List UInt32) (d b : List UInt8) : (linkL ks d b).length = 32 := shaL_length _ _
theorem leafL_length (ks : List UInt32) (b : List UInt8) : (leafL ks b).length = 32 := shaL_length _ _
theorem nodeL_length (ks : List UInt32) (a b : List UInt8) : (nodeL ks a b).length = 32 := shaL_length _ _
theorem foldL_length (ks : List UInt32) : ∀ (l : List (List UInt8)) (d : List UInt8), d.length = 32 → (foldL ks d l).length = 32
  | [], d, h => h
  | b :: l, d, h => foldL_length ks l _ (linkL_length _ _ _)
theorem foldL_snoc (ks : List UInt32) : ∀ (l : List (List UInt8)) (d b : List UInt8), foldL ks d (l ++ [b]) = linkL ks (foldL ks d l) b
  | [], d, b => rfl
  | c :: l, d, b => by
    show foldL ks (linkL ks d c) (l ++ [b]) = _
    rw [foldL_snoc ks l]
    rfl

/-- The greatest power of 2 that is less than n (2 at least). -/
def halfL (n : Nat) : Nat := 2 ^ Nat.log2 (n - 1)
theorem halfL_pos (n : Nat) : 0 < halfL n := Nat.two_pow_pos _
theorem halfL_lt {n : Nat} (h : 2 ≤ n) : halfL n < n := by
  have := Nat.log2_self_le (n := n - 1) (by omega)
  unfold halfL
  omega
theorem le_halfL {n : Nat} (h : 2 ≤ n) : n ≤ 2 * halfL n := by
  have := Nat.lt_log2_self (n := n - 1)
  unfold halfL
  rw [Nat.pow_succ] at this
  omega
theorem halfL_is {n j : Nat} (h : 2 ≤ n) (h1 : 2 ^ j < n) (h2 : n ≤ 2 * 2 ^ j) : halfL n = 2 ^ j := by
  unfold halfL
  congr 1
  rw [Nat.log2_eq_iff (by omega), Nat.pow_succ]
  omega

def rootF (ks : List UInt32) : Nat → List (List UInt8) → List UInt8
  | 0, _ => shaL ks [3]
  | f + 1, ls => if ls.length = 0 then shaL ks [3] else if ls.length = 1 then leafL ks (ls.getD 0 []) else nodeL ks (rootF ks f (ls.take (halfL ls.length))) (rootF ks f (ls.drop (halfL ls.length)))
theorem rootF_length (ks : List UInt32) (f : Nat) (ls : List (List UInt8)) : (rootF ks f ls).length = 32 := by
  cases f with
  | zero => exact shaL_length _ _
  | succ f =>
    unfold rootF
    split
    · exact shaL_length _ _
    · split
      · exact shaL_length _ _
      · exact shaL_length _ _
/-- The digests above the ith. -/
def pathF (ks : List UInt32) : Nat → List (List UInt8) → Nat → List (List UInt8)
  | 0, _, _ => []
  | f + 1, ls, i => if ls.length < 2 then [] else
    if i < halfL ls.length then pathF ks f (ls.take (halfL ls.length)) i ++ [rootF ks f (ls.drop (halfL ls.length))]
    else pathF ks f (ls.drop (halfL ls.length)) (i - halfL ls.length) ++ [rootF ks f (ls.take (halfL ls.length))]
theorem pathF_length32 (ks : List UInt32) : ∀ f ls i, ∀ d ∈ pathF ks f ls i, d.length = 32
  | 0, _, _, d, h => by cases h
  | f + 1, ls, i, d, h => by
    unfold pathF at h
    split at h
    · cases h
    · split at h
      · rcases List.mem_append.1 h with h | h
        · exact pathF_length32 ks f _ _ d h
        · simp at h; subst h; exact rootF_length _ _ _
      · rcases List.mem_append.1 h with h | h
        · exact pathF_length32 ks f _ _ d h
        · simp at h; subst h; exact rootF_length _ _ _
theorem pathF_length (ks : List UInt32) : ∀ f ls i, (pathF ks f ls i).length ≤ f
  | 0, _, _ => Nat.le_refl _
  | f + 1, ls, i => by
    unfold pathF
    split
    · simp
    · split
      · have := pathF_length ks f (ls.take (halfL ls.length)) i
        simp; omega
      · have := pathF_length ks f (ls.drop (halfL ls.length)) (i - halfL ls.length)
        simp; omega

/-- How many nodes stand above the ith of n. -/
def heightF : Nat → Nat → Nat → Nat
  | 0, _, _ => 0
  | f + 1, i, n => if n ≤ 1 then 0 else if i < halfL n then heightF f i (halfL n) + 1 else heightF f (i - halfL n) (n - halfL n) + 1
/-- Where a path leads, of the right length or not. -/
def climbF (ks : List UInt32) (d : List UInt8) : Nat → Nat → Nat → List (List UInt8) → List UInt8
  | 0, _, _, _ => d
  | f + 1, i, n, ps => if n ≤ 1 then d else if ps.length = 0 then d else
    if i < halfL n then nodeL ks (climbF ks d f i (halfL n) (ps.take (ps.length - 1))) (ps.getD (ps.length - 1) [])
    else nodeL ks (ps.getD (ps.length - 1) []) (climbF ks d f (i - halfL n) (n - halfL n) (ps.take (ps.length - 1)))
theorem climbF_length (ks : List UInt32) (d : List UInt8) (hd : d.length = 32) : ∀ f i n ps, (climbF ks d f i n ps).length = 32
  | 0, _, _, _ => hd
  | f + 1, i, n, ps => by
    unfold climbF
    split
    · exact hd
    · split
      · exact hd
      · split <;> exact shaL_length _ _
end Go.Proofs.YtbmglinkfdoegaaDoor
