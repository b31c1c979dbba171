/- Levels as trees: the forms that they come to, by the program's way and by the reference's. No program is named here. -/
import Derived.Test.YtaclncmkdpjnlaaSymE
namespace Go.Proofs.Ytaclncmkdpjnlaa
set_option linter.unusedVariables false
set_option linter.unusedSimpArgs false

/-- A level of one of the four kinds. -/
inductive SL where
  | num (n : Nat) : SL
  | var (i : Nat) : SL
  | succ (n : Nat) (a : SL) : SL
  | mx (a b : SL) : SL
deriving DecidableEq

def SL.size : SL → Nat
  | .num _ => 1
  | .var _ => 1
  | .succ _ a => a.size + 1
  | .mx a b => a.size + b.size + 1
def SL.dep : SL → Nat
  | .num _ => 1
  | .var _ => 1
  | .succ _ a => a.dep + 1
  | .mx a b => max a.dep b.dep + 1
/-- Its numbers are at most top, its variables below vars. -/
def SL.nums (top vars : Nat) : SL → Prop
  | .num n => n ≤ top
  | .var i => i < vars
  | .succ n a => 1 ≤ n ∧ n ≤ top ∧ a.nums top vars
  | .mx a b => a.nums top vars ∧ b.nums top vars
def SL.good (s : SL) : Prop := s.size ≤ 1000 ∧ s.dep ≤ 256 ∧ s.nums 1099511627776 1001
/-- Its numbers are at most 2^40. -/
def SL.few : SL → Prop
  | .num n => n ≤ 1099511627776
  | .var _ => True
  | .succ n a => n ≤ 1099511627776 ∧ a.few
  | .mx a b => a.few ∧ b.few
theorem SL.nums.few {top vars : Nat} (ht : top ≤ 1099511627776) : ∀ {s : SL}, s.nums top vars → s.few
  | .num n, h => by simp only [SL.nums, SL.few] at *; omega
  | .var _, _ => trivial
  | .succ n a, h => ⟨by have := h.2.1; omega, SL.nums.few ht h.2.2⟩
  | .mx a b, h => ⟨SL.nums.few ht h.1, SL.nums.few ht h.2⟩

def cut (x : Int) : Int := min x 1099511627776
def kf : SL → Int → Nat → Int
  | .num _, _, _ => -1
  | .var i, n, j => if i = j then n else -1
  | .succ m a, n, j => kf a (cut (n + m)) j
  | .mx a b, n, j => max (kf a n j) (kf b n j)
def cf : SL → Int → Int
  | .num m, n => cut (n + m)
  | .var _, _ => -1
  | .succ m a, n => cf a (cut (n + m))
  | .mx a b, n => max (cf a n) (cf b n)
def km : SL → Int → Int
  | .num _, _ => -1
  | .var _, n => n
  | .succ m a, n => km a (cut (n + m))
  | .mx a b, n => max (km a n) (km b n)
def sh (m k : Int) : Int := if k < 0 then -1 else cut (k + m)

/-! ### Lists of numbers by place -/
def gt (L : List Int) (j : Nat) : Int := L.getD j (-1)
/-- The last one is 0 or more. -/
def Tm (L : List Int) : Prop := ∀ h : L ≠ [], 0 ≤ L.getLast h
def Lo (L : List Int) : Prop := ∀ x ∈ L, -1 ≤ x
theorem gt_lt {L : List Int} {j : Nat} (h : j < L.length) : gt L j = L[j] := by simp [gt, h]
theorem gt_ge {L : List Int} {j : Nat} (h : L.length ≤ j) : gt L j = -1 := by simp [gt, List.getElem?_eq_none h]
theorem Lo.gt {L : List Int} (h : Lo L) (j : Nat) : -1 ≤ gt L j := by
  by_cases hj : j < L.length
  · rw [gt_lt hj]; exact h _ (List.getElem_mem hj)
  · rw [gt_ge (by omega)]; omega
theorem Tm.last {L : List Int} (h : Tm L) (hp : 0 < L.length) : 0 ≤ gt L (L.length - 1) := by
  have hne : L ≠ [] := by rintro rfl; simp at hp
  have := h hne
  rw [gt_lt (by omega)]
  rwa [List.getLast_eq_getElem] at this
def padL (L : List Int) (m : Nat) : List Int := L ++ List.replicate (m - L.length) (-1)
def up (L : List Int) (i : Nat) (n : Int) : List Int := (padL L (i + 1)).set i (max (gt L i) n)
def rk : SL → Int → List Int → List Int
  | .num _, _, L => L
  | .var i, n, L => up L i n
  | .succ m a, n, L => rk a (cut (n + m)) L
  | .mx a b, n, L => rk b n (rk a n L)
def rc : SL → Int → Int → Int
  | .num m, n, c => max c (cut (n + m))
  | .var _, _, c => c
  | .succ m a, n, c => rc a (cut (n + m)) c
  | .mx a b, n, c => rc b n (rc a n c)
/-! ### The greatest of a list; settled forms -/
def mxl (L : List Int) : Int := L.foldl max (-1)
def setl (c : Int) (L : List Int) : Int := if c ≤ mxl L then 0 else c
def nfK (s : SL) : List Int := rk s 0 []
def nfC (s : SL) : Int := if cf s 0 ≤ km s 0 then 0 else cf s 0
/-! ### The reference's forms -/
def trim : Nat → List Int → List Int
  | 0, K => K
  | f + 1, K => if 0 < K.length ∧ gt K (K.length - 1) < 0 then trim f (K.take (K.length - 1)) else K
def tidyK (K : List Int) : List Int := trim K.length K
def bothK (A B : List Int) : List Int := (List.range (max A.length B.length)).map fun i => max (gt A i) (gt B i)
def plusK (K : List Int) (n : Int) : List Int := K.map fun k => if 0 ≤ k then cut (k + n) else k
/-- What plus does with c. -/
def plusC (c : Int) (K : List Int) (n : Int) : Int := if K = [] ∨ 0 < c then cut (c + n) else c
/-! ### The program's joins -/
/-- Behind the first i of G, n more, onto L. -/
def jn (L G : List Int) (n : Int) : Nat → List Int
  | 0 => L
  | i + 1 => if gt G i = -1 then jn L G n i else up (jn L G n i) i (cut (n + gt G i))
/-- c and L come to t's form, settled. -/
structure IsF (c : Int) (L : List Int) (t : SL) : Prop where
  ks : L = nfK t
  nn : 0 ≤ c
  hi : c ≤ 1099511627776
  set : setl c L = nfC t
end Go.Proofs.Ytaclncmkdpjnlaa
