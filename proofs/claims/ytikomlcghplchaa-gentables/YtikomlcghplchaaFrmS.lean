/- A frame that is known whole, before a region that draws and behind it. No program is named here. -/
import Derived.Test.YtikomlcghplchaaRegS
namespace Go.Proofs.Ytikomlcghplchaa
open Go.RowKit Go.Shelf
set_option linter.unusedVariables false
set_option linter.unusedSimpArgs false

/-- The whole frame as a list. -/
def full (t : Array Value) : List (Nat × Value) := (List.range t.size).map fun j => (j, t.getD j undef)
theorem lookup_range (f : Nat → Value) (j : Nat) : ∀ l : List Nat, (l.map fun k => (k, f k)).lookup j = if j ∈ l then some (f j) else none
  | [] => rfl
  | k :: r => by
    simp only [List.map_cons, List.lookup, lookup_range f j r, List.mem_cons]
    by_cases h : j = k
    · subst h; simp
    · have hb : (j == k) = false := by simpa using h
      simp [h, hb]
theorem full_lookup (t : Array Value) (j : Nat) : (full t).lookup j = t[j]? := by
  unfold full
  rw [lookup_range (fun j => t.getD j undef)]
  by_cases h : j < t.size
  · simp [h, Array.getD]
  · simp [h]
theorem pre_lookup (t : Array Value) (j : Nat) : ∀ pre : List (Nat × Value), (∀ p ∈ pre, t[p.1]? = some p.2) → (pre ++ full t).lookup j = t[j]?
  | [], _ => full_lookup t j
  | p :: r, h => by
    rw [List.cons_append, List.lookup]
    split
    · next e =>
      have e : j = p.1 := by simpa using e
      rw [e, h p (by simp)]
    · exact pre_lookup t j r (fun q hq => h q (by simp [hq]))
theorem frame_known {n : Nat} (t : Array Value) (hs : t.size = n) (pre : List (Nat × Value)) (hp : ∀ p ∈ pre, t[p.1]? = some p.2) : Fr n { tmps := t, defers := [] } (pre ++ full t) :=
  ⟨hs, rfl, fun j u e => by rw [pre_lookup t j pre hp] at e; exact e⟩
/-- The slots lo, lo + 1, .. (n of them) as s has them, the others as t has them. -/
def fillA (s : Array Value) : Nat → Nat → Array Value → Array Value
  | _, 0, t => t
  | lo, n + 1, t => (fillA s (lo + 1) n t).setIfInBounds lo (s.getD lo undef)
theorem fillA_size (s : Array Value) : ∀ (n lo : Nat) (t : Array Value), (fillA s lo n t).size = t.size
  | 0, _, _ => rfl
  | n + 1, lo, t => by simp [fillA, fillA_size s n (lo + 1) t]
theorem fillA_get (s : Array Value) (j : Nat) : ∀ (n lo : Nat) (t : Array Value), j < t.size → (fillA s lo n t)[j]? = if lo ≤ j ∧ j < lo + n then some (s.getD j undef) else t[j]?
  | 0, lo, t, hj => by simp [fillA]; omega
  | n + 1, lo, t, hj => by
    rw [fillA, Array.getElem?_setIfInBounds]
    by_cases h : lo = j
    · subst h
      simp [fillA_size, hj]
    · rw [if_neg h, fillA_get s j n (lo + 1) t hj]
      by_cases h2 : lo + 1 ≤ j ∧ j < lo + 1 + n
      · rw [if_pos h2, if_pos (by omega)]
      · rw [if_neg h2, if_neg (by omega)]
/-- Behind the region the frame is known again: slot 4, and letters in the region's own slots. -/
theorem Behind.act {lo hi : Nat} {v' : Value} {t : Array Value} {pre : List (Nat × Value)} {a' : Act} (hs : t.size = 151) (hp : ∀ p ∈ pre, t[p.1]? = some p.2) (h : Behind lo hi v' (pre ++ full t) a') :
    a' = { tmps := (fillA a'.tmps lo (hi + 1 - lo) t).setIfInBounds 4 v', defers := [] } := by
  obtain ⟨X, hF, h4, hX⟩ := h
  have hsz := hF.size
  have ht : a'.tmps = (fillA a'.tmps lo (hi + 1 - lo) t).setIfInBounds 4 v' := by
    apply Array.ext_getElem?
    intro j
    by_cases hj : j < 151
    · rw [Array.getElem?_setIfInBounds, fillA_size, fillA_get _ _ _ _ _ (by omega)]
      by_cases e4 : 4 = j
      · subst e4
        rw [if_pos rfl, if_pos (by omega)]
        exact hF.slot 4 v' (by rw [List.lookup_append, h4]; rfl)
      · rw [if_neg e4]
        by_cases hr : lo ≤ j ∧ j < lo + (hi + 1 - lo)
        · rw [if_pos hr, Array.getD, dif_pos (by omega)]
          exact Array.getElem?_eq_getElem (by omega)
        · rw [if_neg hr]
          have hn : X.lookup j = none := by
            rw [List.lookup_eq_none_iff]
            intro p hpX
            have := hX p hpX
            have hne : j ≠ p.1 := by omega
            simpa using hne
          have hl : (X ++ (pre ++ full t)).lookup j = t[j]? := by rw [List.lookup_append, hn, pre_lookup t j pre hp]; rfl
          rw [Array.getElem?_eq_getElem (by omega : j < t.size)] at hl ⊢
          exact hF.slot j _ hl
    · rw [Array.getElem?_eq_none (by omega), Array.getElem?_eq_none (by simp [fillA_size]; omega)]
  have hd := hF.defers
  cases a'
  simp only at ht hd
  rw [← ht, hd]
end Go.Proofs.Ytikomlcghplchaa
