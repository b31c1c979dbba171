/- Slices that rows tell of, opened: elements of any number of cells. No program is named here. -/
import Derived.Test.YtaclncmkdpjnlaaSymR
import Derived.ProofKit
import Derived.Deep.Slices
namespace Go.Proofs.Ytaclncmkdpjnlaa
open Go.RowKit Go.Shelf Go.ChangeShapes Go.WideShapes
set_option linter.unusedVariables false
set_option linter.unusedSimpArgs false

section
variable {α : Type} {encA : α → List Value} {k : Nat}
theorem gfm_len : ∀ (xs : List α), (∀ x ∈ xs, (encA x).length = k) → (xs.flatMap encA).length = xs.length * k
  | [], _ => by simp
  | x :: xs, h => by
    rw [List.flatMap_cons, List.length_append, h x (by simp), gfm_len xs (fun y hy => h y (by simp [hy])), List.length_cons, Nat.succ_mul, Nat.add_comm]
theorem gfm_inv (hk : 0 < k) : ∀ (xs : List α) (j : Nat) (u : Value), (∀ x ∈ xs, (encA x).length = k) → (xs.flatMap encA)[j]? = some u → ∃ x, xs[j / k]? = some x ∧ (encA x)[j % k]? = some u
  | [], j, u, _, h => by simp at h
  | c :: xs, j, u, h32, h => by
    have h0 : (encA c).length = k := h32 c (by simp)
    rw [List.flatMap_cons] at h
    by_cases hj : j < k
    · rw [List.getElem?_append_left (by omega)] at h
      exact ⟨c, by rw [Nat.div_eq_of_lt hj]; rfl, by rw [Nat.mod_eq_of_lt hj]; exact h⟩
    · rw [List.getElem?_append_right (by omega), h0] at h
      obtain ⟨x, h1, h2⟩ := gfm_inv hk xs (j - k) u (fun y hy => h32 y (by simp [hy])) h
      have hkj : k ≤ j := by omega
      have e1 : j / k = (j - k) / k + 1 := Nat.div_eq_sub_div hk hkj
      have e2 : j % k = (j - k) % k := Nat.mod_eq_sub_mod hkj
      exact ⟨x, by rw [e1]; simpa using h1, by rw [e2]; exact h2⟩
end
end Go.Proofs.Ytaclncmkdpjnlaa
