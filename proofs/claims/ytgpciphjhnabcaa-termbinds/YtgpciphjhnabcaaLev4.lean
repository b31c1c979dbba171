/- value, Value; the reference's. -/
import Derived.Test.YtgpciphjhnabcaaLev3
namespace Go.Proofs.Ytgpciphjhnabcaa
open Go.RowKit Go.Shelf
set_option linter.unusedVariables false
set_option linter.unusedSimpArgs false

def rho (vs : List Int) (i : Nat) : Int := max 0 (min (vs.getD i 0) 1099511627776)
def val : SL → (Nat → Int) → Int
  | .num n, _ => n
  | .var i, ρ => ρ i
  | .succ n a, ρ => cut (n + val a ρ)
  | .mx a b, ρ => max (val a ρ) (val b ρ)
theorem rho_nn (vs : List Int) (i : Nat) : 0 ≤ rho vs i ∧ rho vs i ≤ 1099511627776 := by unfold rho; omega
theorem rho_ge {vs : List Int} {i : Nat} (h : vs.length ≤ i) : rho vs i = 0 := by
  unfold rho
  rw [List.getD_eq_getElem?_getD, List.getElem?_eq_none h]
  rfl
theorem val_bd {ρ : Nat → Int} (hρ : ∀ i, 0 ≤ ρ i ∧ ρ i ≤ 1099511627776) : ∀ (s : SL), s.few → 0 ≤ val s ρ ∧ val s ρ ≤ 1099511627776
  | .num n, h => by simp only [SL.few] at h; simp only [val]; omega
  | .var i, _ => hρ i
  | .succ n a, h => by have := val_bd hρ a h.2; simp only [val]; exact ⟨cut_nn (by omega), cut_le _⟩
  | .mx a b, h => by have := val_bd hρ a h.1; have := val_bd hρ b h.2; simp only [val]; omega
theorem rd_rowN {W : World} {v : Value} {ks : List Int} (h : Rd W v 1 ks.length (ints ks)) {i : Nat} (hi : i < ks.length) :
    ∃ b off c, v = .slice (some ⟨b, off, none⟩) ks.length c ∧ ∀ W', Below W.heap.size W W' → W'.cell? ⟨b, off + i, none⟩ = some (.int .i64 (ks.getD i 0)) := by
  obtain ⟨b, off, c, rfl, hb⟩ := h.some (by omega)
  refine ⟨b, off, c, rfl, fun W' hB => ?_⟩
  exact (hB.cell (p := ⟨b, off + i, none⟩) hb).trans (h.cell (by rw [List.getElem?_map, List.getElem?_eq_getElem hi, List.getD_eq_getElem?_getD, List.getElem?_eq_getElem hi]; rfl))

end Go.Proofs.Ytgpciphjhnabcaa
