/- The reference's sound, Sound; little. -/
import Derived.Test.YtgpciphjhnabcaaLev2
namespace Go.Proofs.Ytgpciphjhnabcaa
open Go.RowKit Go.Shelf
set_option linter.unusedVariables false
set_option linter.unusedSimpArgs false

/-- Its numbers are small. -/
def SL.lit : SL → Prop
  | .num n => n ≤ 1048576
  | .var _ => True
  | .succ n a => n ≤ 1048576 ∧ a.lit
  | .mx a b => a.lit ∧ b.lit
theorem rd_row1 {W : World} {v : Value} {y : C3} (h : Rd W v 3 1 (lc y)) : ∃ b off c, v = .slice (some ⟨b, off, none⟩) 1 c ∧ ∀ W', Below W.heap.size W W' → ∀ j u, (lc y)[j]? = some u → W'.cell? ((⟨b, off + 0 * 3, none⟩ : Addr).add j) = some u := by
  obtain ⟨b, off, c, x, h1, h2, h3⟩ := rd_row3 (xs := [y]) (by simpa using h) (i := 0) (by simp)
  simp at h2
  subst h2
  exact ⟨b, off, c, h1, h3⟩
theorem rd_row2 {W : World} {v : Value} {y z : C3} (h : Rd W v 3 2 (lc y ++ lc z)) : ∃ b off c, v = .slice (some ⟨b, off, none⟩) 2 c ∧ (∀ W', Below W.heap.size W W' → ∀ j u, (lc y)[j]? = some u → W'.cell? ((⟨b, off + 0 * 3, none⟩ : Addr).add j) = some u) ∧ (∀ W', Below W.heap.size W W' → ∀ j u, (lc z)[j]? = some u → W'.cell? ((⟨b, off + 1 * 3, none⟩ : Addr).add j) = some u) := by
  obtain ⟨b, off, c, x, h1, h2, h3⟩ := rd_row3 (xs := [y, z]) (by simpa using h) (i := 0) (by simp)
  obtain ⟨b', off', c', x', h4, h5, h6⟩ := rd_row3 (xs := [y, z]) (by simpa using h) (i := 1) (by simp)
  simp at h2 h5
  subst h2 h5
  rw [h1] at h4
  cases h4
  exact ⟨b, off, c, h1, h3, h6⟩
theorem RS.one1 {W : World} {s : SL} {x : C3} (h : RS W s x) : x.2.2.oneCell' = true := by
  obtain ⟨_, _, h⟩ := h.slice
  exact h.one
/-- A level of the four kinds: its kids as a list. -/
def SL.kids : SL → List SL
  | .num _ => []
  | .var _ => []
  | .succ _ a => [a]
  | .mx a b => [a, b]
theorem RS.kids {W : World} : ∀ {s : SL} {x : C3}, RS W s x → ∃ xs : List C3, Rd W x.2.2 3 xs.length (xs.flatMap lc) ∧ xs.length = s.kids.length ∧ ∀ (i : Nat) y t, xs[i]? = some y → s.kids[i]? = some t → RS W t y
  | .num _, x, h => ⟨[], by simpa using h.2.2, rfl, fun i y t h1 => by simp at h1⟩
  | .var _, x, h => ⟨[], by simpa using h.2.2, rfl, fun i y t h1 => by simp at h1⟩
  | .succ _ a, x, ⟨_, _, y, h1, h2⟩ => ⟨[y], by simpa using h1, rfl, fun i z t e1 e2 => by
    rcases i with _ | i
    · simp [SL.kids] at e1 e2; subst e1 e2; exact h2
    · simp at e1⟩
  | .mx a b, x, ⟨_, y, z, h1, h2, h3⟩ => ⟨[y, z], by simpa using h1, rfl, fun i u t e1 e2 => by
    rcases i with _ | _ | i
    · simp [SL.kids] at e1 e2; subst e1 e2; exact h2
    · simp [SL.kids] at e1 e2; subst e1 e2; exact h3
    · simp at e1⟩
theorem SL.kids_le (s : SL) : s.kids.length ≤ 2 := by cases s <;> simp [SL.kids]
end Go.Proofs.Ytgpciphjhnabcaa
