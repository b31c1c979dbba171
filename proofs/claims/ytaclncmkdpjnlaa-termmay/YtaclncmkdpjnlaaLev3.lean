/- The reference's sound, Sound; little. -/
import Derived.Test.YtaclncmkdpjnlaaLev2
namespace Go.Proofs.Ytaclncmkdpjnlaa
open Go.RowKit Go.Shelf
set_option linter.unusedVariables false
set_option linter.unusedSimpArgs false

/-- Its numbers are small. -/
def SL.lit : SL → Prop
  | .num n => n ≤ 1048576
  | .var _ => True
  | .succ n a => n ≤ 1048576 ∧ a.lit
  | .mx a b => a.lit ∧ b.lit
theorem RS.one1 {W : World} {s : SL} {x : C3} (h : RS W s x) : x.2.2.oneCell' = true := by
  obtain ⟨_, _, h⟩ := h.slice
  exact h.one
/-- A level of the four kinds: its kids as a list. -/
def SL.kids : SL → List SL
  | .num _ => []
  | .var _ => []
  | .succ _ a => [a]
  | .mx a b => [a, b]
theorem RS.kids {W : World} : ∀ {s : SL} {x : C3}, RS W s x → ∃ xs : List C3, Rd W x.2.2 3 xs.length (xs.flatMap lc) ∧ xs.length = s.kids.length ∧ ∀ (i : Nat) y t, xs[i]? = some y → s.kids[i]? = some t → RS W t y
  | .num _, x, h => ⟨[], by simpa using h.2.2, rfl, fun i y t h1 => by simp at h1⟩
  | .var _, x, h => ⟨[], by simpa using h.2.2, rfl, fun i y t h1 => by simp at h1⟩
  | .succ _ a, x, ⟨_, _, y, h1, h2⟩ => ⟨[y], by simpa using h1, rfl, fun i z t e1 e2 => by
    rcases i with _ | i
    · simp [SL.kids] at e1 e2; subst e1 e2; exact h2
    · simp at e1⟩
  | .mx a b, x, ⟨_, y, z, h1, h2, h3⟩ => ⟨[y, z], by simpa using h1, rfl, fun i u t e1 e2 => by
    rcases i with _ | _ | i
    · simp [SL.kids] at e1 e2; subst e1 e2; exact h2
    · simp [SL.kids] at e1 e2; subst e1 e2; exact h3
    · simp at e1⟩
theorem SL.kids_le (s : SL) : s.kids.length ≤ 2 := by cases s <;> simp [SL.kids]
end Go.Proofs.Ytaclncmkdpjnlaa
