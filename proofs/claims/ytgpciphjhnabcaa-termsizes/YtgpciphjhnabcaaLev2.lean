/- check, May, isSound; the reference's may, May, sound, Sound. -/
import Derived.Test.YtgpciphjhnabcaaLev1
namespace Go.Proofs.Ytgpciphjhnabcaa
open Go.RowKit Go.Shelf
set_option linter.unusedVariables false
set_option linter.unusedSimpArgs false

theorem RL.one1 {W : World} {x : C3} {l : Lv} (h : RL W x l) : x.2.2.oneCell' = true := by
  obtain ⟨_, _, h⟩ := h.slice
  exact h.one
theorem kids_le {k : Int} {len : Nat} (h : kidsB k len = true) : len ≤ 2 := by
  have := kidsB_iff.1 h
  omega
end Go.Proofs.Ytgpciphjhnabcaa
