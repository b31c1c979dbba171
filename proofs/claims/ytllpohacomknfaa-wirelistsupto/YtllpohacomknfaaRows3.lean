/- What the row tells of a slice of slices of bytes, as the walks want it. -/
import Derived.Test.YtllpohacomknfaaRows2
import Derived.Test.YtllpohacomknfaaEnds
import Derived.Deep.Matrix
namespace Go.Proofs.Ytllpohacomknfaa
open Go.RowKit
set_option linter.unusedVariables false
set_option linter.unusedSimpArgs false

/-- A slice of slices of bytes that came in. -/
def RM (W : World) (v : Value) (ls : List (List UInt8)) : Prop := ∃ vals, RV W v vals ∧ RL W vals ls

theorem RM.nil (W : World) : RM W (.slice none 0 0) [] := ⟨[], .inl ⟨_, _, rfl, rfl, fun _ => rfl⟩, rfl, fun i v l h => by simp at h⟩

theorem rm_rows {W : World} {a : Addr} {len cap : Nat} {A : Nat → Option Addr} {L C : Nat → Nat} {Z : Nat → List Int} (hl : len ≤ cap)
    (h : ∀ r, r < cap → W.cell? (a.add r) = some (.slice (A r) (L r) (C r)) ∧ L r ≤ C r ∧ (Z r).length = C r ∧ (∀ n ∈ Z r, (Lit.int .u8 n).wf = true) ∧ (A r = none → C r = 0) ∧ ∀ a', A r = some a' → ∀ c, c < C r → W.cell? (a'.add c) = some (.int .u8 ((Z r).getD c 0))) :
    RM W (.slice (some a) len cap) ((List.range len).map fun r => ((Z r).take (L r)).map fun z => UInt8.ofNat z.toNat) := by
  refine ⟨(List.range len).map fun r => .slice (A r) (L r) (C r), ?_, by simp, ?_⟩
  · by_cases h0 : len = 0
    · subst h0
      exact .inl ⟨_, _, rfl, by simp, fun h => by cases h⟩
    · obtain ⟨b, off, spot⟩ := a
      have hc := (h 0 (by omega)).1
      have hspot : spot = none := by simpa [Addr.add] using World.cell?_spot hc
      subst hspot
      refine .inr ⟨b, off, cap, by simp, by simpa using hl, fun j u hj => ?_⟩
      simp only [List.getElem?_map, Option.map_eq_some_iff] at hj
      obtain ⟨r, hr, rfl⟩ := hj
      have hj' : j < len := by have := (List.getElem?_eq_some_iff.1 hr).1; simpa using this
      rw [List.getElem?_range hj'] at hr
      cases hr
      have := (h j (by omega)).1
      rwa [addr_add] at this
  · intro i v l hv hl'
    simp only [List.getElem?_map, Option.map_eq_some_iff] at hv hl'
    obtain ⟨r, hr, rfl⟩ := hv
    obtain ⟨r', hr', rfl⟩ := hl'
    have hi : i < len := by have := (List.getElem?_eq_some_iff.1 hr).1; simpa using this
    rw [List.getElem?_range hi] at hr hr'
    cases hr
    cases hr'
    obtain ⟨_, h1, h2, h3, h4, h5⟩ := h i (by omega)
    cases hA : A i with
    | none =>
      have := h4 hA
      have hL : L i = 0 := by omega
      rw [hL, this]
      exact .inl ⟨_, _, rfl, by simp, fun _ => rfl⟩
    | some x => exact rb_row h1 h2 (fun c hc => h5 x hA c (by omega)) h3
end Go.Proofs.Ytllpohacomknfaa
