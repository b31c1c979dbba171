/- The laws' argument, a slice of calls, as it is read. -/
import Derived.Test.YtikomlcghplchaaOpM
import Derived.Deep.Slices
import Derived.Deep.Fields
import Derived.ChangeArms
namespace Go.Proofs.Ytikomlcghplchaa
open Go.RowKit Go.Shelf Go.ChangeShapes Go.WideShapes Go.Deep
set_option linter.unusedVariables false
set_option linter.unusedSimpArgs false

set_option maxRecDepth 100000 in
theorem open_opsT {H : Type} {enc : TypeId × Value → H} {w : World} {base fuel : Nat} {spare : Nat → Bool} {held : Bool} {x : DataW H × List MemPlace} {a0 : Option Addr} {len0 cap0 : Nat}
    (h : DataW.trod enc Try.prog w base spare held fuel 45 [.slice a0 len0 cap0] = some x) : ∃ os : List OpG, RO w (.slice a0 len0 cap0) os ∧ ∀ o ∈ os, (o.key.size ≤ maxLen ∧ (Lit.int .i64 o.item).wf = true) := by
  have k3 : Try.prog.cellsOf 3 = 1 := by kernel_rfl
  have k9 : Try.prog.cellsOf 9 = 1 := by kernel_rfl
  have k50 : Try.prog.cellsOf 50 = 3 := by kernel_rfl
  rcases open_slice Try.underlying45 h with ⟨e, _⟩ | ⟨a, len, cap, m, n, D, Pl, e, _, hl, hm, hmm, _, hi⟩
  · simp only [List.cons.injEq, and_true] at e
    cases e
    exact ⟨[], .inl ⟨⟨_, _, rfl⟩, rfl⟩, by simp⟩
  · simp only [List.cons.injEq, and_true] at e
    cases e
    have hlm : len0 ≤ m := by rw [hmm]; split <;> omega
    have one : ∀ i, i < len0 → ∃ o : OpG, (o.key.size ≤ maxLen ∧ (Lit.int .i64 o.item).wf = true) ∧ w.cell? ((a.add (i * 3)).add 0) = some (.int .i64 o.what) ∧ w.cell? ((a.add (i * 3)).add 1) = some (.string o.key) ∧ w.cell? ((a.add (i * 3)).add 2) = some (.int .i64 o.item) := by
      intro i hil
      obtain ⟨cs', hc, ht'⟩ := hi i (by omega)
      rw [k50] at hc
      obtain ⟨_, hcl, hat⟩ := World.cells?_some hc
      obtain ⟨xs, n', _, _, _, hxl, hf⟩ := DataW.trod_struct Try.underlying50 ht'
      match cs', hcl with
      | [c0, c1, c2], _ =>
        match xs, hxl with
        | [x0, x1, x2], _ =>
          have f0 := hf 0 _ rfl
          have f1 := hf 1 _ rfl
          have f2 := hf 2 _ rfl
          simp [k3, k9] at f0 f1 f2
          obtain ⟨n0, e0, _, _⟩ := DataW.trod_int Try.underlying3 f0
          obtain ⟨s1, e1, _, hs1⟩ := DataW.trod_string Try.underlying9 f1
          obtain ⟨n2, e2, _, hw2⟩ := DataW.trod_int Try.underlying3 f2
          simp only [List.cons.injEq, and_true] at e0 e1 e2
          subst e0 e1 e2
          exact ⟨⟨n0, s1, n2⟩, ⟨hs1, hw2⟩, hat 0 (by omega), hat 1 (by omega), hat 2 (by omega)⟩
    by_cases h0 : len0 = 0
    · subst h0
      exact ⟨[], .inl ⟨⟨_, _, rfl⟩, rfl⟩, by simp⟩
    · obtain ⟨b, off, spot⟩ := a
      have hspot : spot = none := by
        obtain ⟨o, _, hc, _⟩ := one 0 (by omega)
        simpa [Addr.add] using World.cell?_spot hc
      subst hspot
      have all : ∀ k, k ≤ len0 → ∃ os : List OpG, os.length = k ∧ ∀ j o, os[j]? = some o → (o.key.size ≤ maxLen ∧ (Lit.int .i64 o.item).wf = true) ∧ w.cell? ⟨b, off + 3 * j, none⟩ = some (.int .i64 o.what) ∧ w.cell? ⟨b, off + 3 * j + 1, none⟩ = some (.string o.key) ∧ w.cell? ⟨b, off + 3 * j + 2, none⟩ = some (.int .i64 o.item) := by
        intro k
        induction k with
        | zero => exact fun _ => ⟨[], rfl, by simp⟩
        | succ k ih =>
          intro hk
          obtain ⟨os, hol, hos⟩ := ih (by omega)
          obtain ⟨o, ho, c0, c1, c2⟩ := one k (by omega)
          simp only [addr_add] at c0 c1 c2
          refine ⟨os ++ [o], by simp [hol], fun j u hj => ?_⟩
          rw [List.getElem?_append] at hj
          split at hj
          · exact hos j u hj
          · next hge =>
            have hjk : j = k := by
              have := (List.getElem?_eq_some_iff.1 hj).1
              simp at this
              omega
            subst hjk
            simp [hol] at hj
            subst hj
            exact ⟨ho, by rw [Nat.mul_comm 3 j]; exact c0, by rw [Nat.mul_comm 3 j]; exact c1, by rw [Nat.mul_comm 3 j]; exact c2⟩
      obtain ⟨os, hol, hos⟩ := all len0 (Nat.le_refl _)
      refine ⟨os, .inr ⟨b, off, cap0, by rw [hol], fun j o hj => (hos j o hj).2⟩, fun o ho => ?_⟩
      obtain ⟨j, hj⟩ := List.getElem?_of_mem ho
      exact (hos j o hj).1
end Go.Proofs.Ytikomlcghplchaa
