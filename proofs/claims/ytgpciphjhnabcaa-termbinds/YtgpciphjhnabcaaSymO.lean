/- Slices that rows tell of, opened: elements of any number of cells. No program is named here. -/
import Derived.Test.YtgpciphjhnabcaaSymR
import Derived.ProofKit
import Derived.Deep.Slices
namespace Go.Proofs.Ytgpciphjhnabcaa
open Go.RowKit Go.Shelf Go.ChangeShapes Go.WideShapes
set_option linter.unusedVariables false
set_option linter.unusedSimpArgs false

section
variable {α : Type} {encA : α → List Value} {k : Nat}
theorem gfm_len : ∀ (xs : List α), (∀ x ∈ xs, (encA x).length = k) → (xs.flatMap encA).length = xs.length * k
  | [], _ => by simp
  | x :: xs, h => by
    rw [List.flatMap_cons, List.length_append, h x (by simp), gfm_len xs (fun y hy => h y (by simp [hy])), List.length_cons, Nat.succ_mul, Nat.add_comm]
theorem gfm_inv (hk : 0 < k) : ∀ (xs : List α) (j : Nat) (u : Value), (∀ x ∈ xs, (encA x).length = k) → (xs.flatMap encA)[j]? = some u → ∃ x, xs[j / k]? = some x ∧ (encA x)[j % k]? = some u
  | [], j, u, _, h => by simp at h
  | c :: xs, j, u, h32, h => by
    have h0 : (encA c).length = k := h32 c (by simp)
    rw [List.flatMap_cons] at h
    by_cases hj : j < k
    · rw [List.getElem?_append_left (by omega)] at h
      exact ⟨c, by rw [Nat.div_eq_of_lt hj]; rfl, by rw [Nat.mod_eq_of_lt hj]; exact h⟩
    · rw [List.getElem?_append_right (by omega), h0] at h
      obtain ⟨x, h1, h2⟩ := gfm_inv hk xs (j - k) u (fun y hy => h32 y (by simp [hy])) h
      have hkj : k ≤ j := by omega
      have e1 : j / k = (j - k) / k + 1 := Nat.div_eq_sub_div hk hkj
      have e2 : j % k = (j - k) % k := Nat.mod_eq_sub_mod hkj
      exact ⟨x, by rw [e1]; simpa using h1, by rw [e2]; exact h2⟩
theorem open_rows {H : Type} {enc : TypeId × Value → H} {P : Program} {w : World} {base fuel : Nat} {spare : Nat → Bool} {held : Bool} {t e : TypeId} {x : DataW H × List MemPlace} {a0 : Option Addr} {len0 cap0 : Nat} (good : α → Prop) (hk : 0 < k)
    (ht : P.underlying t = some (.slice e)) (hc : P.cellsOf e = k) (hlen : ∀ x, good x → (encA x).length = k) (tell : ∀ fuel cs' y, DataW.trod enc P w base spare held fuel e cs' = some y → ∃ x, good x ∧ cs' = encA x)
    (h : DataW.trod enc P w base spare held fuel t [.slice a0 len0 cap0] = some x) : ∃ xs : List α, Rd w (.slice a0 len0 cap0) k xs.length (xs.flatMap encA) ∧ (∀ x ∈ xs, good x) ∧ xs.length ≤ 9223372036854775807 := by
  rcases Deep.open_slice ht h with ⟨e', _⟩ | ⟨a, len, cap, m, n, D, Pl, e', _, hl, hm, hmm, _, hi⟩
  · simp only [List.cons.injEq, and_true] at e'
    cases e'
    exact ⟨[], Rd.nil _ _, by simp, by simp⟩
  · simp only [List.cons.injEq, and_true] at e'
    cases e'
    have hlm : len0 ≤ m := by rw [hmm]; split <;> omega
    have one : ∀ i, i < len0 → ∃ d : α, good d ∧ ∀ (j : Nat) u, (encA d)[j]? = some u → w.cell? ((a.add (i * k)).add j) = some u := by
      intro i hil
      obtain ⟨cs', hc', ht'⟩ := hi i (by omega)
      rw [hc] at hc'
      obtain ⟨_, hcl, hat⟩ := World.cells?_some hc'
      obtain ⟨d, hd, rfl⟩ := tell _ _ _ ht'
      refine ⟨d, hd, fun j u hj => ?_⟩
      have hjl : j < k := by have := (List.getElem?_eq_some_iff.1 hj).1; rw [hlen d hd] at this; exact this
      have h1 := hat j (by omega)
      rw [h1, hj]
    have hml : len0 ≤ 9223372036854775807 := by unfold maxLen at hm; omega
    by_cases h0 : len0 = 0
    · subst h0
      exact ⟨[], ⟨by simp, .inl ⟨_, _, rfl, rfl, fun h => by cases h⟩⟩, by simp, by simp⟩
    · obtain ⟨b, off, spot⟩ := a
      obtain ⟨d0, hd0, hx0⟩ := one 0 (by omega)
      have hc0 := hx0 0 _ (List.getElem?_eq_getElem (by rw [hlen d0 hd0]; omega))
      have hspot : spot = none := by simpa [Addr.add] using World.cell?_spot hc0
      subst hspot
      have hb : b < w.heap.size := by
        have := World.block_lt_of_cell? w _ hc0
        rwa [addr_addn, addr_addn] at this
      have all : ∀ q, q ≤ len0 → ∃ ds : List α, ds.length = q ∧ (∀ d ∈ ds, good d) ∧ ∀ i d, ds[i]? = some d → ∀ (j : Nat) u, (encA d)[j]? = some u → w.cell? ⟨b, off + i * k + j, none⟩ = some u := by
        intro q
        induction q with
        | zero => exact fun _ => ⟨[], rfl, by simp, by simp⟩
        | succ q ih =>
          intro hq
          obtain ⟨ds, h1, h2, h3⟩ := ih (by omega)
          obtain ⟨d, hd, hx⟩ := one q (by omega)
          refine ⟨ds ++ [d], by simp [h1], fun e he => ?_, fun i e he j u hj => ?_⟩
          · rcases List.mem_append.1 he with he | he
            · exact h2 e he
            · simp at he; subst he; exact hd
          · rw [List.getElem?_append] at he
            split at he
            · exact h3 i e he j u hj
            · next hge =>
              have hik : i = q := by
                have := (List.getElem?_eq_some_iff.1 he).1
                simp at this
                omega
              subst hik
              simp [h1] at he
              subst he
              have := hx j u hj
              rwa [addr_addn, addr_addn] at this
      obtain ⟨ds, h1, h2, h3⟩ := all len0 (Nat.le_refl _)
      refine ⟨ds, ⟨gfm_len ds (fun d hd => hlen d (h2 d hd)), .inr ⟨b, off, cap0, by rw [h1], by omega, hb, fun j u hj => ?_⟩⟩, h2, by omega⟩
      obtain ⟨d, e1, e2⟩ := gfm_inv hk ds j u (fun d hd => hlen d (h2 d hd)) hj
      have := h3 _ d e1 _ u e2
      have hdm := Nat.div_add_mod j k
      rwa [show off + j / k * k + j % k = off + j by rw [Nat.add_assoc, Nat.mul_comm, hdm]] at this
end
end Go.Proofs.Ytgpciphjhnabcaa
