/- What the rows tell of arguments, as the walks want it. -/
import Derived.Test.YtaclncmkdpjnlaaLevA
import Derived.Test.YtaclncmkdpjnlaaSymO
import Derived.ChangeSame
import Derived.ChangeArms
import Derived.ProofKit
import Derived.SizedLaws
import Derived.Deep.Slices
import Derived.Deep.Strs
namespace Go.Proofs.Ytaclncmkdpjnlaa
open Go.RowKit Go.Shelf Go.ChangeShapes Go.WideShapes
set_option maxRecDepth 100000
set_option linter.unusedVariables false
set_option linter.unusedSimpArgs false

theorem cells24 : Try.prog.cellsOf 24 = 3 := by kernel_rfl
theorem cells3 : Try.prog.cellsOf 3 = 1 := by kernel_rfl
theorem cells22 : Try.prog.cellsOf 22 = 1 := by kernel_rfl
theorem okWide_str {P : Program} {w : World} {r : Reach} {base : Nat} {t : TypeId} {v : Value} {fs : Array Field} (ht : P.underlying t = some (.struct fs)) (h : Value.okWide P w r base t v) : ∃ cs, v = .agg cs ∧ cs.size = P.cellsOf t := by
  unfold Value.okWide at h
  rw [ht] at h
  obtain ⟨cs, h1, h2, _⟩ := h
  exact ⟨cs, h1, h2⟩
section
variable {H : Type} {enc : TypeId × Value → H} {w : World} {base : Nat} {spare : Nat → Bool} {held : Bool}
/-- A slice of levels, out of what its elements tell. -/
theorem open_lrow {n : Nat} {cs : List Value} {x : DataW H × List MemPlace} (good : C3 → Prop) (tell : ∀ m, m < n → ∀ cs' y, DataW.trod enc Try.prog w base spare held m 24 cs' = some y → ∃ c, good c ∧ cs' = lc c)
    (h : DataW.trod enc Try.prog w base spare held n 22 cs = some x) : ∃ a len cap, cs = [.slice a len cap] ∧ ∃ xs : List C3, Rd w (.slice a len cap) 3 xs.length (xs.flatMap lc) ∧ (∀ x ∈ xs, good x) ∧ xs.length ≤ 9223372036854775807 := by
  rcases DataW.trod_slice Try.underlying22 h with ⟨rfl, _⟩ | ⟨a, len, cap, elems, rest, m, hfu, rfl, _, _, hl, hm, hlen, hel, _, _⟩
  · exact ⟨none, 0, 0, rfl, [], Rd.nil _ _, by simp, by simp⟩
  · refine ⟨some a, len, cap, rfl, ?_⟩
    have one : ∀ i, i < len → ∃ d : C3, good d ∧ ∀ (j : Nat) u, (lc d)[j]? = some u → w.cell? ((a.add (i * 3)).add j) = some u := by
      intro i hil
      have h1 := hel i hil
      rw [List.getElem?_eq_getElem (by omega)] at h1
      obtain ⟨cs', hc', ht'⟩ := Option.bind_eq_some_iff.1 h1
      rw [cells24] at hc'
      obtain ⟨_, hcl, hat⟩ := World.cells?_some hc'
      obtain ⟨d, hd, rfl⟩ := tell m (by omega) _ _ ht'
      refine ⟨d, hd, fun j u hj => ?_⟩
      have hjl : j < 3 := (List.getElem?_eq_some_iff.1 hj).1
      have h2 := hat j (by omega)
      rw [h2, hj]
    have hml : len ≤ 9223372036854775807 := by unfold maxLen at hm; omega
    by_cases h0 : len = 0
    · subst h0
      exact ⟨[], ⟨by simp, .inl ⟨_, _, rfl, rfl, fun h => by cases h⟩⟩, by simp, by simp⟩
    · obtain ⟨b, off, spot⟩ := a
      obtain ⟨d0, hd0, hx0⟩ := one 0 (by omega)
      have hc0 := hx0 0 _ (List.getElem?_eq_getElem (show 0 < (lc d0).length by simp [lc]))
      have hspot : spot = none := by simpa [Addr.add] using World.cell?_spot hc0
      subst hspot
      have hb : b < w.heap.size := by
        have := World.block_lt_of_cell? w _ hc0
        rwa [addr_addn, addr_addn] at this
      have all : ∀ q, q ≤ len → ∃ ds : List C3, ds.length = q ∧ (∀ d ∈ ds, good d) ∧ ∀ i d, ds[i]? = some d → ∀ (j : Nat) u, (lc d)[j]? = some u → w.cell? ⟨b, off + i * 3 + j, none⟩ = some u := by
        intro q
        induction q with
        | zero => exact fun _ => ⟨[], rfl, by simp, by simp⟩
        | succ q ih =>
          intro hq
          obtain ⟨ds, h1, h2, h3⟩ := ih (by omega)
          obtain ⟨d, hd, hx⟩ := one q (by omega)
          refine ⟨ds ++ [d], by simp [h1], fun e he => ?_, fun i e he j u hj => ?_⟩
          · rcases List.mem_append.1 he with he | he
            · exact h2 e he
            · simp at he; subst he; exact hd
          · rw [List.getElem?_append] at he
            split at he
            · exact h3 i e he j u hj
            · next hge =>
              have hik : i = q := by
                have := (List.getElem?_eq_some_iff.1 he).1
                simp at this
                omega
              subst hik
              simp [h1] at he
              subst he
              have := hx j u hj
              rwa [addr_addn, addr_addn] at this
      obtain ⟨ds, h1, h2, h3⟩ := all len (Nat.le_refl _)
      refine ⟨ds, ⟨gfm_len (k := 3) ds (fun d hd => by simp [lc]), .inr ⟨b, off, cap, by rw [h1], by omega, hb, fun j u hj => ?_⟩⟩, h2, by omega⟩
      obtain ⟨d, e1, e2⟩ := gfm_inv (k := 3) (by decide) ds j u (fun d hd => by simp [lc]) hj
      have := h3 _ d e1 _ u e2
      have hdm := Nat.div_add_mod j 3
      rwa [show off + j / 3 * 3 + j % 3 = off + j by omega] at this
theorem rl_list {W : World} : ∀ (xs : List C3), (∀ x ∈ xs, ∃ l, RL W x l) → ∃ ls : List Lv, xs.length = ls.length ∧ ∀ (i : Nat) x l, xs[i]? = some x → ls[i]? = some l → RL W x l
  | [], _ => ⟨[], rfl, fun i x l h => by simp at h⟩
  | x :: xs, h => by
    obtain ⟨l, hl⟩ := h x (by simp)
    obtain ⟨ls, h1, h2⟩ := rl_list xs (fun y hy => h y (by simp [hy]))
    refine ⟨l :: ls, by simp [h1], fun i y m e1 e2 => ?_⟩
    cases i with
    | zero => simp at e1 e2; subst e1 e2; exact hl
    | succ i => exact h2 i y m (by simpa using e1) (by simpa using e2)
theorem open_lvl : ∀ (fuel : Nat) (cs : List Value) (x : DataW H × List MemPlace), DataW.trod enc Try.prog w base spare held fuel 24 cs = some x → ∃ c, (∃ l, RL w c l) ∧ cs = lc c := by
  intro fuel
  induction fuel using Nat.strongRecOn with
  | ind fuel ih =>
    intro cs x h
    obtain ⟨xs, n, hfu, _, hl, hlen, hf⟩ := DataW.trod_struct Try.underlying24 h
    rw [cells24] at hl
    have h0 : DataW.trod enc Try.prog w base spare held n 3 ((cs.drop 0).take (Try.prog.cellsOf 3)) = xs[0]? := hf 0 _ rfl
    have h1 : DataW.trod enc Try.prog w base spare held n 3 ((cs.drop 1).take (Try.prog.cellsOf 3)) = xs[1]? := hf 1 _ rfl
    have h2 : DataW.trod enc Try.prog w base spare held n 22 ((cs.drop 2).take (Try.prog.cellsOf 22)) = xs[2]? := hf 2 _ rfl
    rw [cells3] at h0 h1
    rw [cells22] at h2
    rw [List.getElem?_eq_getElem (by rw [hlen]; decide)] at h0 h1 h2
    match cs, hl with
    | [c0, c1, c2], _ =>
      simp only [List.drop_zero, List.drop_succ_cons, List.take_succ_cons, List.take_zero] at h0 h1 h2
      obtain ⟨z0, e0, _, _⟩ := DataW.trod_int Try.underlying3 h0
      obtain ⟨z1, e1, _, _⟩ := DataW.trod_int Try.underlying3 h1
      obtain ⟨a, len, cap, e2, ys, hR, hg, _⟩ := open_lrow (fun c => ∃ l, RL w c l) (fun m hm cs' y hy => ih m (by omega) cs' y hy) h2
      simp only [List.cons.injEq, and_true] at e0 e1 e2
      subst e0 e1 e2
      obtain ⟨ls, g1, g2⟩ := rl_list ys hg
      exact ⟨(z0, z1, .slice a len cap), ⟨.mk z0 z1 ls, .mk hR g1 g2⟩, rfl⟩
end
end Go.Proofs.Ytaclncmkdpjnlaa
