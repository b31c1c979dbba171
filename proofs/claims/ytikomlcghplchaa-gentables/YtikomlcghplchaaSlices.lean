/- Slices: an append that says where its answer lies; what a loop that collects keeps. No program is named here. -/
import Derived.Test.YtikomlcghplchaaSeq
import Derived.Maps.AppendAt
namespace Go.Proofs.Ytikomlcghplchaa
open Go.RowKit Go.Shelf
set_option linter.unusedVariables false
set_option linter.unusedSimpArgs false

section
variable {P : Program} (w : World)
/-- Behind an append the slice lies where it lay, or in the newest block. -/
theorem append_where (base : Nat) (t ty e : TypeId) (i : TypeInfo) (z : Value) (size bytes : Nat) (ht : P.underlying t = some (.slice e)) (hi : P.info? e = some i) (hz : i.zero = some z)
    (hsize : i.size = size) (hby : i.bytes = bytes) (v : Value) (n : Nat) (xs : List Value) (hown : w.ownsRow base e size v n xs)
    (a : Addr) (m c : Nat) (hm : 0 < m) (news : List Value) (hl : news.length = m * size) (hnews : ∀ j u, news[j]? = some u → w.cell? (a.add j) = some u) (h1 : ∀ u ∈ news, u.oneCell' = true)
    (h63 : n + m ≤ maxLen) (hbytes : (n + m) * bytes ≤ 140737488355328) {v' : Value} {w' : World} (hr : (Builtin.append_ #[t, t] ty #[v, .slice (some a) m c]).run P w = .ok v' w') :
    v'.ownBlock = v.ownBlock ∨ v'.ownBlock = some w.heap.size := by
  have hsmall : n + m ≤ 9223372036854775807 := by simp only [maxLen] at h63; omega
  subst hsize hby
  rcases hown.2 with ⟨rfl, rfl⟩ | ⟨g, cap, cur, rfl, _⟩
  · have h2 := run_append_nil (P := P) w t ty e i z ht hi hz a m c news hl hnews hm (by omega) (by simp only [Nat.zero_add] at hbytes; omega)
    rw [hr] at h2
    simp only [Result.ok.injEq] at h2
    exact .inr (by rw [h2.1]; rfl)
  · by_cases hroom : n + m ≤ cap
    · obtain ⟨w2, h2, _⟩ := run_append_fits (P := P) w base t ty e i i.size ht hi rfl g n cap xs hown a m c news hl hnews h1 hroom
      rw [hr] at h2
      simp only [Result.ok.injEq] at h2
      exact .inl (by rw [h2.1]; rfl)
    · have h2 := run_append_grow (P := P) w t ty e i z ht hi hz ⟨g, 0, none⟩ n cap xs hown.1 (hown.cells (g := g) rfl) a m c news hl hnews (by omega) (by omega) (growslice_fits (by omega) hbytes)
      rw [hr] at h2
      simp only [Result.ok.injEq] at h2
      exact .inr (by rw [h2.1]; rfl)
end

theorem wpListIn_append_w {F : Fence} {n : Nat} {P : Program} (w : World) {ops : Array Oper} {rest : List Oper} {o : Oper} {a : Act} {Q : Exit → Act → World → Prop}
    (hg : o.guard = none) (s x : Operand) (t : TypeId) (hop : o.op = Op.call { callee := Callee.builtin Builtin.append, args := #[s, x], argTypes := #[t, t] })
    (base : Nat) (e : TypeId) (i : TypeInfo) (z : Value) (size bytes : Nat) (h1 : P.underlying t = some (.slice e)) (h2 : P.info? e = some i) (h3 : i.zero = some z) (h4 : i.size = size) (h5 : i.bytes = bytes) (h6 : z.cells.size = size) (h7 : 0 < size)
    (v : Value) (k : Nat) (xs : List Value) (hs : a.eval s = v) (hown : w.ownsRow base e size v k xs) (ad : Addr) (m c : Nat) (hm : 0 < m) (news : List Value) (hx : a.eval x = .slice (some ad) m c) (hn : news.length = m * size)
    (hc : ∀ j u, news[j]? = some u → w.cell? (ad.add j) = some u) (h1c : ∀ u ∈ news, u.oneCell' = true) (b1 : k + m ≤ maxLen) (b2 : (k + m) * bytes ≤ 140737488355328) (b3 : base ≤ w.heap.size)
    (hK : ∀ v' w', w'.ownsRow base e size v' (k + m) (xs ++ news) → w.grownBy w' v.ownBlock → (v'.ownBlock = v.ownBlock ∨ v'.ownBlock = some w.heap.size) → wpListIn F n P ops Q rest (a.put o.dst v') w') :
    wpListIn F n P ops Q (o :: rest) a w := by
  refine wpListIn_plain hg fun K hK' => ?_
  obtain ⟨v', w', hrun, r1, r2, _⟩ := run_append_own (P := P) w base t o.type e i z size bytes h1 h2 h3 h4 h5 h6 h7 v k xs hown ad m c news hn hc h1c b1 b2 b3
  have hwh := append_where w base t o.type e i z size bytes h1 h2 h3 h4 h5 v k xs hown ad m c hm news hn hc h1c b1 b2 hrun
  refine ⟨?_, ?_⟩
  · simp [Oper.about, hop, resolve, Target.leads, Sem.run_pure]
  · rw [Oper.semAt_plain F _ _ (by rw [hop]; intro c hc'; cases hc')]
    simp [execOp, hop, resolve, invoke, builtin, hs, hx, hrun, Result.andThen]
    exact hK' _ _ (hK v' w' r1 r2 hwh)

/-- What a loop that collects into the variable at B keeps. -/
def CollI {α : Type} (B TS e sz : Nat) (encs : α → List Value) (q : List α) (H : Nat → Prop) (W : World) : Prop :=
  ∃ v, H = (fun k => k = B ∨ v.ownBlock = some k) ∧ Boxed W B TS v ∧ W.ownsRow B e sz v q.length (q.flatMap encs)

theorem row_only {H : Nat → Prop} {W W' : World} {base e size n : Nat} {v : Value} {xs : List Value} (h : W.ownsRow base e size v n xs) (ho : Only H W W') (hH : ∀ k, v.ownBlock = some k → ¬ H k) : W'.ownsRow base e size v n xs := by
  refine ⟨h.1, ?_⟩
  rcases h.2 with h2 | ⟨g, cap, cur, rfl, hb, hh, r⟩
  · exact .inl h2
  · exact .inr ⟨g, cap, cur, rfl, hb, (ho.block g (Array.getElem?_eq_some_iff.1 hh).1 (hH g rfl)).trans hh, r⟩

theorem CollI.inv {α : Type} (X B TS e sz : Nat) (encs : α → List Value) : Inv X (CollI B TS e sz encs) := by
  constructor
  · rintro s H W W' ⟨v, rfl, hb, hr⟩ ho
    exact ⟨v, rfl, ho.boxH hb (.inl rfl), row_only hr ho (fun k hk e => e.2 (.inr hk))⟩
  · rintro s H W ⟨v, rfl, hb, hr⟩ b (rfl | h)
    · exact hb.lt
    · exact (hr.lt b h).2

theorem CollI.step {α : Type} {B TS e sz : Nat} {encs : α → List Value} {q : List α} {x : α} {v v' : Value} {W w1 : World} {tmp : Obj} (hte : TS ≠ e) (hv : Boxed W B TS v) (hrow : W.ownsRow B e sz v q.length (q.flatMap encs))
    (hown' : w1.ownsRow B e sz v' (q.length + 1) (q.flatMap encs ++ encs x)) (hgrow : (W.alloc tmp).grownBy w1 v.ownBlock) (hwh : v'.ownBlock = v.ownBlock ∨ v'.ownBlock = some (W.alloc tmp).heap.size) :
    Boxed w1 B TS v ∧ ∃ H', Grows (fun k => k = B ∨ v.ownBlock = some k) W H' ∧ Only (fun k => k = B ∨ v.ownBlock = some k) W (w1.setCell ⟨B, 0, none⟩ v') ∧ CollI B TS e sz encs (q ++ [x]) H' (w1.setCell ⟨B, 0, none⟩ v') := by
  have hlt := hv.lt
  obtain ⟨hv1, hv2, hr2, _, _⟩ := hv.appended hte hrow (by omega) (Nat.le_refl _) hown' hgrow
  refine ⟨hv1, fun k => k = B ∨ v'.ownBlock = some k, ?_, ?_, v', rfl, hv2, ?_⟩
  · rintro k (hk | hk)
    · exact .inl (.inl hk)
    · rcases hwh with h | h
      · exact .inl (.inr (h ▸ hk))
      · rw [h] at hk; simp only [Option.some.injEq] at hk; exact .inr (by simp at hk; omega)
  · refine ((Only.alloc _ W tmp).trans (Only.of_grownBy (H := fun k => k = B ∨ v.ownBlock = some k) hgrow fun k hk => .inr hk) (Grows.refl _ _)).trans (Only.setCell (H := fun k => k = B ∨ v.ownBlock = some k) (a := ⟨B, 0, none⟩) (.inl (.inl rfl)) _) ?_
    intro k hk; exact .inl hk
  · simpa using hr2

theorem row_base {W : World} {base base' e size n : Nat} {v : Value} {xs : List Value} (h : W.ownsRow base e size v n xs) (hb : base' ≤ base) : W.ownsRow base' e size v n xs := by
  refine ⟨h.1, ?_⟩
  rcases h.2 with h2 | ⟨g, cap, cur, rfl, hg, r⟩
  · exact .inl h2
  · exact .inr ⟨g, cap, cur, rfl, Nat.le_trans hb hg, r⟩
end Go.Proofs.Ytikomlcghplchaa
