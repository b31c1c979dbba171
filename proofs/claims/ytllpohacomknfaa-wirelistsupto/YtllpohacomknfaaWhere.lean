/- An append that says where its answer lies; assizeref2.Put, PutInt: what else is kept. -/
import Derived.Test.YtllpohacomknfaaPutB
import Derived.Maps.AppendAt
namespace Go.Proofs.Ytllpohacomknfaa
open Go.RowKit
set_option linter.unusedVariables false
set_option linter.unusedSimpArgs false

section
variable {P : Program} (w : World)
/-- Behind an append the slice lies where it lay, or in the newest block. -/
theorem append_where (base : Nat) (t ty e : TypeId) (i : TypeInfo) (z : Value) (size bytes : Nat) (ht : P.underlying t = some (.slice e)) (hi : P.info? e = some i) (hz : i.zero = some z)
    (hsize : i.size = size) (hby : i.bytes = bytes) (v : Value) (n : Nat) (xs : List Value) (hown : w.ownsRow base e size v n xs)
    (a : Addr) (m c : Nat) (hm : 0 < m) (news : List Value) (hl : news.length = m * size) (hnews : ∀ j u, news[j]? = some u → w.cell? (a.add j) = some u) (h1 : ∀ u ∈ news, u.oneCell' = true)
    (h63 : n + m ≤ maxLen) (hbytes : (n + m) * bytes ≤ 140737488355328) {v' : Value} {w' : World} (hr : (Builtin.append_ #[t, t] ty #[v, .slice (some a) m c]).run P w = .ok v' w') :
    v'.ownBlock = v.ownBlock ∨ v'.ownBlock = some w.heap.size := by
  have hsmall : n + m ≤ 9223372036854775807 := by simp only [maxLen] at h63; omega
  subst hsize hby
  rcases hown.2 with ⟨rfl, rfl⟩ | ⟨g, cap, cur, rfl, _⟩
  · have h2 := run_append_nil (P := P) w t ty e i z ht hi hz a m c news hl hnews hm (by omega) (by simp only [Nat.zero_add] at hbytes; omega)
    rw [hr] at h2
    simp only [Result.ok.injEq] at h2
    exact .inr (by rw [h2.1]; rfl)
  · by_cases hroom : n + m ≤ cap
    · obtain ⟨w2, h2, _⟩ := run_append_fits (P := P) w base t ty e i i.size ht hi rfl g n cap xs hown a m c news hl hnews h1 hroom
      rw [hr] at h2
      simp only [Result.ok.injEq] at h2
      exact .inl (by rw [h2.1]; rfl)
    · have h2 := run_append_grow (P := P) w t ty e i z ht hi hz ⟨g, 0, none⟩ n cap xs hown.1 (hown.cells (g := g) rfl) a m c news hl hnews (by omega) (by omega) (growslice_fits (by omega) hbytes)
      rw [hr] at h2
      simp only [Result.ok.injEq] at h2
      exact .inr (by rw [h2.1]; rfl)
end

/-- Of what lay in w no block but v's own has turned. -/
structure Kept (v : Value) (w w' : World) : Prop where
  below : ∀ B, B ≤ w.heap.size → (∀ k, v.ownBlock = some k → B ≤ k) → Below B w w'
  block : ∀ k, k < w.heap.size → v.ownBlock ≠ some k → w'.heap[k]? = w.heap[k]?

theorem Kept.refl (v : Value) (w : World) : Kept v w w := ⟨fun B _ _ => Below.refl B w, fun _ _ _ => rfl⟩
theorem Kept.size {v : Value} {w w' : World} (h : Kept v w w') : w.heap.size ≤ w'.heap.size := (h.below 0 (Nat.zero_le _) (fun _ _ => Nat.zero_le _)).size
theorem Kept.of_grown {v : Value} {w w' : World} (h : w.grownBy w' v.ownBlock) : Kept v w w' :=
  ⟨fun B hB hv => (Below.refl B w).grown h hB hv, fun k hk hn => h.block k hk (fun e => hn e.symm)⟩
theorem Kept.trans {v u : Value} {w w1 w2 : World} (h : Kept v w w1) (k : Kept u w1 w2) (hu : u.ownBlock = v.ownBlock ∨ ∀ b, u.ownBlock = some b → w.heap.size ≤ b) : Kept v w w2 := by
  refine ⟨fun B hB hv => (h.below B hB hv).trans (k.below B (Nat.le_trans hB h.size) fun b hb => ?_), fun b hb hn => ?_⟩
  · rcases hu with e | e
    · exact hv b (e ▸ hb)
    · exact Nat.le_trans hB (e b hb)
  · refine (k.block b (Nat.lt_of_lt_of_le hb h.size) ?_).trans (h.block b hb hn)
    rcases hu with e | e
    · rw [e]; exact hn
    · intro e'; have := e b e'; omega
theorem Kept.alloc {v : Value} {w w1 : World} {o : Obj} (h : Kept v (w.alloc o) w1) (hv : ∀ k, v.ownBlock = some k → k < w.heap.size) : Kept v w w1 := by
  refine ⟨fun B hB hk => ((Below.refl B w).alloc hB o).trans (h.below B (by simp; omega) hk), fun k hk hn => (h.block k (by simp; omega) hn).trans (Below.heap_alloc _ _ _ hk)⟩
/-- A row of another block stays. -/
theorem row_kept {W W' : World} {u v : Value} {base e size n : Nat} {xs : List Value} (h : W.ownsRow base e size u n xs) (hk : Kept v W W') (hne : ∀ k, u.ownBlock = some k → v.ownBlock ≠ some k) : W'.ownsRow base e size u n xs := by
  refine ⟨h.1, ?_⟩
  rcases h.2 with h2 | ⟨g, cap, cur, rfl, hb, hh, r⟩
  · exact .inl h2
  · exact .inr ⟨g, cap, cur, rfl, hb, (hk.block g (Array.getElem?_eq_some_iff.1 hh).1 (hne g rfl)).trans hh, r⟩
theorem row_below {W W' : World} {u : Value} {base e size n : Nat} {xs : List Value} (h : W.ownsRow base e size u n xs) (hB : Below W.heap.size W W') : W'.ownsRow base e size u n xs := by
  refine ⟨h.1, ?_⟩
  rcases h.2 with h2 | ⟨g, cap, cur, rfl, hb, hh, r⟩
  · exact .inl h2
  · exact .inr ⟨g, cap, cur, rfl, hb, (hB.block g (Array.getElem?_eq_some_iff.1 hh).1).trans hh, r⟩

theorem row_base {W : World} {base base' e size n : Nat} {v : Value} {xs : List Value} (h : W.ownsRow base e size v n xs) (hb : base' ≤ base) : W.ownsRow base' e size v n xs := by
  refine ⟨h.1, ?_⟩
  rcases h.2 with h2 | ⟨g, cap, cur, rfl, hg, r⟩
  · exact .inl h2
  · exact .inr ⟨g, cap, cur, rfl, Nat.le_trans hb hg, r⟩

/-- An append of one cell, with the place. -/
theorem wpList_append_one {P : Program} (w : World) {W : World} {ops : Array Oper} {rest : List Oper} {o : Oper} {a : Act} {Q : Exit → Act → World → Prop} (hgd : o.guard = none) (s x : Operand) (t : TypeId)
    (ho : o.op = .call { callee := .builtin .append, args := #[s, x], argTypes := #[t, t] }) (base : Nat) (e : TypeId) (i : TypeInfo) (z : Value) (bytes : Nat) (ht : P.underlying t = some (.slice e)) (hi : P.info? e = some i) (hz : i.zero = some z)
    (hsize : i.size = 1) (hby : i.bytes = bytes) (hzs : z.cells.size = 1) (v : Value) (n : Nat) (xs : List Value) (hs : a.eval s = v) (hown : w.ownsRow base e 1 v n xs) (u : Value) (hW : W = w.alloc (.cells #[u] e)) (hu1 : u.oneCell' = true) (hx : a.eval x = .slice (some ⟨w.heap.size, 0, none⟩) 1 1)
    (h63 : n + 1 ≤ maxLen) (hbytes : (n + 1) * bytes ≤ 140737488355328) (hbase : base ≤ w.heap.size)
    (h : ∀ v' w', w'.ownsRow base e 1 v' (n + 1) (xs ++ [u]) → Kept v w w' → (v'.ownBlock = v.ownBlock ∨ ∀ b, v'.ownBlock = some b → w.heap.size ≤ b) → wpList P ops Q rest (a.put o.dst v') w') :
    wpList P ops Q (o :: rest) a W := by
  subst hW
  have hc : ∀ j x', [u][j]? = some x' → (w.alloc (.cells #[u] e)).cell? ((⟨w.heap.size, 0, none⟩ : Addr).add j) = some x' := by
    intro j x' hj
    match j, hj with
    | 0, hj => simp at hj; subst hj; simp [Addr.add]
  have hv : ∀ k, v.ownBlock = some k → k < w.heap.size := fun k hk => (hown.lt k hk).2
  refine wpList_plain hgd fun K hK => ?_
  obtain ⟨v', w', hrun, r1, r2, _⟩ := run_append_own (P := P) (w.alloc (.cells #[u] e)) base t o.type e i z 1 bytes ht hi hz hsize hby hzs (by decide) v n xs (hown.alloc _) ⟨w.heap.size, 0, none⟩ 1 1 [u] rfl hc (by simpa using hu1) h63 hbytes (by simp; omega)
  have hwh := append_where (P := P) (w.alloc (.cells #[u] e)) base t o.type e i z 1 bytes ht hi hz hsize hby v n xs (hown.alloc _) ⟨w.heap.size, 0, none⟩ 1 1 (by decide) [u] rfl hc (by simpa using hu1) h63 hbytes hrun
  unfold Oper.wp
  simp [execOp, ho, resolve, invoke, builtin, hs, hx, hrun, Result.andThen]
  refine hK _ _ (h v' w' r1 ((Kept.of_grown r2).alloc hv) (hwh.imp id fun e' b hb => ?_))
  rw [e'] at hb
  simp at hb
  omega
end Go.Proofs.Ytllpohacomknfaa
