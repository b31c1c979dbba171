/- Levels whose memory is known to lie in some blocks; rows of levels; a form as a level. -/
import Derived.Test.YtaclncmkdpjnlaaLev5
namespace Go.Proofs.Ytaclncmkdpjnlaa
open Go.RowKit Go.Shelf
set_option linter.unusedVariables false
set_option linter.unusedSimpArgs false

/-- x reads as s, and its memory lies in blocks of A alone. -/
def RSn (W : World) (A : Nat → Prop) : SL → C3 → Prop
  | .num n, x => x.1 = 1 ∧ x.2.1 = (n : Int) ∧ Rd W x.2.2 3 0 []
  | .var i, x => x.1 = 2 ∧ x.2.1 = (i : Int) ∧ Rd W x.2.2 3 0 []
  | .succ n a, x => x.1 = 3 ∧ x.2.1 = (n : Int) ∧ ∃ y, Rd W x.2.2 3 1 (lc y) ∧ (∀ j, x.2.2.ownBlock = some j → A j) ∧ RSn W A a y
  | .mx a b, x => x.1 = 4 ∧ ∃ y z, Rd W x.2.2 3 2 (lc y ++ lc z) ∧ (∀ j, x.2.2.ownBlock = some j → A j) ∧ RSn W A a y ∧ RSn W A b z
section
variable {W W' : World} {A B : Nat → Prop}
theorem RSn.rs : ∀ {s : SL} {x : C3}, RSn W A s x → RS W s x
  | .num _, _, h => h
  | .var _, _, h => h
  | .succ _ _, _, ⟨h1, h2, y, h3, _, h5⟩ => ⟨h1, h2, y, h3, RSn.rs h5⟩
  | .mx _ _, _, ⟨h1, y, z, h3, _, h5, h6⟩ => ⟨h1, y, z, h3, RSn.rs h5, RSn.rs h6⟩
theorem RS.n : ∀ {s : SL} {x : C3}, RS W s x → RSn W (fun k => k < W.heap.size) s x
  | .num _, _, h => h
  | .var _, _, h => h
  | .succ _ _, _, ⟨h1, h2, y, h3, h5⟩ => ⟨h1, h2, y, h3, fun j hj => h3.lt (by decide) hj, RS.n h5⟩
  | .mx _ _, _, ⟨h1, y, z, h3, h5, h6⟩ => ⟨h1, y, z, h3, fun j hj => h3.lt (by decide) hj, RS.n h5, RS.n h6⟩
theorem RSn.mono (h : ∀ k, A k → B k) : ∀ {s : SL} {x : C3}, RSn W A s x → RSn W B s x
  | .num _, _, h => h
  | .var _, _, h => h
  | .succ _ _, _, ⟨h1, h2, y, h3, h4, h5⟩ => ⟨h1, h2, y, h3, fun j hj => h j (h4 j hj), RSn.mono h h5⟩
  | .mx _ _, _, ⟨h1, y, z, h3, h4, h5, h6⟩ => ⟨h1, y, z, h3, fun j hj => h j (h4 j hj), RSn.mono h h5, RSn.mono h h6⟩
theorem RSn.valid : ∀ {s : SL} {x : C3}, RSn W A s x → RSn W (fun k => A k ∧ k < W.heap.size) s x
  | .num _, _, h => h
  | .var _, _, h => h
  | .succ _ _, _, ⟨h1, h2, y, h3, h4, h5⟩ => ⟨h1, h2, y, h3, fun j hj => ⟨h4 j hj, h3.lt (by decide) hj⟩, RSn.valid h5⟩
  | .mx _ _, _, ⟨h1, y, z, h3, h4, h5, h6⟩ => ⟨h1, y, z, h3, fun j hj => ⟨h4 j hj, h3.lt (by decide) hj⟩, RSn.valid h5, RSn.valid h6⟩
theorem rd0_any {v : Value} {cs : List Value} (h : Rd W v 3 0 cs) : Rd W' v 3 0 cs := by
  refine ⟨h.1, ?_⟩
  obtain ⟨a, c, rfl, _, h0⟩ := h.form
  exact .inl ⟨a, c, rfl, rfl, h0⟩
theorem RSn.keep (hs : W.heap.size ≤ W'.heap.size) (hk : ∀ k, A k → k < W.heap.size → W'.heap[k]? = W.heap[k]?) : ∀ {s : SL} {x : C3}, RSn W A s x → RSn W' A s x
  | .num _, _, ⟨h1, h2, h3⟩ => ⟨h1, h2, rd0_any h3⟩
  | .var _, _, ⟨h1, h2, h3⟩ => ⟨h1, h2, rd0_any h3⟩
  | .succ _ _, _, ⟨h1, h2, y, h3, h4, h5⟩ => ⟨h1, h2, y, h3.keep hs (fun b hb hl => hk b (h4 b hb) hl), h4, RSn.keep hs hk h5⟩
  | .mx _ _, _, ⟨h1, y, z, h3, h4, h5, h6⟩ => ⟨h1, y, z, h3.keep hs (fun b hb hl => hk b (h4 b hb) hl), h4, RSn.keep hs hk h5, RSn.keep hs hk h6⟩
theorem RSn.below {s : SL} {x : C3} (h : RSn W A s x) (hB : Below W.heap.size W W') : RSn W' A s x := RSn.keep hB.size (fun k _ hk => hB.block k hk) h
theorem RSn.only {s : SL} {x : C3} {c : Nat} (h : RSn W A s x) (o : Only c W W') (hc : ∀ k, A k → k ≠ c) : RSn W' A s x := RSn.keep (Nat.le_of_eq o.size.symm) (fun k ha _ => o.block k (hc k ha)) h
theorem RSn.k2 {s : SL} {x : C3} {a b : Nat} (h : RSn W A s x) (hK : Ktw a b W W') (hc : ∀ k, A k → k ≠ a ∧ k ≠ b) : RSn W' A s x := RSn.keep hK.size (fun k ha hk => hK.block k hk (hc k ha)) h
end
/-- Rows of levels. -/
def PL (W : World) (A : Nat → Prop) (zs : List C3) (ps : List SL) : Prop := zs.length = ps.length ∧ ∀ (j : Nat) z p, zs[j]? = some z → ps[j]? = some p → RSn W A p z
section
variable {W W' : World} {A B : Nat → Prop} {zs : List C3} {ps : List SL}
theorem PL.nil : PL W A [] [] := ⟨rfl, fun j z p h => by simp at h⟩
theorem PL.mono (h : PL W A zs ps) (hm : ∀ k, A k → B k) : PL W B zs ps := ⟨h.1, fun j z p h1 h2 => (h.2 j z p h1 h2).mono hm⟩
theorem PL.valid (h : PL W A zs ps) : PL W (fun k => A k ∧ k < W.heap.size) zs ps := ⟨h.1, fun j z p h1 h2 => (h.2 j z p h1 h2).valid⟩
theorem PL.keep (h : PL W A zs ps) (hs : W.heap.size ≤ W'.heap.size) (hk : ∀ k, A k → k < W.heap.size → W'.heap[k]? = W.heap[k]?) : PL W' A zs ps := ⟨h.1, fun j z p h1 h2 => RSn.keep hs hk (h.2 j z p h1 h2)⟩
theorem PL.below (h : PL W A zs ps) (hB : Below W.heap.size W W') : PL W' A zs ps := h.keep hB.size fun k _ hk => hB.block k hk
theorem PL.only {c : Nat} (h : PL W A zs ps) (o : Only c W W') (hc : ∀ k, A k → k ≠ c) : PL W' A zs ps := h.keep (Nat.le_of_eq o.size.symm) fun k ha _ => o.block k (hc k ha)
theorem PL.k2 {a b : Nat} (h : PL W A zs ps) (hK : Ktw a b W W') (hc : ∀ k, A k → k ≠ a ∧ k ≠ b) : PL W' A zs ps := h.keep hK.size fun k ha hk => hK.block k hk (hc k ha)
theorem PL.snoc {z : C3} {p : SL} (h : PL W A zs ps) (hz : RSn W A p z) : PL W A (zs ++ [z]) (ps ++ [p]) := by
  refine ⟨by simp [h.1], fun j z' p' h1 h2 => ?_⟩
  have hl := h.1
  rw [List.getElem?_append] at h1 h2
  by_cases hj : j < zs.length
  · rw [if_pos hj] at h1
    rw [if_pos (by omega)] at h2
    exact h.2 j z' p' h1 h2
  · rw [if_neg hj] at h1
    rw [if_neg (by omega)] at h2
    have e : j - zs.length = 0 := by
      have := (List.getElem?_eq_some_iff.1 h1).1
      simp at this
      omega
    rw [e] at h1
    rw [← hl, e] at h2
    simp at h1 h2
    subst h1 h2
    exact hz
theorem PL.at {j : Nat} {z : C3} (h : PL W A zs ps) (hz : zs[j]? = some z) : ∃ p, ps[j]? = some p ∧ RSn W A p z := by
  have hj := (List.getElem?_eq_some_iff.1 hz).1
  have hl := h.1
  exact ⟨ps[j]'(by omega), List.getElem?_eq_getElem (by omega), h.2 j z _ hz (List.getElem?_eq_getElem (by omega))⟩
end
theorem fm3_app (xs : List C3) (y : C3) : (xs ++ [y]).flatMap lc = xs.flatMap lc ++ lc y := by simp

/-! ### A form as a level -/
def part1 (i : Nat) (k : Int) : List SL := if k < 0 then [] else if k = 0 then [.var i] else [.succ k.toNat (.var i)]
def pts (c : Int) (ks : List Int) : Nat → List SL
  | 0 => if c ≠ 0 ∨ ks = [] then [.num c.toNat] else []
  | i + 1 => pts c ks i ++ part1 i (gt ks i)
def levF (c : Int) (ks : List Int) : SL := match pts c ks ks.length with
  | [] => .num 0
  | p :: ps => ps.foldl .mx p
end Go.Proofs.Ytaclncmkdpjnlaa
