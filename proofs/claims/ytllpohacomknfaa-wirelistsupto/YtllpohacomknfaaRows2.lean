/- Slices of slices; rows of the call's own. -/
import Derived.Test.YtllpohacomknfaaLists
import Derived.Test.YtllpohacomknfaaPutK
namespace Go.Proofs.Ytllpohacomknfaa
open Go.RowKit
set_option linter.unusedVariables false
set_option linter.unusedSimpArgs false

theorem info22 : (Try.prog.info? 22).map (fun i => (i.zero, i.size, i.bytes)) = some (some (.slice none 0 0), 1, 24) := by kernel_rfl

/-- Each of the values is a row of the call's own that reads as bytes. -/
def RO (W : World) (base : Nat) (vals : List Value) (ls : List (List UInt8)) : Prop :=
  vals.length = ls.length ∧ ∀ (i : Nat) v l, vals[i]? = some v → ls[i]? = some l → W.ownsRow base 5 1 v l.length (l.map encU)

theorem RO.nil (W : World) (base : Nat) : RO W base [] [] := ⟨rfl, fun i v l h => by simp at h⟩

theorem RO.snoc {W : World} {base : Nat} {vals : List Value} {ls : List (List UInt8)} {v : Value} {l : List UInt8} (h : RO W base vals ls) (hv : W.ownsRow base 5 1 v l.length (l.map encU)) : RO W base (vals ++ [v]) (ls ++ [l]) := by
  refine ⟨by simp [h.1], fun i u m hu hm => ?_⟩
  by_cases hi : i < vals.length
  · rw [List.getElem?_append_left hi] at hu
    rw [List.getElem?_append_left (by rw [← h.1]; exact hi)] at hm
    exact h.2 i u m hu hm
  · rw [List.getElem?_append_right (by omega)] at hu
    rw [List.getElem?_append_right (by rw [← h.1]; omega), ← h.1] at hm
    rcases Nat.eq_zero_or_pos (i - vals.length) with h0 | h0
    · rw [h0] at hu hm
      simp at hu hm
      subst hu hm
      exact hv
    · rw [List.getElem?_eq_none (by simp; omega)] at hu
      cases hu

theorem RO.below {W W' : World} {base : Nat} {vals : List Value} {ls : List (List UInt8)} (h : RO W base vals ls) (hB : Below W.heap.size W W') : RO W' base vals ls :=
  ⟨h.1, fun i v l hv hl => row_below (h.2 i v l hv hl) hB⟩
theorem RO.base {W : World} {base base' : Nat} {vals : List Value} {ls : List (List UInt8)} (h : RO W base vals ls) (hb : base' ≤ base) : RO W base' vals ls :=
  ⟨h.1, fun i v l hv hl => row_base (h.2 i v l hv hl) hb⟩

/-- Rows of different kinds lie apart. -/
theorem kinds_apart {W : World} {u v : Value} {b b' e e' s s' n n' : Nat} {xs ys : List Value} (h : W.ownsRow b e s u n xs) (k : W.ownsRow b' e' s' v n' ys) (hne : e ≠ e') : ∀ j, u.ownBlock = some j → v.ownBlock ≠ some j := by
  intro j hj e1
  rcases h.2 with ⟨rfl, _⟩ | ⟨g, cap, cur, rfl, _, hh, _⟩
  · simp [Value.ownBlock] at hj
  rcases k.2 with ⟨rfl, _⟩ | ⟨g', cap', cur', rfl, _, hh', _⟩
  · simp [Value.ownBlock] at e1
  simp [Value.ownBlock] at hj e1
  subst hj e1
  rw [hh] at hh'
  simp at hh'
  exact hne hh'.2

theorem RO.kept {W W' : World} {base : Nat} {vals : List Value} {ls : List (List UInt8)} {v : Value} {b n : Nat} {ys : List Value} (h : RO W base vals ls) (hv : W.ownsRow b 22 1 v n ys) (hk : Kept v W W') : RO W' base vals ls :=
  ⟨h.1, fun i u l hu hl => row_kept (h.2 i u l hu hl) hk (kinds_apart (h.2 i u l hu hl) hv (by decide))⟩

/-- The slice v holds the values. -/
def RV (W : World) (v : Value) (vals : List Value) : Prop :=
  (∃ a c, v = .slice a 0 c ∧ vals = [] ∧ (a = none → c = 0)) ∨
  ∃ b off cap, v = .slice (some ⟨b, off, none⟩) vals.length cap ∧ vals.length ≤ cap ∧ ∀ j u, vals[j]? = some u → W.cell? ⟨b, off + j, none⟩ = some u

theorem RV.form {W : World} {v : Value} {vals : List Value} (h : RV W v vals) : ∃ a c, v = .slice a vals.length c ∧ vals.length ≤ c ∧ (a = none → c = 0) := by
  rcases h with ⟨a, c, rfl, rfl, h⟩ | ⟨b, off, cap, rfl, h, _⟩
  · exact ⟨a, c, rfl, Nat.zero_le _, h⟩
  · exact ⟨_, cap, rfl, h, by simp⟩
theorem RV.below {W W' : World} {v : Value} {vals : List Value} (h : RV W v vals) (hB : Below W.heap.size W W') : RV W' v vals := by
  rcases h with h | ⟨b, off, cap, rfl, h1, h2⟩
  · exact .inl h
  · refine .inr ⟨b, off, cap, rfl, h1, fun j u hj => ?_⟩
    have hc := h2 j u hj
    exact (hB.cell (p := ⟨b, off + j, none⟩) (cells_block hc)).trans hc
theorem RV.of_row {W : World} {base e : Nat} {v : Value} {vals : List Value} (h : W.ownsRow base e 1 v vals.length vals) : RV W v vals := by
  rcases h.2 with ⟨rfl, h0⟩ | ⟨g, cap, cur, rfl, hg, hh, h1, h2, h3, h4⟩
  · exact .inl ⟨_, _, rfl, List.eq_nil_of_length_eq_zero h0, fun _ => rfl⟩
  · refine .inr ⟨g, 0, cap, rfl, h1, fun j u hj => ?_⟩
    have := h.cells (g := g) rfl j u hj
    rwa [addr_add] at this

/-- The values read as rows of bytes. -/
def RL (W : World) (vals : List Value) (ls : List (List UInt8)) : Prop := vals.length = ls.length ∧ ∀ (i : Nat) v l, vals[i]? = some v → ls[i]? = some l → RB W v l
theorem RL.below {W W' : World} {vals : List Value} {ls : List (List UInt8)} (h : RL W vals ls) (hB : Below W.heap.size W W') : RL W' vals ls := ⟨h.1, fun i v l hv hl => (h.2 i v l hv hl).below hB⟩
theorem RO.reads {W : World} {base : Nat} {vals : List Value} {ls : List (List UInt8)} (h : RO W base vals ls) : RL W vals ls := ⟨h.1, fun i v l hv hl => RB.of_row (h.2 i v l hv hl)⟩

/-- What is left of bytes from a place on, as the model has its address. -/
theorem RB.from {W : World} {a : Option Addr} {c : Nat} {bs : List UInt8} (h : RB W (.slice a bs.length c) bs) {k : Nat} (hk : k ≤ bs.length) (c' : Nat) (hc' : c' = c - k) (a' : Option Addr) (ha : c ≠ k → a' = a.map (·.add k)) (hn : a' = none → c' = 0) : RB W (.slice a' (bs.length - k) c') (bs.drop k) := by
  have := h.piece (k := k) (n := bs.length - k) (by omega) c' hc' a' ha hn
  rwa [List.take_of_length_le (by simp)] at this

/-- What a call that tells rows, a count and an error leaves. -/
def GivesL (r : List (List UInt8) × Nat × Nat) (w : World) (e : Ending) (w' : World) : Prop :=
  ∃ v vals, e = .returned (.tuple #[v, .int .i64 (r.2.1 : Int), .int .i64 (r.2.2 : Int)]) ∧ w'.ownsRow w.heap.size 22 1 v vals.length vals ∧ RO w' w.heap.size vals r.1 ∧ Below w.heap.size w w'
theorem GivesL.none (k e : Nat) {w w' : World} (hB : Below w.heap.size w w') : GivesL ([], k, e) w (.returned (.tuple #[.slice none 0 0, .int .i64 (k : Int), .int .i64 (e : Int)])) w' :=
  ⟨_, [], rfl, World.ownsRow_nil _ _ _ _, RO.nil _ _, hB⟩

/-- One row more. -/
theorem rows_more {w wr w1 w2 : World} {vals : List Value} {acc : List (List UInt8)} {o : List UInt8} {v xv v' : Value} (hB : Below w.heap.size w wr) (hrow : wr.ownsRow w.heap.size 22 1 v vals.length vals) (hro : RO wr w.heap.size vals acc)
    (hx : w1.ownsRow wr.heap.size 5 1 xv o.length (o.map encU)) (hB1 : Below wr.heap.size wr w1) (hrow' : w2.ownsRow w.heap.size 22 1 v' (vals.length + 1) (vals ++ [xv])) (hk : Kept v w1 w2) :
    Below w.heap.size w w2 ∧ w2.ownsRow w.heap.size 22 1 v' (vals ++ [xv]).length (vals ++ [xv]) ∧ RO w2 w.heap.size (vals ++ [xv]) (acc ++ [o]) := by
  have hrow1 := row_below hrow hB1
  have hBw1 : Below w.heap.size w w1 := hB.trans (hB1.mono hB.size)
  refine ⟨hBw1.trans (hk.below w.heap.size hBw1.size (fun k hk => (hrow1.lt k hk).1)), by simpa using hrow', ?_⟩
  refine RO.snoc ((hro.below hB1).kept hrow1 hk) ?_
  exact row_kept (row_base hx hB.size) hk (kinds_apart hx hrow1 (by decide))
end Go.Proofs.Ytllpohacomknfaa
