/- Calls of one and two arguments, loops that count, regions that draw, in Sym's walk. No program is named here. -/
import Derived.Test.YtaclncmkdpjnlaaWords
import Derived.Deep.LoopGhost
namespace Go.Proofs.Ytaclncmkdpjnlaa
open Go.RowKit Go.Shelf
set_option linter.unusedVariables false
set_option linter.unusedSimpArgs false

section
variable {P : Program} {n d : Nat} {l : List (Nat × Value)} {w : World} {a : Act} {ops : Array Oper} {Q : Exit → Act → World → Prop} {C : World → Prop} {K : Act → Prop} {rest : List Oper} {ty : TypeId} {pos : String} {af : Array Edge} {f : FuncId} {ts : Array TypeId} {x y : Operand} {u1 u2 v : Value}

end

section
variable {P : Program} {Q : Exit → Act → World → Prop} {a : Act} {w : World} {c x y : Code} {K : Act → World → Prop} {n : Nat} {l : List (Nat × Value)}

/-- A loop that counts up to N. -/
theorem wp_up (N : Nat) (J : Nat → Act → World → Prop) (h0 : J 0 a w)
    (round : ∀ k a w, k ≤ N → J k a w → ∀ K : Act → World → Prop, (∀ a' w', k < N → J (k + 1) a' w' → K a' w') → c.wp P (Exit.then K Q) a w) : (Code.loop c).wp P Q a w := by
  refine wp_loop_ghost (fun m a w => m ≤ N ∧ J (N - m) a w) N ⟨Nat.le_refl _, by simpa using h0⟩ ?_
  rintro m a w ⟨hm, hJ⟩
  refine round (N - m) a w (by omega) hJ _ ?_
  intro a' w' hlt hJ'
  refine ⟨m - 1, by omega, by omega, ?_⟩
  rwa [show N - (m - 1) = N - m + 1 by omega]

/-- A region, then the rest. -/
theorem wp_rs {id : Nat} {l : List Oper} (h : ∀ K : Act → World → Prop, (∀ a w, y.wp P Q a w → K a w) → wpList P l.toArray (Exit.then K Q) l a w) : (Code.seq (.region id l.toArray false) y).wp P Q a w :=
  wp_seq_k fun K hK => wp_region_lit (h K hK)
/-- A condition that is known. -/
theorem wp_if {ds : List Deferred} {c : Operand} {b : Bool} (hF : Fs n a l (ds := ds)) (hc : ov l c = some (.bool b)) (h : (bif b then x else y).wp P Q a w) : (Code.cond c x y).wp P Q a w := by
  refine wp_cond (hF.ov hc) ?_
  cases b <;> exact h

/-- Both ways of a condition. -/
theorem wp_iff {ds : List Deferred} {c : Operand} {p : Prop} [Decidable p] (hF : Fs n a l (ds := ds)) (hc : ov l c = some (.bool (decide p))) (h1 : p → x.wp P Q a w) (h2 : ¬ p → y.wp P Q a w) : (Code.cond c x y).wp P Q a w := by
  refine wp_cond (hF.ov hc) ?_
  by_cases hp : p
  · simpa [hp] using h1 hp
  · simpa [hp] using h2 hp
theorem wp_ifb {ds : List Deferred} {c : Operand} {b : Bool} (hF : Fs n a l (ds := ds)) (hc : ov l c = some (.bool b)) (h1 : b = true → x.wp P Q a w) (h2 : b = false → y.wp P Q a w) : (Code.cond c x y).wp P Q a w := by
  refine wp_cond (hF.ov hc) ?_
  cases b
  · exact h2 rfl
  · exact h1 rfl

theorem drawn_below (w : World) : Below w.heap.size w { w with drawn := w.drawn + 1 } := (Below.refl _ _).drew
theorem Blk.drawn {b t : Nat} {cs : List Value} (h : Blk w b t cs) : Blk { w with drawn := w.drawn + 1 } b t cs := h
end
end Go.Proofs.Ytaclncmkdpjnlaa
