/- Calls of one and two arguments, loops that count, regions that draw, in Sym's walk. No program is named here. -/
import Derived.Test.YtgpciphjhnabcaaWords
import Derived.Deep.LoopGhost
namespace Go.Proofs.Ytgpciphjhnabcaa
open Go.RowKit Go.Shelf
set_option linter.unusedVariables false
set_option linter.unusedSimpArgs false

section
variable {P : Program} {n d : Nat} {l : List (Nat × Value)} {w : World} {a : Act} {ops : Array Oper} {Q : Exit → Act → World → Prop} {C : World → Prop} {K : Act → Prop} {rest : List Oper} {ty : TypeId} {pos : String} {af : Array Edge} {f : FuncId} {ts : Array TypeId} {x y : Operand} {u1 u2 v : Value}

theorem s_call0 {ds : List Deferred} (hF : Fs n a l (ds := ds)) {R : Value → World → Prop} (hent : Enters P f) (hd : d < n) (hC : Calls P f #[] w fun e w' => ∃ v, e = .returned v ∧ R v w')
    (h : ∀ v w' a', R v w' → Fs n a' ((d, v) :: l) (ds := ds) → wpList P ops Q rest a' w') : wpList P ops Q (⟨some d, .call { callee := .value (.func f), args := #[], argTypes := ts }, ty, pos, af, none⟩ :: rest) a w :=
  s_call (xs := []) hF [] hent rfl hd hC h
theorem s_call1 {ds : List Deferred} (hF : Fs n a l (ds := ds)) {R : Value → World → Prop} (hent : Enters P f) (hx : ov l x = some u1) (hd : d < n) (hC : Calls P f #[u1] w fun e w' => ∃ v, e = .returned v ∧ R v w')
    (h : ∀ v w' a', R v w' → Fs n a' ((d, v) :: l) (ds := ds) → wpList P ops Q rest a' w') : wpList P ops Q (⟨some d, .call { callee := .value (.func f), args := #[x], argTypes := ts }, ty, pos, af, none⟩ :: rest) a w :=
  s_call (xs := [x]) hF [u1] hent (by simp [hx]) hd hC h
theorem s_call2 {ds : List Deferred} (hF : Fs n a l (ds := ds)) {R : Value → World → Prop} (hent : Enters P f) (hx : ov l x = some u1) (hy : ov l y = some u2) (hd : d < n) (hC : Calls P f #[u1, u2] w fun e w' => ∃ v, e = .returned v ∧ R v w')
    (h : ∀ v w' a', R v w' → Fs n a' ((d, v) :: l) (ds := ds) → wpList P ops Q rest a' w') : wpList P ops Q (⟨some d, .call { callee := .value (.func f), args := #[x, y], argTypes := ts }, ty, pos, af, none⟩ :: rest) a w :=
  s_call (xs := [x, y]) hF [u1, u2] hent (by simp [hx, hy]) hd hC h
/-- A call that tells v and leaves the world. -/
theorem s_same2 {ds : List Deferred} (hF : Fs n a l (ds := ds)) (hent : Enters P f) (hx : ov l x = some u1) (hy : ov l y = some u2) (hd : d < n) (hC : Calls P f #[u1, u2] w fun e w' => e = .returned v ∧ w' = w)
    (h : ∀ a', Fs n a' ((d, v) :: l) (ds := ds) → wpList P ops Q rest a' w) : wpList P ops Q (⟨some d, .call { callee := .value (.func f), args := #[x, y], argTypes := ts }, ty, pos, af, none⟩ :: rest) a w :=
  s_call2 (R := fun u w' => u = v ∧ w' = w) hF hent hx hy hd (hC.mono fun e w' he => ⟨v, he.1, rfl, he.2⟩) (by rintro _ _ a' ⟨rfl, rfl⟩ hF'; exact h a' hF')
theorem t_same2 {ds : List Deferred} (hF : Fs n a l (ds := ds)) (hent : Enters P f) (hx : ov l x = some u1) (hy : ov l y = some u2) (hd : d < n) (hC : Calls P f #[u1, u2] w fun e w' => e = .returned v ∧ w' = w)
    (h : ∀ a', Fs n a' ((d, v) :: l) (ds := ds) → wpStill P ops w K rest a') : wpStill P ops w K (⟨some d, .call { callee := .value (.func f), args := #[x, y], argTypes := ts }, ty, pos, af, none⟩ :: rest) a :=
  t_call (xs := [x, y]) hF [u1, u2] v hent (by simp [hx, hy]) hd hC h
theorem q_call0 {ds : List Deferred} (hF : Fs n a l (ds := ds)) (hent : Enters P f) (hd : d < n) (hC : ∀ w, C w → Calls P f #[] w fun e w' => e = .returned v ∧ C w')
    (h : ∀ a', Fs n a' ((d, v) :: l) (ds := ds) → wpQuiet P ops C K rest a') : wpQuiet P ops C K (⟨some d, .call { callee := .value (.func f), args := #[], argTypes := ts }, ty, pos, af, none⟩ :: rest) a :=
  q_call (xs := []) hF [] v hent rfl hd hC h
theorem q_call1 {ds : List Deferred} (hF : Fs n a l (ds := ds)) (hent : Enters P f) (hx : ov l x = some u1) (hd : d < n) (hC : ∀ w, C w → Calls P f #[u1] w fun e w' => e = .returned v ∧ C w')
    (h : ∀ a', Fs n a' ((d, v) :: l) (ds := ds) → wpQuiet P ops C K rest a') : wpQuiet P ops C K (⟨some d, .call { callee := .value (.func f), args := #[x], argTypes := ts }, ty, pos, af, none⟩ :: rest) a :=
  q_call (xs := [x]) hF [u1] v hent (by simp [hx]) hd hC h
theorem q_call2 {ds : List Deferred} (hF : Fs n a l (ds := ds)) (hent : Enters P f) (hx : ov l x = some u1) (hy : ov l y = some u2) (hd : d < n) (hC : ∀ w, C w → Calls P f #[u1, u2] w fun e w' => e = .returned v ∧ C w')
    (h : ∀ a', Fs n a' ((d, v) :: l) (ds := ds) → wpQuiet P ops C K rest a') : wpQuiet P ops C K (⟨some d, .call { callee := .value (.func f), args := #[x, y], argTypes := ts }, ty, pos, af, none⟩ :: rest) a :=
  q_call (xs := [x, y]) hF [u1, u2] v hent (by simp [hx, hy]) hd hC h
end

section
variable {P : Program} {Q : Exit → Act → World → Prop} {a : Act} {w : World} {c x y : Code} {K : Act → World → Prop} {n : Nat} {l : List (Nat × Value)}

/-- A loop that counts up to N. -/
theorem wp_up (N : Nat) (J : Nat → Act → World → Prop) (h0 : J 0 a w)
    (round : ∀ k a w, k ≤ N → J k a w → ∀ K : Act → World → Prop, (∀ a' w', k < N → J (k + 1) a' w' → K a' w') → c.wp P (Exit.then K Q) a w) : (Code.loop c).wp P Q a w := by
  refine wp_loop_ghost (fun m a w => m ≤ N ∧ J (N - m) a w) N ⟨Nat.le_refl _, by simpa using h0⟩ ?_
  rintro m a w ⟨hm, hJ⟩
  refine round (N - m) a w (by omega) hJ _ ?_
  intro a' w' hlt hJ'
  refine ⟨m - 1, by omega, by omega, ?_⟩
  rwa [show N - (m - 1) = N - m + 1 by omega]

/-- A region, then the rest. -/
theorem wp_rs {id : Nat} {l : List Oper} (h : ∀ K : Act → World → Prop, (∀ a w, y.wp P Q a w → K a w) → wpList P l.toArray (Exit.then K Q) l a w) : (Code.seq (.region id l.toArray false) y).wp P Q a w :=
  wp_seq_k fun K hK => wp_region_lit (h K hK)
/-- A region that draws its order and only reads. -/
theorem wp_rt {id : Nat} {l : List Oper} (hm : P.follows .mixedOrders = true) (hB : Region.lexB .any l.toArray = true) (hd : ∀ w' : World, w' = { w with drawn := w.drawn + 1 } → ∀ K : Act → World → Prop, (∀ a, y.wp P Q a w' → K a w') → wpStill P l.toArray w' (fun a' => K a' w') l a) : (Code.seq (.region id l.toArray true) y).wp P Q a w := by
  refine wp_seq_k fun K hK => ?_
  refine wp_region_still_lit hm hB ?_
  exact hd _ rfl K (fun a h => hK a _ h)
theorem wp_rt1 {id : Nat} {l : List Oper} (hm : P.follows .mixedOrders = true) (hB : Region.lexB .any l.toArray = true) (hd : ∀ w' : World, w' = { w with drawn := w.drawn + 1 } → wpStill P l.toArray w' (fun a' => Q .normal a' w') l a) : (Code.region id l.toArray true).wp P Q a w :=
  wp_region_still_lit hm hB (hd _ rfl)
/-- One that ends with what turns memory. -/
theorem wp_rtt {id : Nat} {l : List Oper} (m : Nat) (hm : P.follows .mixedOrders = true) (hB : Region.lexTailB .any l.toArray m = true)
    (hd : ∀ w' : World, w' = { w with drawn := w.drawn + 1 } → wpStill P l.toArray w' (fun a' => wpList P l.toArray Q (l.drop m) a' w') (l.take m) a) : (Code.region id l.toArray true).wp P Q a w :=
  wp_region_still_tail m hm hB (hd _ rfl)
theorem t_end {P : Program} {ops : Array Oper} {K : Act → Prop} (h : K a) : wpStill P ops w K [] a := h
theorem q_end {P : Program} {ops : Array Oper} {C : World → Prop} {K : Act → Prop} (h : K a) : wpQuiet P ops C K [] a := h

/-- A condition that is known. -/
theorem wp_if {ds : List Deferred} {c : Operand} {b : Bool} (hF : Fs n a l (ds := ds)) (hc : ov l c = some (.bool b)) (h : (bif b then x else y).wp P Q a w) : (Code.cond c x y).wp P Q a w := by
  refine wp_cond (hF.ov hc) ?_
  cases b <;> exact h

/-- Both ways of a condition. -/
theorem wp_iff {ds : List Deferred} {c : Operand} {p : Prop} [Decidable p] (hF : Fs n a l (ds := ds)) (hc : ov l c = some (.bool (decide p))) (h1 : p → x.wp P Q a w) (h2 : ¬ p → y.wp P Q a w) : (Code.cond c x y).wp P Q a w := by
  refine wp_cond (hF.ov hc) ?_
  by_cases hp : p
  · simpa [hp] using h1 hp
  · simpa [hp] using h2 hp
theorem wp_ifb {ds : List Deferred} {c : Operand} {b : Bool} (hF : Fs n a l (ds := ds)) (hc : ov l c = some (.bool b)) (h1 : b = true → x.wp P Q a w) (h2 : b = false → y.wp P Q a w) : (Code.cond c x y).wp P Q a w := by
  refine wp_cond (hF.ov hc) ?_
  cases b
  · exact h2 rfl
  · exact h1 rfl

theorem drawn_below (w : World) : Below w.heap.size w { w with drawn := w.drawn + 1 } := (Below.refl _ _).drew
theorem Blk.drawn {b t : Nat} {cs : List Value} (h : Blk w b t cs) : Blk { w with drawn := w.drawn + 1 } b t cs := h
end
end Go.Proofs.Ytgpciphjhnabcaa
