/- What a sequence (a function value that is called with a yield) owes its caller, and what its caller owes it: the plain words, and the laws of the walk over them. No program is named here. -/
import Derived.RangeFuncNested
import Derived.RangeFuncBound
import Derived.RangeFuncCalls
import Derived.RangeFuncLeaves
import Derived.Shelf.Abstract
import Derived.Shelf.RegionOpen
import Derived.WalkKit
import Derived.OwnWalkIn
import Derived.TacticsInMore
import Derived.LoopNIn
import Derived.LoopIn
namespace Go.Proofs.Ytikomlcghplchaa
open Go.RowKit Go.Shelf
set_option linter.unusedVariables false
set_option linter.unusedSimpArgs false

theorem wide_fn (f : FuncId) : Fence.wide.fn f = True := rfl
theorem wide_depth : Fence.wide.depth = none := rfl

/-- Of what lay in w no block outside H has turned. -/
structure Only (H : Nat → Prop) (w w' : World) : Prop where
  os : w'.os = w.os
  tape : w'.tape = w.tape
  output : w'.output = w.output
  size : w.heap.size ≤ w'.heap.size
  block : ∀ k, k < w.heap.size → ¬ H k → w'.heap[k]? = w.heap[k]?

/-- H' is H and perhaps blocks that did not lie yet in W. -/
def Grows (H : Nat → Prop) (W : World) (H' : Nat → Prop) : Prop := ∀ b, H' b → H b ∨ W.heap.size ≤ b

theorem Grows.refl (H : Nat → Prop) (W : World) : Grows H W H := fun _ h => .inl h
theorem Grows.trans {H H' H'' : Nat → Prop} {W W' : World} (h : Grows H W H') (k : Grows H' W' H'') (hs : W.heap.size ≤ W'.heap.size) : Grows H W H'' :=
  fun b hb => (k b hb).elim (h b) (fun e => .inr (Nat.le_trans hs e))

theorem Only.refl (H : Nat → Prop) (w : World) : Only H w w := ⟨rfl, rfl, rfl, Nat.le_refl _, fun _ _ _ => rfl⟩
theorem Only.trans {H H' : Nat → Prop} {a b c : World} (h : Only H a b) (k : Only H' b c) (hg : Grows H a H') : Only H a c :=
  ⟨k.os.trans h.os, k.tape.trans h.tape, k.output.trans h.output, Nat.le_trans h.size k.size, fun i hi hn =>
    (k.block i (Nat.lt_of_lt_of_le hi h.size) (fun e => (hg i e).elim hn (fun e' => by omega))).trans (h.block i hi hn)⟩
theorem Only.mono {H H' : Nat → Prop} {a b : World} (h : Only H a b) (hH : ∀ k, k < a.heap.size → H k → H' k) : Only H' a b :=
  ⟨h.os, h.tape, h.output, h.size, fun i hi hn => h.block i hi (fun e => hn (hH i hi e))⟩
theorem Only.alloc (H : Nat → Prop) (w : World) (o : Obj) : Only H w (w.alloc o) :=
  ⟨rfl, rfl, rfl, by simp, fun k hk _ => Below.heap_alloc _ _ _ hk⟩
theorem Only.drew (H : Nat → Prop) (w : World) : Only H w w.drew := ⟨rfl, rfl, rfl, Nat.le_refl _, fun _ _ _ => rfl⟩
theorem Only.drewN (H : Nat → Prop) (w : World) (n : Nat) : Only H w (w.drewN n) := ⟨rfl, rfl, rfl, Nat.le_refl _, fun _ _ _ => rfl⟩
theorem Only.setCell {H : Nat → Prop} {w : World} {a : Addr} (h : H a.block ∨ w.heap.size ≤ a.block) (v : Value) : Only H w (w.setCell a v) :=
  ⟨rfl, rfl, rfl, by simp [World.setCell], fun k hk hn => Below.heap_setCell _ _ _ _ (fun e => by subst e; exact h.elim hn (by omega))⟩
theorem Only.putObj {H : Nat → Prop} {w : World} {l : Nat} (h : H l ∨ w.heap.size ≤ l) (o : Obj) : Only H w (w.putObj l o) :=
  ⟨rfl, rfl, rfl, by simp, fun k hk hn => World.putObj_heap_other (fun e => by subst e; exact h.elim hn (by omega))⟩
theorem Only.of_below {H : Nat → Prop} {w w' : World} (h : Below w.heap.size w w') : Only H w w' :=
  ⟨h.os, h.tape, h.output, h.size, fun k hk _ => h.block k hk⟩
theorem Only.below {H : Nat → Prop} {w w' : World} (h : Only H w w') (hH : ∀ b, H b → w.heap.size ≤ b) : Below w.heap.size w w' :=
  ⟨h.os, h.tape, h.output, h.size, fun k hk => h.block k hk (fun e => by have := hH k e; omega)⟩
theorem Only.of_grownBy {H : Nat → Prop} {w w' : World} {row : Option Nat} (h : w.grownBy w' row) (hr : ∀ k, row = some k → H k) : Only H w w' :=
  ⟨h.os, h.tape, h.output, h.size, fun k hk hn => h.block k hk (fun e => hn (hr k e.symm))⟩
theorem Only.cell {H : Nat → Prop} {w w' : World} (h : Only H w w') {p : Addr} (hp : p.block < w.heap.size) (hn : ¬ H p.block) : w'.cell? p = w.cell? p :=
  World.cell?_of_block (w := w) (h.block p.block hp hn)
theorem Only.boxed {H : Nat → Prop} {w w' : World} (h : Only H w w') {B : Nat} {t : TypeId} {v : Value} (hb : Boxed w B t v) (hn : ¬ H B) : Boxed w' B t v :=
  (h.block B hb.lt hn).trans hb

/-- A call's own new blocks O stood beside H. -/
theorem Grows.own {H H0 O : Nat → Prop} {W W2 : World} (hg : Grows (fun k => H k ∨ O k) W2 (fun k => H0 k ∨ O k)) (hO : ∀ k, O k → W.heap.size ≤ k) (hs : W.heap.size ≤ W2.heap.size) : Grows H W H0 :=
  fun b hb => (hg b (.inl hb)).elim (fun e => e.elim .inl (fun e => .inr (hO b e))) (fun e => .inr (Nat.le_trans hs e))
theorem Only.own {H O : Nat → Prop} {W W2 W1 : World} (e0 : Only H W W2) (ho : Only (fun k => H k ∨ O k) W2 W1) (hO : ∀ k, O k → W.heap.size ≤ k) : Only H W W1 :=
  e0.trans ho (fun b hb => hb.elim .inl (fun e => .inr (hO b e)))
theorem Only.behind {H : Nat → Prop} {W W1 : World} (h : Only H W W1) {D : Nat} (hD : W.heap.size ≤ D) (o : Obj) : Only H W (W1.putObj D o) :=
  h.trans (Only.putObj (H := fun b => b = D) (.inl rfl) o) (fun b hb => .inr (by omega))
theorem Only.set_behind {H : Nat → Prop} {W W1 : World} (h : Only H W W1) {a : Addr} (hD : W.heap.size ≤ a.block) (v : Value) : Only H W (W1.setCell a v) :=
  h.trans (Only.setCell (H := fun b => b = a.block) (.inl rfl) v) (fun b hb => .inr (by omega))

/-- What a caller keeps from round to round: it speaks of the blocks H, which lie, and of what lies below B: it abides whatever turns elsewhere. -/
structure Inv {β : Type} (B : Nat) (J : β → (Nat → Prop) → World → Prop) : Prop where
  stable : ∀ s H W W', J s H W → Only (fun b => B ≤ b ∧ ¬ H b) W W' → J s H W'
  lt : ∀ s H W, J s H W → ∀ b, H b → b < W.heap.size

theorem Inv.mono {β : Type} {B B' : Nat} {J : β → (Nat → Prop) → World → Prop} (h : Inv B J) (hB : B ≤ B') : Inv B' J :=
  ⟨fun s H W W' hj ho => h.stable s H W W' hj (ho.mono fun _ _ e => ⟨Nat.le_trans hB e.1, e.2⟩), h.lt⟩
theorem Inv.never {β : Type} (B : Nat) : Inv B (fun (_ : β) _ _ => False) := ⟨fun _ _ _ _ h _ => h, fun _ _ _ h => h.elim⟩
theorem Only.box {H : Nat → Prop} {B : Nat} {W W' : World} (h : Only (fun b => B ≤ b ∧ ¬ H b) W W') {b : Nat} {t : TypeId} {v : Value} (hb : Boxed W b t v) (hlt : b < B) : Boxed W' b t v :=
  h.boxed hb (fun e => by omega)
theorem Only.boxH {H : Nat → Prop} {B : Nat} {W W' : World} (h : Only (fun b => B ≤ b ∧ ¬ H b) W W') {b : Nat} {t : TypeId} {v : Value} (hb : Boxed W b t v) (hH : H b) : Boxed W' b t v :=
  h.boxed hb (fun e => e.2 hH)
theorem Inv.alloc {β : Type} {B : Nat} {J : β → (Nat → Prop) → World → Prop} (h : Inv B J) {s : β} {H : Nat → Prop} {W : World} (hj : J s H W) (o : Obj) : J s H (W.alloc o) :=
  h.stable _ _ _ _ hj (Only.alloc _ _ _)
theorem Inv.drew {β : Type} {B : Nat} {J : β → (Nat → Prop) → World → Prop} (h : Inv B J) {s : β} {H : Nat → Prop} {W : World} (hj : J s H W) : J s H W.drew :=
  h.stable _ _ _ _ hj (Only.drew _ _)
theorem Inv.setCell {β : Type} {B : Nat} {J : β → (Nat → Prop) → World → Prop} (h : Inv B J) {s : β} {H : Nat → Prop} {W : World} (hj : J s H W) {a : Addr} (hB : B ≤ a.block) (hH : ¬ H a.block) (v : Value) : J s H (W.setCell a v) :=
  h.stable _ _ _ _ hj (Only.setCell (.inl ⟨hB, hH⟩) _)
theorem Inv.putObj {β : Type} {B : Nat} {J : β → (Nat → Prop) → World → Prop} (h : Inv B J) {s : β} {H : Nat → Prop} {W : World} (hj : J s H W) {l : Nat} (hB : B ≤ l) (hH : ¬ H l) (o : Obj) : J s H (W.putObj l o) :=
  h.stable _ _ _ _ hj (Only.putObj (.inl ⟨hB, hH⟩) _)

/-- A function value is called: a function of the program, or the yield of a loop. -/
def CallV (P : Program) (y : Value) (args : Array Value) (W : World) (R : Ending → World → Prop) : Prop :=
  (∃ g lb, y = .func (.func g) #[] lb ∧ Enters P g ∧ Calls P g (args ++ lb) W R) ∨
  (∃ l, y = .func (.yield l) #[] #[] ∧ YieldAt Fence.wide 0 P l args W R)

theorem CallV.mono {P : Program} {y : Value} {args : Array Value} {W : World} {R R' : Ending → World → Prop} (h : CallV P y args W R) (hr : ∀ e w, R e w → R' e w) : CallV P y args W R' := by
  rcases h with ⟨g, lb, e, he, hc⟩ | ⟨l, e, hy⟩
  · exact .inl ⟨g, lb, e, he, hc.mono hr⟩
  · exact .inr ⟨l, e, hy.mono hr⟩

theorem roundIn_wide {n m : Nat} {P : Program} {l : Nat} {f : FuncId} {tmps : Array Value} {assign body : Code} {w : World} {R : Ending → World → Prop}
    (h : RoundIn Fence.wide n P l f tmps assign body w R) : RoundIn Fence.wide m P l f tmps assign body w R :=
  ⟨h.1, fun c cs _ => h.2 c cs (room_wide _)⟩

theorem run_equalIn_func_nil {P : Program} (w : World) (d : Nat) (t : TypeId) {x : Array TypeId} {y : Array TypeId} {z : Bool} (h : P.underlying t = some (.func x y z)) (fn : Fn) (a b : Array Value) :
    (Op.equalIn (d + 1) t (.func fn a b) .nilFunc).run P w = .ok false w := by simp [Op.equalIn, run_underlying h]
theorem run_equalIn_nil_nil {P : Program} (w : World) (d : Nat) (t : TypeId) {x : Array TypeId} {y : Array TypeId} {z : Bool} (h : P.underlying t = some (.func x y z)) :
    (Op.equalIn (d + 1) t .nilFunc .nilFunc).run P w = .ok true w := by simp [Op.equalIn, run_underlying h]
/-- A function value that is there is not nil. -/
theorem run_eql_func_nil {P : Program} (w : World) (t : TypeId) {x : Array TypeId} {y : Array TypeId} {z : Bool} (h : P.underlying t = some (.func x y z)) (fn : Fn) (a b : Array Value) :
    (binOp .eql t (.func fn a b) .nilFunc).run P w = .ok (.bool false) w := by
  simp only [binOp]
  simp [Op.equal, Op.maxDepth, run_equalIn_func_nil w 9999 t h]
theorem run_eql_nil_nil {P : Program} (w : World) (t : TypeId) {x : Array TypeId} {y : Array TypeId} {z : Bool} (h : P.underlying t = some (.func x y z)) :
    (binOp .eql t .nilFunc .nilFunc).run P w = .ok (.bool true) w := by
  simp only [binOp]
  simp [Op.equal, Op.maxDepth, run_equalIn_nil_nil w 9999 t h]

/-- The fence that lets everything in, in a round or not. -/
def Fw (r : Option Nat) : Fence := { fn := fun _ => True, depth := none, alive := false, round := r }

theorem exec_callV {P : Program} {o : Oper} {a : Act} {w : World} (g : Operand) (xs : Array Operand) (ts : Array TypeId) (hop : o.op = .call { callee := .value g, args := xs, argTypes := ts })
    {fn : Fn} {lb : Array Value} (ey : a.eval g = .func fn #[] lb) : (execOp a.eval o).run P w = (invoke (.fn fn lb) (xs.map a.eval)).run P w := by
  obtain ⟨dst, op, type, pos, after, guard⟩ := o
  simp only at hop
  subst hop
  have h1 : execOp a.eval { dst, op := .call { callee := .value g, args := xs, argTypes := ts }, type, pos, after, guard } =
    (do let d ← Deferred.ofValue (a.eval g) (xs.map a.eval); invoke d.target d.args) := rfl
  rw [h1, ey]
  have h2 : Deferred.ofValue (.func fn #[] lb) (xs.map a.eval) = pure { target := .fn fn lb, args := #[] ++ xs.map a.eval } := rfl
  rw [h2]
  simp only [Sem.run_bind, Sem.run_pure, Result.andThen, Array.empty_append]

theorem oper_callV {r : Option Nat} {n : Nat} {P : Program} {o : Oper} {a : Act} {w : World} {next : Act → World → Prop} {Q : Exit → Act → World → Prop}
    (g : Operand) (xs : Array Operand) (ts : Array TypeId) (hop : o.op = .call { callee := .value g, args := xs, argTypes := ts }) {R : Ending → World → Prop}
    (h : CallV P (a.eval g) (xs.map a.eval) w R) (hR : ∀ e w', R e w' → ∃ v, e = .returned v ∧ next (a.put o.dst v) w') : o.wpIn (Fw r) n P a w next Q := by
  refine ⟨fun _ _ => trivial, ?_⟩
  have hsem : o.semAt (Fw r).round a.eval = execOp a.eval o := Oper.semAt_eq _ _ _ (by rw [hop]; intro c; simp)
  rw [hsem]
  rcases h with ⟨gf, lb, ey, he, hc⟩ | ⟨l, ey, fn, tmps, assign, body, hy, hc⟩
  · have hrun : (execOp a.eval o).run P w = .ok (.enter gf (xs.map a.eval ++ lb)) w := by
      rw [exec_callV g xs ts hop ey]; exact he _ _
    rw [hrun]
    refine ⟨fun h => absurd h (by simp [Fw]), ?_⟩
    have hc' := (callsIn_wide (n := n - 1)).2 hc
    refine CallsIn.mono (F := Fence.wide) hc' ?_
    intro e w' hr
    obtain ⟨v, rfl, hn⟩ := hR e w' hr
    exact hn
  · have hrun : (execOp a.eval o).run P w = .ok (.round l fn tmps assign body) w := by
      rw [exec_callV g xs ts hop ey]; exact hy
    rw [hrun]
    refine ⟨fun h => absurd h (by simp [Fw]), ?_⟩
    refine RoundIn.mono (F := Fence.wide) (roundIn_wide hc) ?_
    intro e w' hr
    obtain ⟨v, rfl, hn⟩ := hR e w' hr
    exact hn

theorem wpListIn_callV {F : Fence} {n : Nat} {P : Program} {ops : Array Oper} {Q : Exit → Act → World → Prop} {rest : List Oper} {o : Oper} {a : Act} {w : World} (hF : F = Fw F.round) (hw : Region.wanted o (yielded ops a.tmps) = true)
    (g x : Operand) (ts : Array TypeId) (hop : o.op = .call { callee := .value g, args := #[x], argTypes := ts }) (y v : Value) (ey : a.eval g = y) (ev : a.eval x = v) {R : Ending → World → Prop}
    (h : CallV P y #[v] w R) (hR : ∀ e w', R e w' → ∃ v, e = .returned v ∧ wpListIn F n P ops Q rest (a.put o.dst v) w') : wpListIn F n P ops Q (o :: rest) a w := by
  subst ey ev
  rw [hF] at hR ⊢
  refine BigFrame.wpListIn_want hw fun K hK => oper_callV g #[x] ts hop (by simpa using h) fun e w' hr => ?_
  obtain ⟨v, he, hn⟩ := hR e w' hr
  exact ⟨v, he, hK _ _ hn⟩

/-- Behind one call of yield: what the caller owes. -/
def RoundR {α : Type} (J Jx : List α → (Nat → Prop) → World → Prop) (q : List α) (H : Nat → Prop) (W : World) (e : Ending) (W' : World) : Prop :=
  ∃ H', Grows H W H' ∧ Only H W W' ∧ ((e = .returned (.bool true) ∧ J q H' W') ∨ (e = .returned (.bool false) ∧ Jx q H' W'))

/-- Behind the sequence's call: what the sequence owes. -/
def EndR {α : Type} (J Jx : List α → (Nat → Prop) → World → Prop) (xs : List α) (H : Nat → Prop) (W : World) (e : Ending) (W' : World) : Prop :=
  (∃ v, e = .returned v) ∧ ∃ H', Grows H W H' ∧ Only H W W' ∧ (J xs H' W' ∨ ∃ pre, pre <+: xs ∧ Jx pre H' W')

/-- THE VALUE s IS A SEQUENCE OF xs, as long as the blocks C lie as they lie in w0: called with whatever yield, it hands it the elements, one by one, till it says no; it turns nothing that lay, but for what yield turns. -/
def SeqV {α : Type} (P : Program) (s : Value) (C : Nat → Prop) (enc : α → Value) (xs : List α) (w0 : World) : Prop :=
  (∀ b, C b → b < w0.heap.size) ∧ ∃ g lb, s = .func (.func g) #[] lb ∧ Enters P g ∧
  ∀ (y : Value) (J Jx : List α → (Nat → Prop) → World → Prop) (H : Nat → Prop) (W : World), (∃ fn lb, y = .func fn #[] lb) →
    (∀ b, C b → W.heap[b]? = w0.heap[b]?) → (∀ b, C b → ¬ H b) → Inv W.heap.size J → Inv W.heap.size Jx →
    (∀ pre x rest H1 W1, xs = pre ++ x :: rest → J pre H1 W1 → CallV P y #[enc x] W1 (RoundR J Jx (pre ++ [x]) H1 W1)) →
    J [] H W → Calls P g (#[y] ++ lb) W (EndR J Jx xs H W)

/-- It is one as long as C lies unturned. -/
theorem SeqV.later {α : Type} {P : Program} {s : Value} {C : Nat → Prop} {enc : α → Value} {xs : List α} {w0 w : World} (h : SeqV P s C enc xs w0) (hC : ∀ b, C b → w.heap[b]? = w0.heap[b]?) : SeqV P s C enc xs w := by
  obtain ⟨h1, g, lb, e, he, hc⟩ := h
  refine ⟨fun b hb => ?_, g, lb, e, he, fun y J Jx H W hy hW => hc y J Jx H W hy fun b hb => (hW b hb).trans (hC b hb)⟩
  have h2 := hC b hb
  rw [Array.getElem?_eq_getElem (h1 b hb)] at h2
  exact (Array.getElem?_eq_some_iff.1 h2).1
theorem SeqV.only {α : Type} {P : Program} {s : Value} {C : Nat → Prop} {enc : α → Value} {xs : List α} {w0 w : World} {H : Nat → Prop} (h : SeqV P s C enc xs w0) (ho : Only H w0 w) (hC : ∀ b, C b → ¬ H b) : SeqV P s C enc xs w :=
  h.later fun b hb => ho.block b (h.1 b hb) (hC b hb)
theorem SeqV.below {α : Type} {P : Program} {s : Value} {C : Nat → Prop} {enc : α → Value} {xs : List α} {w0 w : World} (h : SeqV P s C enc xs w0) (ho : Below w0.heap.size w0 w) : SeqV P s C enc xs w :=
  h.later fun b hb => ho.block b (h.1 b hb)
theorem SeqV.call {α : Type} {P : Program} {s : Value} {C : Nat → Prop} {enc : α → Value} {xs : List α} {W : World} (h : SeqV P s C enc xs W) {y : Value} (hy : ∃ fn lb, y = .func fn #[] lb) {J Jx : List α → (Nat → Prop) → World → Prop} {H : Nat → Prop}
    (hC : ∀ b, C b → ¬ H b) (hJ : Inv W.heap.size J) (hJx : Inv W.heap.size Jx)
    (hr : ∀ pre x rest H1 W1, xs = pre ++ x :: rest → J pre H1 W1 → CallV P y #[enc x] W1 (RoundR J Jx (pre ++ [x]) H1 W1)) (h0 : J [] H W) : CallV P s #[y] W (EndR J Jx xs H W) := by
  obtain ⟨_, g, lb, e, he, hc⟩ := h
  exact .inl ⟨g, lb, e, he, hc y J Jx H W hy (fun _ _ => rfl) hC hJ hJx hr h0⟩

/-- How the body of a loop over a sequence may be left. -/
def seqPost {α : Type} (I : List α → (Nat → Prop) → World → Prop) (Ix : Code → List α → (Nat → Prop) → World → Prop) (q : List α) (H : Nat → Prop) (W : World) : Exit → Act → World → Prop
  | .normal, _, W' => ∃ H', Grows H W H' ∧ Only H W W' ∧ I q H' W'
  | .ret, _, W' => ∃ H', Grows H W H' ∧ Only H W W' ∧ Ix .ret q H' W'
  | .exit id, _, W' => ∃ H', Grows H W H' ∧ Only H W W' ∧ Ix (.exit id) q H' W'
  | .goto t, _, W' => ∃ H', Grows H W H' ∧ Only H W W' ∧ Ix (.goto t) q H' W'
  | .panic _, _, _ => False
  | .outgrown, _, _ => False

/-- The loop's own blocks stand beside the caller's: l, its record. -/
def Beside {α : Type} (I : List α → (Nat → Prop) → World → Prop) (l D : Nat) (r : Obj) (d : Obj) (q : List α) (H : Nat → Prop) (W : World) : Prop :=
  ∃ H1, H = (fun b => H1 b ∨ b = l ∨ b = D) ∧ ¬ H1 l ∧ ¬ H1 D ∧ I q H1 W ∧ W.heap[l]? = some r ∧ W.heap[D]? = some d

theorem Beside.inv {α : Type} {B : Nat} {I : List α → (Nat → Prop) → World → Prop} (hI : Inv B I) (l D : Nat) (r d : Obj) : Inv B (Beside I l D r d) := by
  constructor
  · rintro s H W W' ⟨H1, rfl, h1, h2, hi, hl, hd⟩ ho
    refine ⟨H1, rfl, h1, h2, hI.stable _ _ _ _ hi (ho.mono fun b _ e => ⟨e.1, fun e' => e.2 (.inl e')⟩), ?_, ?_⟩
    · exact (ho.block l (Array.getElem?_eq_some_iff.1 hl).1 (fun e => e.2 (.inr (.inl rfl)))).trans hl
    · exact (ho.block D (Array.getElem?_eq_some_iff.1 hd).1 (fun e => e.2 (.inr (.inr rfl)))).trans hd
  · rintro s H W ⟨H1, rfl, h1, h2, hi, hl, hd⟩ b (hb | rfl | rfl)
    · exact hI.lt _ _ _ hi b hb
    · exact (Array.getElem?_eq_some_iff.1 hl).1
    · exact (Array.getElem?_eq_some_iff.1 hd).1

/-- One round, out of the body's walk. -/
theorem round_seq {α : Type} {n : Nat} {P : Program} {fn : FuncId} {a : Act} {assign body : Code} {ps : Array Tmp} {enc : α → Value} {l D df B : Nat} {dd : Obj} (hps : ps.size = 1) (hBl : B ≤ l)
    (I : List α → (Nat → Prop) → World → Prop) (Ix : Code → List α → (Nat → Prop) → World → Prop) (hI : Inv B I) (hIx : ∀ c, Inv B (Ix c)) (a₁ : α → Act)
    (rec : LoopState → Option Code → Loop) (hrec : rec = fun st pe => { state := st, pending := pe, fn, tmps := a.tmps, params := ps, assign, body, defers := df })
    (hassign : ∀ (l : Nat) (x : α) (W : World) (K : Act → World → Prop), K (a₁ x) W →
      assign.wpIn (Fence.wide.inRound l) n P (Exit.then K (fun _ _ _ => False)) { tmps := (ps.zip #[enc x]).foldl (fun t (p, v) => t.setIfInBounds p v) a.tmps, defers := [] } W)
    {pre : List α} {x : α} (hlD : l ≠ D)
    (hbody : ∀ (H1 : Nat → Prop) (W1 : World), I pre H1 W1 → ¬ H1 l → (∃ r, W1.heap[l]? = some (.loop r)) →
      body.wpIn (Fence.wide.inRound l) n P (seqPost I Ix (pre ++ [x]) H1 W1) (a₁ x) W1)
    {H : Nat → Prop} {W : World} (hJ : Beside I l D (.loop (rec .ready none)) dd pre H W) :
    YieldAt Fence.wide 0 P l #[enc x] W (RoundR (Beside I l D (.loop (rec .ready none)) dd) (fun q H' W' => ∃ c, Beside (Ix c) l D (.loop (rec .done (some c))) dd q H' W') (pre ++ [x]) H W) := by
  obtain ⟨H1, rfl, h1, h2, hi, hl, hd⟩ := hJ
  have hlt : l < W.heap.size := (Array.getElem?_eq_some_iff.1 hl).1
  have hDlt : D < W.heap.size := (Array.getElem?_eq_some_iff.1 hd).1
  have hy := run_yield (P := P) (args := #[enc x]) hl (by rw [hrec]; simp [hps])
  rw [hrec] at hy
  refine ⟨fn, _, assign, body, hy, roundIn_wide (n := n) (roundIn_of_wpIn trivial (hassign _ x W _ ⟨_, run_beginRound hl (by rw [hrec]), ?_⟩))⟩
  have hl2 : (W.putObj l (.loop { rec .ready none with state := .busy })).heap[l]? = some (.loop { rec .ready none with state := .busy }) := World.putObj_heap_same hlt
  have hd2 : (W.putObj l (.loop { rec .ready none with state := .busy })).heap[D]? = some dd := (World.putObj_heap_other (Ne.symm hlD)).trans hd
  have ho2 : Only (fun b => H1 b ∨ b = l ∨ b = D) W (W.putObj l (.loop { rec .ready none with state := .busy })) := Only.putObj (.inl (.inr (.inl rfl))) _
  refine wpIn_mono (hbody H1 _ (hI.putObj hi hBl h1 _) h1 ⟨_, hl2⟩) ?_
  have fin : ∀ (jump : Option Code) (H3 : Nat → Prop) (W3 : World), Grows H1 (W.putObj l (.loop { rec .ready none with state := .busy })) H3 → Only H1 (W.putObj l (.loop { rec .ready none with state := .busy })) W3 →
      (Instr.endRound l jump).run P W3 = .ok (.bool jump.isNone) (W3.putObj l (.loop (rec (if jump.isNone then .ready else .done) jump))) ∧
      (W3.putObj l (.loop (rec (if jump.isNone then .ready else .done) jump))).heap[l]? = some (.loop (rec (if jump.isNone then .ready else .done) jump)) ∧
      (W3.putObj l (.loop (rec (if jump.isNone then .ready else .done) jump))).heap[D]? = some dd ∧ ¬ H3 l ∧ ¬ H3 D ∧
      Grows (fun b => H1 b ∨ b = l ∨ b = D) W (fun b => H3 b ∨ b = l ∨ b = D) ∧
      Only (fun b => H1 b ∨ b = l ∨ b = D) W (W3.putObj l (.loop (rec (if jump.isNone then .ready else .done) jump))) := fun jump H3 W3 hg3 ho3 => by
    have hl3 := (ho3.block l (by simpa using hlt) h1).trans hl2
    have hd3 := (ho3.block D (by simpa using hDlt) h2).trans hd2
    have hr := run_endRound (P := P) jump hl3
    have h3l : ¬ H3 l := fun e => (hg3 l e).elim h1 (fun e' => by simp at e'; omega)
    have h3D : ¬ H3 D := fun e => (hg3 D e).elim h2 (fun e' => by simp at e'; omega)
    refine ⟨?_, World.putObj_heap_same (Array.getElem?_eq_some_iff.1 hl3).1, (World.putObj_heap_other (Ne.symm hlD)).trans hd3, h3l, h3D, ?_, ?_⟩
    · rw [hrec] at hr ⊢; exact hr
    · rintro b (hb | hb)
      · exact (hg3 b hb).elim (fun e => .inl (.inl e)) (fun e => .inr (by simpa using e))
      · exact .inl (.inr hb)
    · refine (ho2.trans ho3 (fun b hb => .inl (.inl hb))).trans (Only.putObj (H := fun b => b = l) (.inl rfl) _) (fun b hb => .inl (.inr (.inl hb)))
  rintro e a3 W3 hp
  cases e with
  | normal =>
    obtain ⟨H3, hg3, ho3, hi3⟩ := hp
    obtain ⟨hr, hl4, hd4, h3l, h3D, hg4, ho4⟩ := fin none H3 W3 hg3 ho3
    exact ⟨_, _, hr, _, hg4, ho4, .inl ⟨rfl, H3, rfl, h3l, h3D, hI.putObj hi3 hBl h3l _, hl4, hd4⟩⟩
  | ret =>
    obtain ⟨H3, hg3, ho3, hi3⟩ := hp
    obtain ⟨hr, hl4, hd4, h3l, h3D, hg4, ho4⟩ := fin (some .ret) H3 W3 hg3 ho3
    exact ⟨_, _, hr, _, hg4, ho4, .inr ⟨rfl, .ret, H3, rfl, h3l, h3D, (hIx _).putObj hi3 hBl h3l _, hl4, hd4⟩⟩
  | exit id =>
    obtain ⟨H3, hg3, ho3, hi3⟩ := hp
    obtain ⟨hr, hl4, hd4, h3l, h3D, hg4, ho4⟩ := fin (some (.exit id)) H3 W3 hg3 ho3
    exact ⟨_, _, hr, _, hg4, ho4, .inr ⟨rfl, .exit id, H3, rfl, h3l, h3D, (hIx _).putObj hi3 hBl h3l _, hl4, hd4⟩⟩
  | goto t =>
    obtain ⟨H3, hg3, ho3, hi3⟩ := hp
    obtain ⟨hr, hl4, hd4, h3l, h3D, hg4, ho4⟩ := fin (some (.goto t)) H3 W3 hg3 ho3
    exact ⟨_, _, hr, _, hg4, ho4, .inr ⟨rfl, .goto t, H3, rfl, h3l, h3D, (hIx _).putObj hi3 hBl h3l _, hl4, hd4⟩⟩
  | panic ch => exact hp.elim
  | outgrown => exact hp.elim

theorem Inv.some {α : Type} {B : Nat} {Ix : Code → List α → (Nat → Prop) → World → Prop} (h : ∀ c, Inv B (Ix c)) : Inv B (fun q H W => ∃ c, Ix c q H W) :=
  ⟨fun s H W W' ⟨c, hc⟩ ho => ⟨c, (h c).stable _ _ _ _ hc ho⟩, fun s H W ⟨c, hc⟩ => (h c).lt _ _ _ hc⟩

/-- **'for x := range s { .. }', s A SEQUENCE OF xs**, outside every other such loop. -/
theorem wpIn_rangeFunc_seq {α : Type} {n : Nat} {P : Program} {g : Operand} {ps : Array Tmp} {assign body : Code} {Q : Exit → Act → World → Prop} {a : Act} {w : World}
    {s : Value} {C : Nat → Prop} {enc : α → Value} {xs : List α} (hg : a.eval g = s) (hseq : SeqV P s C enc xs w) (H : Nat → Prop) (hCH : ∀ b, C b → ¬ H b) (hps : ps.size = 1)
    (I : List α → (Nat → Prop) → World → Prop) (Ix : Code → List α → (Nat → Prop) → World → Prop) (hI : Inv w.heap.size I) (hIx : ∀ c, Inv w.heap.size (Ix c)) (h0 : I [] H w) (a₁ : α → Act)
    (hassign : ∀ (l : Nat) (x : α) (W : World) (K : Act → World → Prop), K (a₁ x) W →
      assign.wpIn (Fence.wide.inRound l) n P (Exit.then K (fun _ _ _ => False)) { tmps := (ps.zip #[enc x]).foldl (fun t (p, v) => t.setIfInBounds p v) a.tmps, defers := [] } W)
    (hbody : ∀ (l : Nat) (pre : List α) (x : α) (rest : List α) (H1 : Nat → Prop) (W1 : World), xs = pre ++ x :: rest → I pre H1 W1 → w.heap.size ≤ l → ¬ H1 l → (∃ r, W1.heap[l]? = some (.loop r)) →
      body.wpIn (Fence.wide.inRound l) n P (seqPost I Ix (pre ++ [x]) H1 W1) (a₁ x) W1)
    (hdone : ∀ (D : Nat) (H1 : Nat → Prop) (W1 : World), I xs H1 W1 → Grows H w H1 → Only H w W1 → w.heap.size ≤ D → ¬ H1 D → W1.heap[D]? = some (.deferred (some [])) →
      Q .normal { a with defers := { target := .collected D, args := #[] } :: a.defers } W1)
    (hstop : ∀ (D : Nat) (c : Code) (pre : List α) (H1 : Nat → Prop) (W1 : World), pre <+: xs → Ix c pre H1 W1 → Grows H w H1 → Only H w W1 → w.heap.size ≤ D → ¬ H1 D → W1.heap[D]? = some (.deferred (some [])) →
      c.wpIn Fence.wide n P Q { a with defers := { target := .collected D, args := #[] } :: a.defers } W1) :
    (Code.rangeFunc g ps assign body).wpIn Fence.wide n P Q a w := by
  refine wpIn_rangeFunc ?_
  intro fn hfn
  obtain ⟨rec, hrec⟩ : ∃ rec : LoopState → Option Code → Loop, rec = fun st pe => { state := st, pending := pe, fn, tmps := a.tmps, params := ps, assign, body, defers := w.heap.size } := ⟨_, rfl⟩
  obtain ⟨W1, hW1⟩ : ∃ W1, (w.alloc (.deferred (some []))).alloc (.loop (rec .ready none)) = W1 := ⟨_, rfl⟩
  have hL1 : W1.heap[w.heap.size + 1]? = some (.loop (rec .ready none)) := by
    rw [← hW1]; have := World.alloc_heap_new (w.alloc (.deferred (some []))) (.loop (rec .ready none)); rwa [World.size_alloc] at this
  have hK1 : W1.heap[w.heap.size]? = some (.deferred (some [])) := by
    rw [← hW1]; exact (Below.heap_alloc _ _ _ (by simp)).trans (World.alloc_heap_new w _)
  have hsz : W1.heap.size = w.heap.size + 2 := by rw [← hW1]; simp
  have hHlt := hI.lt _ _ _ h0
  have hHl : ¬ H (w.heap.size + 1) := fun e => by have := hHlt _ e; omega
  have hHD : ¬ H w.heap.size := fun e => by have := hHlt _ e; omega
  have hI1 : I [] H W1 := by rw [← hW1]; exact hI.alloc (hI.alloc h0 _) _
  have ho1 : Only H w W1 := by rw [← hW1]; exact (Only.alloc H w _).trans (Only.alloc H _ _) (Grows.refl _ _)
  have hJ0 : Beside I (w.heap.size + 1) w.heap.size (.loop (rec .ready none)) (.deferred (some [])) [] (fun b => H b ∨ b = w.heap.size + 1 ∨ b = w.heap.size) W1 := ⟨H, rfl, hHl, hHD, hI1, hL1, hK1⟩
  obtain ⟨hClt, gf, lb, rfl, he, hseq2⟩ := hseq
  have hc := hseq2 (.func (.yield (w.heap.size + 1)) #[] #[]) (Beside I (w.heap.size + 1) w.heap.size (.loop (rec .ready none)) (.deferred (some [])))
    (fun q H' W' => ∃ c, Beside (Ix c) (w.heap.size + 1) w.heap.size (.loop (rec .done (some c))) (.deferred (some [])) q H' W') (fun b => H b ∨ b = w.heap.size + 1 ∨ b = w.heap.size) W1 ⟨_, _, rfl⟩
    (fun b hb => ho1.block b (hClt b hb) (hCH b hb)) (fun b hb => by have := hClt b hb; rintro (e | e | e); exact hCH b hb e; omega; omega)
    ((Beside.inv hI _ _ _ _).mono (by omega)) ((Inv.some fun c => Beside.inv (hIx c) _ _ _ _).mono (by omega))
    (fun pre x rest H1 W2 hx hj => .inr ⟨_, rfl, round_seq (D := w.heap.size) hps (by omega) I Ix hI hIx a₁ rec hrec hassign (by omega) (fun H3 W3 hi3 hl3 hr3 => hbody _ pre x rest H3 W3 hx hi3 (by omega) hl3 hr3) hj⟩) hJ0
  have hpost : ∀ e W2, EndR (Beside I (w.heap.size + 1) w.heap.size (.loop (rec .ready none)) (.deferred (some []))) (fun q H' W' => ∃ c, Beside (Ix c) (w.heap.size + 1) w.heap.size (.loop (rec .done (some c))) (.deferred (some [])) q H' W') xs (fun b => H b ∨ b = w.heap.size + 1 ∨ b = w.heap.size) W1 e W2 →
      rangePost Fence.wide n P (w.heap.size + 1) Q { a with defers := [{ target := .collected w.heap.size, args := #[] }] ++ a.defers } e W2 := by
    rintro e W2 ⟨⟨v, rfl⟩, H2, hg2, ho2, hend⟩
    have hon : Only H w W2 := ho1.trans ho2 (fun b hb => hb.elim .inl (fun e => .inr (by omega)))
    rcases hend with ⟨H3, rfl, h3l, h3D, hi3, hl3, hd3⟩ | ⟨pre, hpre, c, H3, rfl, h3l, h3D, hi3, hl3, hd3⟩
    all_goals
      have hgr : Grows H w H3 := fun b hb => (hg2 b (.inl hb)).elim (fun e => e.elim .inl (fun e => .inr (by omega))) (fun e => .inr (by omega))
      have hop : ∀ o, Only H w (W2.putObj (w.heap.size + 1) o) := fun o => hon.trans (Only.putObj (H := fun b => b = w.heap.size + 1) (.inl rfl) _) (fun b hb => .inr (by omega))
    · exact ⟨none, _, by have := run_endLoop (P := P) hl3 (by rw [hrec]; simp); rw [hrec] at this; exact this,
        hdone _ H3 _ (hI.putObj hi3 (by omega) h3l _) hgr (hop _) (Nat.le_refl _) h3D ((World.putObj_heap_other (by omega)).trans hd3)⟩
    · exact ⟨some c, _, by have := run_endLoop (P := P) hl3 (by rw [hrec]; simp); rw [hrec] at this; exact this,
        hstop _ c pre H3 _ hpre ((hIx c).putObj hi3 (by omega) h3l _) hgr (hop _) (Nat.le_refl _) h3D ((World.putObj_heap_other (by omega)).trans hd3)⟩
  refine ⟨w.heap.size + 1, [{ target := .collected w.heap.size, args := #[] }], W1, { target := .fn (.func gf) lb, args := #[.func (.yield (w.heap.size + 1)) #[] #[]] }, W1, gf,
    #[.func (.yield (w.heap.size + 1)) #[] #[]] ++ lb, W1, ?_, ?_, fun _ _ => trivial, ?_, (fun h => by simp [Fence.wide] at h), ?_⟩
  · rw [← hW1, hrec]; exact run_enterLoop_outer _ _ _ _ _
  · simp only [resolve, hg]
    simp [go_sem]
  · simp [invoke, go_sem, he _ _]
  · exact ((callsIn_wide (n := n - 1)).2 hc).mono hpost

/-- The loop's own record stands beside the caller's blocks. -/
def Beside1 {α : Type} (I : List α → (Nat → Prop) → World → Prop) (l : Nat) (r : Obj) (q : List α) (H : Nat → Prop) (W : World) : Prop :=
  ∃ H1, H = (fun b => H1 b ∨ b = l) ∧ ¬ H1 l ∧ I q H1 W ∧ W.heap[l]? = some r

theorem Beside1.inv {α : Type} {B : Nat} {I : List α → (Nat → Prop) → World → Prop} (hI : Inv B I) (l : Nat) (r : Obj) : Inv B (Beside1 I l r) := by
  constructor
  · rintro s H W W' ⟨H1, rfl, h1, hi, hl⟩ ho
    exact ⟨H1, rfl, h1, hI.stable _ _ _ _ hi (ho.mono fun b _ e => ⟨e.1, fun e' => e.2 (.inl e')⟩), (ho.block l (Array.getElem?_eq_some_iff.1 hl).1 (fun e => e.2 (.inr rfl))).trans hl⟩
  · rintro s H W ⟨H1, rfl, h1, hi, hl⟩ b (hb | rfl)
    · exact hI.lt _ _ _ hi b hb
    · exact (Array.getElem?_eq_some_iff.1 hl).1

theorem round_seq1 {α : Type} {n : Nat} {P : Program} {fn : FuncId} {a : Act} {assign body : Code} {ps : Array Tmp} {enc : α → Value} {l df B : Nat} (hps : ps.size = 1) (hBl : B ≤ l)
    (I : List α → (Nat → Prop) → World → Prop) (Ix : Code → List α → (Nat → Prop) → World → Prop) (hI : Inv B I) (hIx : ∀ c, Inv B (Ix c)) (a₁ : α → Act)
    (rec : LoopState → Option Code → Loop) (hrec : rec = fun st pe => { state := st, pending := pe, fn, tmps := a.tmps, params := ps, assign, body, defers := df })
    (hassign : ∀ (l : Nat) (x : α) (W : World) (K : Act → World → Prop), K (a₁ x) W →
      assign.wpIn (Fence.wide.inRound l) n P (Exit.then K (fun _ _ _ => False)) { tmps := (ps.zip #[enc x]).foldl (fun t (p, v) => t.setIfInBounds p v) a.tmps, defers := [] } W)
    {pre : List α} {x : α}
    (hbody : ∀ (H1 : Nat → Prop) (W1 : World), I pre H1 W1 → ¬ H1 l → (∃ r, W1.heap[l]? = some (.loop r)) →
      body.wpIn (Fence.wide.inRound l) n P (seqPost I Ix (pre ++ [x]) H1 W1) (a₁ x) W1)
    {H : Nat → Prop} {W : World} (hJ : Beside1 I l (.loop (rec .ready none)) pre H W) :
    YieldAt Fence.wide 0 P l #[enc x] W (RoundR (Beside1 I l (.loop (rec .ready none))) (fun q H' W' => ∃ c, Beside1 (Ix c) l (.loop (rec .done (some c))) q H' W') (pre ++ [x]) H W) := by
  obtain ⟨H1, rfl, h1, hi, hl⟩ := hJ
  have hlt : l < W.heap.size := (Array.getElem?_eq_some_iff.1 hl).1
  have hy := run_yield (P := P) (args := #[enc x]) hl (by rw [hrec]; simp [hps])
  rw [hrec] at hy
  refine ⟨fn, _, assign, body, hy, roundIn_wide (n := n) (roundIn_of_wpIn trivial (hassign _ x W _ ⟨_, run_beginRound hl (by rw [hrec]), ?_⟩))⟩
  have hl2 : (W.putObj l (.loop { rec .ready none with state := .busy })).heap[l]? = some (.loop { rec .ready none with state := .busy }) := World.putObj_heap_same hlt
  have ho2 : Only (fun b => H1 b ∨ b = l) W (W.putObj l (.loop { rec .ready none with state := .busy })) := Only.putObj (.inl (.inr rfl)) _
  refine wpIn_mono (hbody H1 _ (hI.putObj hi hBl h1 _) h1 ⟨_, hl2⟩) ?_
  have fin : ∀ (jump : Option Code) (H3 : Nat → Prop) (W3 : World), Grows H1 (W.putObj l (.loop { rec .ready none with state := .busy })) H3 → Only H1 (W.putObj l (.loop { rec .ready none with state := .busy })) W3 →
      (Instr.endRound l jump).run P W3 = .ok (.bool jump.isNone) (W3.putObj l (.loop (rec (if jump.isNone then .ready else .done) jump))) ∧
      (W3.putObj l (.loop (rec (if jump.isNone then .ready else .done) jump))).heap[l]? = some (.loop (rec (if jump.isNone then .ready else .done) jump)) ∧ ¬ H3 l ∧
      Grows (fun b => H1 b ∨ b = l) W (fun b => H3 b ∨ b = l) ∧
      Only (fun b => H1 b ∨ b = l) W (W3.putObj l (.loop (rec (if jump.isNone then .ready else .done) jump))) := fun jump H3 W3 hg3 ho3 => by
    have hl3 := (ho3.block l (by simpa using hlt) h1).trans hl2
    have hr := run_endRound (P := P) jump hl3
    have h3l : ¬ H3 l := fun e => (hg3 l e).elim h1 (fun e' => by simp at e'; omega)
    refine ⟨?_, World.putObj_heap_same (Array.getElem?_eq_some_iff.1 hl3).1, h3l, ?_, ?_⟩
    · rw [hrec] at hr ⊢; exact hr
    · rintro b (hb | hb)
      · exact (hg3 b hb).elim (fun e => .inl (.inl e)) (fun e => .inr (by simpa using e))
      · exact .inl (.inr hb)
    · refine (ho2.trans ho3 (fun b hb => .inl (.inl hb))).trans (Only.putObj (H := fun b => b = l) (.inl rfl) _) (fun b hb => .inl (.inr hb))
  rintro e a3 W3 hp
  cases e with
  | normal =>
    obtain ⟨H3, hg3, ho3, hi3⟩ := hp
    obtain ⟨hr, hl4, h3l, hg4, ho4⟩ := fin none H3 W3 hg3 ho3
    exact ⟨_, _, hr, _, hg4, ho4, .inl ⟨rfl, H3, rfl, h3l, hI.putObj hi3 hBl h3l _, hl4⟩⟩
  | ret =>
    obtain ⟨H3, hg3, ho3, hi3⟩ := hp
    obtain ⟨hr, hl4, h3l, hg4, ho4⟩ := fin (some .ret) H3 W3 hg3 ho3
    exact ⟨_, _, hr, _, hg4, ho4, .inr ⟨rfl, .ret, H3, rfl, h3l, (hIx _).putObj hi3 hBl h3l _, hl4⟩⟩
  | exit id =>
    obtain ⟨H3, hg3, ho3, hi3⟩ := hp
    obtain ⟨hr, hl4, h3l, hg4, ho4⟩ := fin (some (.exit id)) H3 W3 hg3 ho3
    exact ⟨_, _, hr, _, hg4, ho4, .inr ⟨rfl, .exit id, H3, rfl, h3l, (hIx _).putObj hi3 hBl h3l _, hl4⟩⟩
  | goto t =>
    obtain ⟨H3, hg3, ho3, hi3⟩ := hp
    obtain ⟨hr, hl4, h3l, hg4, ho4⟩ := fin (some (.goto t)) H3 W3 hg3 ho3
    exact ⟨_, _, hr, _, hg4, ho4, .inr ⟨rfl, .goto t, H3, rfl, h3l, (hIx _).putObj hi3 hBl h3l _, hl4⟩⟩
  | panic ch => exact hp.elim
  | outgrown => exact hp.elim

/-- **'for x := range s { .. }', s A SEQUENCE OF xs**, within a round of loop l₀. -/
theorem wpIn_rangeFunc_seqN {α : Type} {n : Nat} {P : Program} {g : Operand} {ps : Array Tmp} {assign body : Code} {Q : Exit → Act → World → Prop} {a : Act} {w : World} {l₀ : Nat} {r₀ : Loop} (hl₀ : w.heap[l₀]? = some (.loop r₀))
    {s : Value} {C : Nat → Prop} {enc : α → Value} {xs : List α} (hg : a.eval g = s) (hseq : SeqV P s C enc xs w) (H : Nat → Prop) (hCH : ∀ b, C b → ¬ H b) (hps : ps.size = 1)
    (I : List α → (Nat → Prop) → World → Prop) (Ix : Code → List α → (Nat → Prop) → World → Prop) (hI : Inv w.heap.size I) (hIx : ∀ c, Inv w.heap.size (Ix c)) (h0 : I [] H w) (a₁ : α → Act)
    (hassign : ∀ (l : Nat) (x : α) (W : World) (K : Act → World → Prop), K (a₁ x) W →
      assign.wpIn (Fence.wide.inRound l) n P (Exit.then K (fun _ _ _ => False)) { tmps := (ps.zip #[enc x]).foldl (fun t (p, v) => t.setIfInBounds p v) a.tmps, defers := [] } W)
    (hbody : ∀ (l : Nat) (pre : List α) (x : α) (rest : List α) (H1 : Nat → Prop) (W1 : World), xs = pre ++ x :: rest → I pre H1 W1 → w.heap.size ≤ l → ¬ H1 l → (∃ r, W1.heap[l]? = some (.loop r)) →
      body.wpIn (Fence.wide.inRound l) n P (seqPost I Ix (pre ++ [x]) H1 W1) (a₁ x) W1)
    (hdone : ∀ (H1 : Nat → Prop) (W1 : World), I xs H1 W1 → Grows H w H1 → Only H w W1 → Q .normal a W1)
    (hstop : ∀ (c : Code) (pre : List α) (H1 : Nat → Prop) (W1 : World), pre <+: xs → Ix c pre H1 W1 → Grows H w H1 → Only H w W1 → c.wpIn (Fence.wide.inRound l₀) n P Q a W1) :
    (Code.rangeFunc g ps assign body).wpIn (Fence.wide.inRound l₀) n P Q a w := by
  refine wpIn_rangeFunc ?_
  intro fn hfn
  obtain ⟨rec, hrec⟩ : ∃ rec : LoopState → Option Code → Loop, rec = fun st pe => { state := st, pending := pe, fn, tmps := a.tmps, params := ps, assign, body, defers := r₀.defers } := ⟨_, rfl⟩
  obtain ⟨W1, hW1⟩ : ∃ W1, w.alloc (.loop (rec .ready none)) = W1 := ⟨_, rfl⟩
  have hL1 : W1.heap[w.heap.size]? = some (.loop (rec .ready none)) := by rw [← hW1]; exact World.alloc_heap_new w _
  have hsz : W1.heap.size = w.heap.size + 1 := by rw [← hW1]; simp
  have hHlt := hI.lt _ _ _ h0
  have hHl : ¬ H w.heap.size := fun e => by have := hHlt _ e; omega
  have hI1 : I [] H W1 := by rw [← hW1]; exact hI.alloc h0 _
  have ho1 : Only H w W1 := by rw [← hW1]; exact Only.alloc H w _
  have hJ0 : Beside1 I w.heap.size (.loop (rec .ready none)) [] (fun b => H b ∨ b = w.heap.size) W1 := ⟨H, rfl, hHl, hI1, hL1⟩
  obtain ⟨hClt, gf, lb, rfl, he, hseq2⟩ := hseq
  have hc := hseq2 (.func (.yield w.heap.size) #[] #[]) (Beside1 I w.heap.size (.loop (rec .ready none)))
    (fun q H' W' => ∃ c, Beside1 (Ix c) w.heap.size (.loop (rec .done (some c))) q H' W') (fun b => H b ∨ b = w.heap.size) W1 ⟨_, _, rfl⟩
    (fun b hb => ho1.block b (hClt b hb) (hCH b hb)) (fun b hb => by have := hClt b hb; rintro (e | e); exact hCH b hb e; omega)
    ((Beside1.inv hI _ _).mono (by omega)) ((Inv.some fun c => Beside1.inv (hIx c) _ _).mono (by omega))
    (fun pre x rest H1 W2 hx hj => .inr ⟨_, rfl, round_seq1 hps (Nat.le_refl _) I Ix hI hIx a₁ rec hrec hassign (fun H3 W3 hi3 hl3 hr3 => hbody _ pre x rest H3 W3 hx hi3 (Nat.le_refl _) hl3 hr3) hj⟩) hJ0
  have hpost : ∀ e W2, EndR (Beside1 I w.heap.size (.loop (rec .ready none))) (fun q H' W' => ∃ c, Beside1 (Ix c) w.heap.size (.loop (rec .done (some c))) q H' W') xs (fun b => H b ∨ b = w.heap.size) W1 e W2 →
      rangePost (Fence.wide.inRound l₀) n P w.heap.size Q { a with defers := [] ++ a.defers } e W2 := by
    rintro e W2 ⟨⟨v, rfl⟩, H2, hg2, ho2, hend⟩
    have hon : Only H w W2 := ho1.trans ho2 (fun b hb => hb.elim .inl (fun e => .inr (by omega)))
    rcases hend with ⟨H3, rfl, h3l, hi3, hl3⟩ | ⟨pre, hpre, c, H3, rfl, h3l, hi3, hl3⟩
    all_goals
      have hgr : Grows H w H3 := fun b hb => (hg2 b (.inl hb)).elim (fun e => e.elim .inl (fun e => .inr (by omega))) (fun e => .inr (by omega))
      have hop : ∀ o, Only H w (W2.putObj w.heap.size o) := fun o => hon.trans (Only.putObj (H := fun b => b = w.heap.size) (.inl rfl) _) (fun b hb => .inr (by omega))
    · exact ⟨none, _, by have := run_endLoop (P := P) hl3 (by rw [hrec]; simp); rw [hrec] at this; exact this,
        hdone H3 _ (hI.putObj hi3 (Nat.le_refl _) h3l _) hgr (hop _)⟩
    · exact ⟨some c, _, by have := run_endLoop (P := P) hl3 (by rw [hrec]; simp); rw [hrec] at this; exact this,
        hstop c pre H3 _ hpre ((hIx c).putObj hi3 (Nat.le_refl _) h3l _) hgr (hop _)⟩
  refine ⟨w.heap.size, [], W1, { target := .fn (.func gf) lb, args := #[.func (.yield w.heap.size) #[] #[]] }, W1, gf,
    #[.func (.yield w.heap.size) #[] #[]] ++ lb, W1, ?_, ?_, fun _ _ => trivial, ?_, (fun h => by simp [Fence.wide] at h), ?_⟩
  · rw [← hW1, hrec]; exact run_enterLoop_inner hl₀ _ _ _ _ _
  · simp only [resolve, hg]
    simp [go_sem]
  · simp [invoke, go_sem, he _ _]
  · exact CallsIn.inRound l₀ (((callsIn_wide (n := n - 1)).2 hc).mono hpost)

/-! ### gen.sound, whatever the element's type: out of the contracts of its three texts -/

/-- 'func(x T) bool { over = over || !yield(x); return !over }'. -/
def SndYield (P : Program) (f TY TB : Nat) : Prop := ∀ (v y : Value) (ov Y : Nat) (W : World) (R : Ending → World → Prop), Boxed W ov TB (.bool false) → Boxed W Y TY y → CallV P y #[v] W R →
  (∀ e W', R e W' → ∃ b, e = .returned (.bool b) ∧ Boxed W' ov TB (.bool false)) →
  Calls P f #[v, .pointer (some ⟨ov, 0, none⟩), .pointer (some ⟨Y, 0, none⟩)] W fun e W'' => ∃ b W', R (.returned (.bool b)) W' ∧ e = .returned (.bool b) ∧ W'' = W'.setCell ⟨ov, 0, none⟩ (.bool (!b))
/-- 'func(yield func(T) bool) { .. }'. -/
def SndSeq (P : Program) (f f' TS TY TB : Nat) : Prop := ∀ (s y : Value) (S : Nat) (W : World) (fn : Fn) (lb : Array Value) (gs : FuncId) (ls : Array Value), y = .func fn #[] lb → s = .func (.func gs) #[] ls → Boxed W S TS s → ∀ (R : Ending → World → Prop),
  CallV P s #[.func (.func f') #[] #[.pointer (some ⟨W.heap.size + 1, 0, none⟩), .pointer (some ⟨W.heap.size, 0, none⟩)]] ((W.alloc (.cells #[y] TY)).alloc (.cells #[.bool false] TB)) R →
  (∀ e W', R e W' → (∃ v, e = .returned v) ∧ ∃ b, Boxed W' (W.heap.size + 1) TB (.bool b)) →
  Calls P f #[y, .pointer (some ⟨S, 0, none⟩)] W fun e W'' => (∃ v, e = .returned v) ∧ ∃ e W', R e W' ∧ W'' = W'.setCell ⟨W.heap.size + 1, 0, none⟩ (.bool true)
def SndNil (P : Program) (f TS TY : Nat) : Prop := ∀ (y : Value) (S : Nat) (W : World) (fn : Fn) (lb : Array Value), y = .func fn #[] lb → Boxed W S TS .nilFunc →
  Calls P f #[y, .pointer (some ⟨S, 0, none⟩)] W fun e W'' => (∃ v, e = .returned v) ∧ W'' = W.alloc (.cells #[y] TY)

/-- The caller's word with sound's own boxes beside it: yield at B, over at B + 1. -/
def SndJ {α : Type} (J : List α → (Nat → Prop) → World → Prop) (B TY TB : Nat) (y : Value) (ov : Bool) (q : List α) (H : Nat → Prop) (W : World) : Prop :=
  ∃ H0, H = (fun k => H0 k ∨ k = B + 1) ∧ ¬ H0 B ∧ ¬ H0 (B + 1) ∧ J q H0 W ∧ Boxed W B TY y ∧ Boxed W (B + 1) TB (.bool ov)

theorem SndJ.inv {α : Type} {J : List α → (Nat → Prop) → World → Prop} {B : Nat} (hJ : Inv B J) (TY TB : Nat) (y : Value) (ov : Bool) : Inv (B + 2) (SndJ J B TY TB y ov) := by
  constructor
  · rintro s H W W' ⟨H0, rfl, h1, h2, hj, hY, hO⟩ ho
    exact ⟨H0, rfl, h1, h2, hJ.stable _ _ _ _ hj (ho.mono fun b _ e => ⟨by omega, fun e' => e.2 (.inl e')⟩), ho.box hY (by omega), ho.box hO (by omega)⟩
  · rintro s H W ⟨H0, rfl, h1, h2, hj, hY, hO⟩ b (hb | rfl)
    · exact hJ.lt _ _ _ hj b hb
    · exact hO.lt

theorem sound_seqG {P : Program} {f f' TS TY TB : Nat} (h88 : SndYield P f' TY TB) (h87 : SndSeq P f f' TS TY TB) (e87 : Enters P f) (e88 : Enters P f')
    {α : Type} {enc : α → Value} {xs : List α} {s : Value} {C : Nat → Prop} {w : World} (h : SeqV P s C enc xs w) {b : Nat} (hb : Boxed w b TS s) :
    SeqV P (.func (.func f) #[] #[.pointer (some ⟨b, 0, none⟩)]) (fun k => C k ∨ k = b) enc xs w := by
  refine ⟨fun k hk => hk.elim (h.1 k) (fun e => e ▸ hb.lt), f, _, rfl, e87, ?_⟩
  rintro y J Jx H W ⟨fn, lb, hy⟩ hC hCH hJ hJx hr h0
  have hbW : Boxed W b TS s := (hC b (.inr rfl)).trans hb
  obtain ⟨gs, ls, hs⟩ : ∃ gs ls, s = .func (.func gs) #[] ls := by obtain ⟨_, gs, ls, hs, _⟩ := h; exact ⟨gs, ls, hs⟩
  have hHlt := hJ.lt _ _ _ h0
  have hH0 : ¬ H W.heap.size := fun e => by have := hHlt _ e; omega
  have hH1 : ¬ H (W.heap.size + 1) := fun e => by have := hHlt _ e; omega
  have e0 : Only H W ((W.alloc (.cells #[y] TY)).alloc (.cells #[.bool false] TB)) := (Only.alloc H W _).trans (Only.alloc H _ _) (Grows.refl _ _)
  have hsz : ((W.alloc (.cells #[y] TY)).alloc (.cells #[.bool false] TB)).heap.size = W.heap.size + 2 := by simp
  have bY : Boxed ((W.alloc (.cells #[y] TY)).alloc (.cells #[.bool false] TB)) W.heap.size TY y := (Boxed.new W TY y).alloc _
  have bO : Boxed ((W.alloc (.cells #[y] TY)).alloc (.cells #[.bool false] TB)) (W.heap.size + 1) TB (.bool false) := by
    have := Boxed.new (W.alloc (.cells #[y] TY)) TB (.bool false); rwa [World.size_alloc] at this
  have hj1 := hJ.alloc (hJ.alloc h0 (.cells #[y] TY)) (.cells #[.bool false] TB)
  have hfin := h87 s y b W fn lb gs ls hy hs hbW
  obtain ⟨W2, hW2⟩ : ∃ W2, (W.alloc (.cells #[y] TY)).alloc (.cells #[.bool false] TB) = W2 := ⟨_, rfl⟩
  rw [hW2] at e0 hsz bY bO hj1 hfin
  have hsW2 : SeqV P s C enc xs W2 := (h.later (fun k hk => hC k (.inl hk))).only e0 (fun k hk => hCH k (.inl hk))
  have hCH' : ∀ k, C k → ¬ (H k ∨ k = W.heap.size + 1) := fun k hk => by
    have h1 : k < W.heap.size := (h.later (fun k hk => hC k (.inl hk))).1 k hk
    rintro (e | e)
    · exact hCH k (.inl hk) e
    · omega
  have hcall := hsW2.call (y := .func (.func f') #[] #[.pointer (some ⟨W.heap.size + 1, 0, none⟩), .pointer (some ⟨W.heap.size, 0, none⟩)]) ⟨_, _, rfl⟩
    (J := SndJ J W.heap.size TY TB y false) (Jx := SndJ Jx W.heap.size TY TB y true) hCH' (by rw [hsz]; exact SndJ.inv hJ _ _ _ _) (by rw [hsz]; exact SndJ.inv hJx _ _ _ _) (by
      rintro pre x rest H1 W1 hx ⟨H0, rfl, h1, h2, hj, hY, hO⟩
      refine .inl ⟨f', _, rfl, e88, ?_⟩
      have key := h88 (enc x) y (W.heap.size + 1) W.heap.size W1 _ hO hY (hr pre x rest H0 W1 hx hj) (by
        rintro e W' ⟨H', hg, ho, hend⟩
        have hO' := ho.boxed hO h2
        rcases hend with ⟨rfl, _⟩ | ⟨rfl, _⟩
        · exact ⟨_, rfl, hO'⟩
        · exact ⟨_, rfl, hO'⟩)
      refine Calls.mono key ?_
      rintro e W'' ⟨bb, W', ⟨H', hg, ho, hend⟩, rfl, rfl⟩
      have hO' := ho.boxed hO h2
      have hY' := ho.boxed hY h1
      have h2' : ¬ H' (W.heap.size + 1) := fun e => (hg _ e).elim h2 (fun e' => by have := hO.lt; omega)
      have h1' : ¬ H' W.heap.size := fun e => (hg _ e).elim h1 (fun e' => by have := hY.lt; omega)
      have hset : ∀ u, Only (fun k => H' k ∨ k = W.heap.size + 1) W' (W'.setCell ⟨W.heap.size + 1, 0, none⟩ u) := fun u => Only.setCell (.inl (.inr rfl)) _
      have hYs : ∀ u, Boxed (W'.setCell ⟨W.heap.size + 1, 0, none⟩ u) W.heap.size TY y := fun u => (Only.setCell (H := fun k => k = W.heap.size + 1) (a := ⟨W.heap.size + 1, 0, none⟩) (.inl rfl) u).boxed hY' (by simp)
      refine ⟨fun k => H' k ∨ k = W.heap.size + 1, ?_, ?_, ?_⟩
      · rintro k (hk | hk)
        · exact (hg k hk).elim (fun e => .inl (.inl e)) .inr
        · exact .inl (.inr hk)
      · refine (ho.mono (H' := fun k => H0 k ∨ k = W.heap.size + 1) fun k _ e => .inl e).trans (hset _) ?_
        rintro k (hk | hk)
        · exact (hg k hk).elim (fun e => .inl (.inl e)) .inr
        · exact .inl (.inr hk)
      · rcases hend with ⟨he, hj'⟩ | ⟨he, hj'⟩
        · obtain rfl : bb = true := by simpa using he
          exact .inl ⟨rfl, H', rfl, h1', h2', hJ.setCell hj' (by simp) h2' _, hYs _, hO'.set _⟩
        · obtain rfl : bb = false := by simpa using he
          exact .inr ⟨rfl, H', rfl, h1', h2', hJx.setCell hj' (by simp) h2' _, hYs _, hO'.set _⟩)
    ⟨H, rfl, hH0, hH1, hj1, bY, bO⟩
  refine Calls.mono (hfin _ hcall (by
    rintro e W' ⟨hv, H', hg, ho, hend⟩
    rcases hend with ⟨H0, _, _, _, _, _, hO⟩ | ⟨pre, _, H0, _, _, _, _, _, hO⟩
    · exact ⟨hv, _, hO⟩
    · exact ⟨hv, _, hO⟩)) ?_
  rintro e W'' ⟨hv, e', W', ⟨_, H', hg, ho, hend⟩, rfl⟩
  refine ⟨hv, ?_⟩
  have hon : Only H W (W'.setCell ⟨W.heap.size + 1, 0, none⟩ (.bool true)) := by
    refine (e0.trans ho ?_).trans (Only.setCell (H := fun k => k = W.heap.size + 1) (a := ⟨W.heap.size + 1, 0, none⟩) (.inl rfl) _) ?_
    · rintro k (hk | hk)
      · exact .inl hk
      · exact .inr (by omega)
    · intro k hk; exact .inr (by omega)
  have hgr : ∀ H0 : Nat → Prop, H' = (fun k => H0 k ∨ k = W.heap.size + 1) → Grows H W H0 := fun H0 e k hk => by
    subst e
    exact (hg k (.inl hk)).elim (fun e => e.elim .inl (fun e => .inr (by omega))) (fun e => .inr (by omega))
  rcases hend with ⟨H0, e0', h1, h2, hj, _, _⟩ | ⟨pre, hpre, H0, e0', h1, h2, hj, _, _⟩
  · exact ⟨H0, hgr H0 e0', hon, .inl (hJ.setCell hj (by simp) h2 _)⟩
  · exact ⟨H0, hgr H0 e0', hon, .inr ⟨pre, hpre, hJx.setCell hj (by simp) h2 _⟩⟩

/-- sound of nil has no elements. -/
theorem sound_nilG {P : Program} {f TS TY : Nat} (h87 : SndNil P f TS TY) (e87 : Enters P f) {α : Type} {enc : α → Value} {w : World} {b : Nat} (hb : Boxed w b TS .nilFunc) :
    SeqV P (.func (.func f) #[] #[.pointer (some ⟨b, 0, none⟩)]) (fun k => k = b) enc ([] : List α) w := by
  refine ⟨fun k hk => hk ▸ hb.lt, f, _, rfl, e87, ?_⟩
  rintro y J Jx H W ⟨fn, lb, hy⟩ hC hCH hJ hJx hr h0
  refine Calls.mono (h87 y b W fn lb hy ((hC b rfl).trans hb)) ?_
  rintro e W' ⟨hv, rfl⟩
  exact ⟨hv, H, Grows.refl _ _, Only.alloc _ _ _, .inl (hJ.alloc h0 _)⟩

/-- What a call that makes a sequence answers: it stands on what it was handed (C) and on new memory; nothing that lay has turned. -/
def GivesSeq {α : Type} (P : Program) (C : Nat → Prop) (enc : α → Value) (xs : List α) (w : World) (e : Ending) (w' : World) : Prop :=
  ∃ t C', e = .returned t ∧ SeqV P t C' enc xs w' ∧ Below w.heap.size w w' ∧ ∀ b, C' b → C b ∨ w.heap.size ≤ b
theorem SeqV.func {α : Type} {P : Program} {s : Value} {C : Nat → Prop} {enc : α → Value} {xs : List α} {w0 : World} (h : SeqV P s C enc xs w0) : ∃ gs ls, s = .func (.func gs) #[] ls := by
  obtain ⟨_, gs, ls, hs, _⟩ := h; exact ⟨gs, ls, hs⟩

/-! ### A call of a function value inside a region that draws its order: the walk's simp must leave it be -/

/-- An operation's walk, sealed. -/
def WpV (F : Fence) (n : Nat) (P : Program) (o : Oper) (a : Act) (w : World) (K : Act → World → Prop) (Q : Exit → Act → World → Prop) : Prop := o.wpIn F n P a w K Q
theorem wpV_seal (F : Fence) (n : Nat) (P : Program) (dst : Option Tmp) (k : Tmp) (x : Operand) (ats : Array TypeId) (ty : TypeId) (pos : String) (after : Array Edge) (guard : Option (Nat × Bool)) (a : Act) (w : World) (K : Act → World → Prop) (Q : Exit → Act → World → Prop) :
    Oper.wpIn F n P { dst, op := .call { callee := .value (.tmp k), args := #[x], argTypes := ats }, type := ty, pos, after, guard } a w K Q =
    WpV F n P { dst, op := .call { callee := .value (.tmp k), args := #[x], argTypes := ats }, type := ty, pos, after, guard } a w K Q := rfl
theorem wpV_call {F : Fence} {n : Nat} {P : Program} {o : Oper} {a : Act} {w : World} {K : Act → World → Prop} {Q : Exit → Act → World → Prop} (hF : F = Fw F.round) (g x : Operand) (ts : Array TypeId)
    (hop : o.op = .call { callee := .value g, args := #[x], argTypes := ts }) (y v : Value) (ey : a.eval g = y) (ev : a.eval x = v) {R : Ending → World → Prop}
    (h : CallV P y #[v] w R) (hR : ∀ e w', R e w' → ∃ v, e = .returned v ∧ K (a.put o.dst v) w') : WpV F n P o a w K Q := by
  subst ey ev
  rw [hF]
  exact oper_callV g #[x] ts hop (by simpa using h) hR

theorem ite_callV {F : Fence} {n : Nat} {P : Program} {ops : Array Oper} {o : Oper} {a : Act} {w : World} {K : Act → World → Prop} {Q : Exit → Act → World → Prop} {E : Prop} (hF : F = Fw F.round) (hw : Region.wanted o (yielded ops a.tmps) = true)
    (g x : Operand) (ts : Array TypeId) (hop : o.op = .call { callee := .value g, args := #[x], argTypes := ts }) (y v : Value) (ey : a.eval g = y) (ev : a.eval x = v) {R : Ending → World → Prop}
    (h : CallV P y #[v] w R) (hR : ∀ e w', R e w' → ∃ v, e = .returned v ∧ K (a.put o.dst v) w') : if Region.wanted o (yielded ops a.tmps) = true then Oper.wpIn F n P o a w K Q else E := by
  rw [if_pos hw]
  exact wpV_call hF g x ts hop y v ey ev h hR

/-- Behind one call of yield, its answer as a letter. -/
theorem RoundR.bool {α : Type} {J Jx : List α → (Nat → Prop) → World → Prop} {q : List α} {H : Nat → Prop} {W : World} {e : Ending} {W' : World} (h : RoundR J Jx q H W e W') :
    ∃ b H', e = .returned (.bool b) ∧ Grows H W H' ∧ Only H W W' ∧ (if b = true then J q H' W' else Jx q H' W') := by
  obtain ⟨H', hg, ho, ⟨rfl, hj⟩ | ⟨rfl, hj⟩⟩ := h
  · exact ⟨true, H', rfl, hg, ho, hj⟩
  · exact ⟨false, H', rfl, hg, ho, by simpa using hj⟩

/-! ### A function that is handed in and only reads -/

/-- The value f is a function that answers g x, as long as the blocks Cf lie as they lie in w0; it turns nothing. -/
def PureF {α β : Type} (P : Program) (f : Value) (Cf : Nat → Prop) (enc : α → Value) (encU : β → Value) (g : α → β) (w0 : World) : Prop :=
  (∀ b, Cf b → b < w0.heap.size) ∧ (∃ fm lm, f = .func fm #[] lm) ∧
  ∀ (x : α) (W : World), (∀ b, Cf b → W.heap[b]? = w0.heap[b]?) → CallV P f #[enc x] W fun e W' => e = .returned (encU (g x)) ∧ Below W.heap.size W W'
theorem PureF.later {α β : Type} {P : Program} {f : Value} {Cf : Nat → Prop} {enc : α → Value} {encU : β → Value} {g : α → β} {w0 w : World} (h : PureF P f Cf enc encU g w0) (hC : ∀ b, Cf b → w.heap[b]? = w0.heap[b]?) : PureF P f Cf enc encU g w := by
  refine ⟨fun b hb => ?_, h.2.1, fun x W hW => h.2.2 x W fun b hb => (hW b hb).trans (hC b hb)⟩
  have h2 := hC b hb
  rw [Array.getElem?_eq_getElem (h.1 b hb)] at h2
  exact (Array.getElem?_eq_some_iff.1 h2).1
theorem PureF.below {α β : Type} {P : Program} {f : Value} {Cf : Nat → Prop} {enc : α → Value} {encU : β → Value} {g : α → β} {w0 w : World} (h : PureF P f Cf enc encU g w0) (hB : Below w0.heap.size w0 w) : PureF P f Cf enc encU g w :=
  h.later fun b hb => hB.block b (h.1 b hb)

/-- A caller's word, and that the blocks Cf lie as they lay in w0 and are not the caller's. -/
def WithC {β : Type} (Cf : Nat → Prop) (w0 : World) (J : β → (Nat → Prop) → World → Prop) (q : β) (H : Nat → Prop) (W : World) : Prop := J q H W ∧ ∀ b, Cf b → W.heap[b]? = w0.heap[b]? ∧ ¬ H b
theorem WithC.inv {β : Type} {Cf : Nat → Prop} {w0 : World} {J : β → (Nat → Prop) → World → Prop} {B : Nat} (hJ : Inv B J) (hC : ∀ b, Cf b → b < B) (hC0 : ∀ b, Cf b → b < w0.heap.size) : Inv B (WithC Cf w0 J) := by
  constructor
  · rintro s H W W' ⟨hj, hc⟩ ho
    refine ⟨hJ.stable _ _ _ _ hj ho, fun b hb => ⟨(ho.block b ?_ (fun e => by have := hC b hb; omega)).trans (hc b hb).1, (hc b hb).2⟩⟩
    have h2 := (hc b hb).1
    rw [Array.getElem?_eq_getElem (hC0 b hb)] at h2
    exact (Array.getElem?_eq_some_iff.1 h2).1
  · exact fun s H W h => hJ.lt _ _ _ h.1
/-- What steps on by the caller's own doing keeps it. -/
theorem WithC.step {β γ : Type} {Cf : Nat → Prop} {w0 : World} {J : β → (Nat → Prop) → World → Prop} {J' : γ → (Nat → Prop) → World → Prop} {q : β} {q' : γ} {H H' : Nat → Prop} {W W' : World} (hC0 : ∀ b, Cf b → b < w0.heap.size) (h : WithC Cf w0 J q H W) (hg : Grows H W H') (ho : Only H W W') (hj : J' q' H' W') : WithC Cf w0 J' q' H' W' := by
  refine ⟨hj, fun b hb => ?_⟩
  obtain ⟨h1, h2⟩ := h.2 b hb
  have hlt : b < W.heap.size := by
    rw [Array.getElem?_eq_getElem (hC0 b hb)] at h1
    exact (Array.getElem?_eq_some_iff.1 h1).1
  exact ⟨(ho.block b hlt h2).trans h1, fun e => (hg b e).elim h2 (fun e' => by omega)⟩
theorem WithC.round {α β : Type} {Cf : Nat → Prop} {w0 : World} {J Jx : List α → (Nat → Prop) → World → Prop} {L L' Lx : List β → (Nat → Prop) → World → Prop} {p : List β} {q : List α} {q' : List β} {H : Nat → Prop} {W : World} {e : Ending} {W' : World} (hC0 : ∀ b, Cf b → b < w0.heap.size)
    (h : WithC Cf w0 L p H W) (hr : RoundR J Jx q H W e W') (h1 : ∀ H W, J q H W → L' q' H W) (h2 : ∀ H W, Jx q H W → Lx q' H W) : RoundR (WithC Cf w0 L') Lx q' H W e W' := by
  obtain ⟨H', hg, ho, ⟨he, hj⟩ | ⟨he, hj⟩⟩ := hr
  · exact ⟨H', hg, ho, .inl ⟨he, h.step hC0 hg ho (h1 _ _ hj)⟩⟩
  · exact ⟨H', hg, ho, .inr ⟨he, h2 _ _ hj⟩⟩

/-- A function that answers a sequence (or nil) for each of the elements dom. -/
def SeqFn {α β : Type} (P : Program) (f : Value) (Cf : Nat → Prop) (enc : α → Value) (encU : β → Value) (ys : α → List β) (dom : List α) (w0 : World) : Prop :=
  (∀ b, Cf b → b < w0.heap.size) ∧ (∃ fm lm, f = .func fm #[] lm) ∧
  ∀ (x : α) (W : World), x ∈ dom → (∀ b, Cf b → W.heap[b]? = w0.heap[b]?) → CallV P f #[enc x] W fun e W' =>
    ∃ t C', e = .returned t ∧ ((t = .nilFunc ∧ ys x = []) ∨ SeqV P t C' encU (ys x) W') ∧ Below W.heap.size W W' ∧ ∀ b, C' b → Cf b ∨ W.heap.size ≤ b
theorem SeqFn.later {α β : Type} {P : Program} {f : Value} {Cf : Nat → Prop} {enc : α → Value} {encU : β → Value} {ys : α → List β} {dom : List α} {w0 w : World} (h : SeqFn P f Cf enc encU ys dom w0) (hC : ∀ b, Cf b → w.heap[b]? = w0.heap[b]?) : SeqFn P f Cf enc encU ys dom w := by
  refine ⟨fun b hb => ?_, h.2.1, fun x W hd hW => h.2.2 x W hd fun b hb => (hW b hb).trans (hC b hb)⟩
  have h2 := hC b hb
  rw [Array.getElem?_eq_getElem (h.1 b hb)] at h2
  exact (Array.getElem?_eq_some_iff.1 h2).1
theorem SeqFn.below {α β : Type} {P : Program} {f : Value} {Cf : Nat → Prop} {enc : α → Value} {encU : β → Value} {ys : α → List β} {dom : List α} {w0 w : World} (h : SeqFn P f Cf enc encU ys dom w0) (hB : Below w0.heap.size w0 w) : SeqFn P f Cf enc encU ys dom w :=
  h.later fun b hb => hB.block b (h.1 b hb)

end Go.Proofs.Ytikomlcghplchaa
