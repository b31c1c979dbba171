/- Function values, closures, yields, and loops over functions, in Sym's walk. No program is named here. -/
import Derived.Test.YtmkjhdiepkpdoaaLevD
import Derived.RangeFuncNested
import Derived.RangeFuncBound
import Derived.RangeFuncCalls
import Derived.RangeFuncLeaves
import Derived.TacticsInMore
namespace Go.Proofs.Ytmkjhdiepkpdoaa
open Go.RowKit Go.Shelf
set_option linter.unusedVariables false
set_option linter.unusedSimpArgs false
/-- Of what lay, no block below lo and none from hi on has turned. -/
structure Mid (lo hi : Nat) (w w' : World) : Prop where
 os : w'.os = w.os
 tape : w'.tape = w.tape
 output : w'.output = w.output
 size : w.heap.size ≤ w'.heap.size
 block : ∀ k, k < w.heap.size → (k < lo ∨ hi ≤ k) → w'.heap[k]? = w.heap[k]?
section
variable {lo hi : Nat} {w w' w'' : World}
theorem Mid.refl (lo hi : Nat) (w : World) : Mid lo hi w w := ⟨rfl, rfl, rfl, Nat.le_refl _, fun _ _ _ => rfl⟩
theorem Mid.trans (h : Mid lo hi w w') (k : Mid lo hi w' w'') : Mid lo hi w w'' :=
 ⟨k.os.trans h.os, k.tape.trans h.tape, k.output.trans h.output, Nat.le_trans h.size k.size, fun i hi hn => (k.block i (Nat.lt_of_lt_of_le hi h.size) hn).trans (h.block i hi hn)⟩
theorem Mid.mono {lo' hi' : Nat} (h : Mid lo hi w w') (h1 : lo' ≤ lo) (h2 : hi ≤ hi') : Mid lo' hi' w w' := ⟨h.os, h.tape, h.output, h.size, fun i hi hn => h.block i hi (by omega)⟩
theorem Mid.of_below {B : Nat} (h : Below B w w') (hB : lo ≤ B) (hs : w.heap.size ≤ hi) : Mid lo hi w w' := ⟨h.os, h.tape, h.output, h.size, fun i hi hn => h.block i (by omega)⟩
theorem Mid.of_old (h : Below w.heap.size w w') : Mid lo hi w w' := ⟨h.os, h.tape, h.output, h.size, fun i hi hn => h.block i hi⟩
theorem Mid.below (h : Mid lo hi w w') (hl : lo ≤ w.heap.size) : Below lo w w' := ⟨h.os, h.tape, h.output, h.size, fun i hi => h.block i (by omega) (.inl hi)⟩
/-- Behind a step of one's own, in a block that did not lie. -/
theorem Mid.only {b : Nat} (h : Mid lo hi w w') (o : Only b w' w'') (hb : (lo ≤ b ∧ b < hi) ∨ w.heap.size ≤ b) : Mid lo hi w w'' :=
 ⟨o.os.trans h.os, o.tape.trans h.tape, o.output.trans h.output, by rw [o.size]; exact h.size, fun i hi hn => (o.block i (by omega)).trans (h.block i hi hn)⟩
theorem Mid.old (h : Mid lo hi w w') (o : Below w'.heap.size w' w'') : Mid lo hi w w'' := h.trans (Mid.of_old o)
theorem Blk.mid {b t : Nat} {cs : List Value} (m : Blk w b t cs) (h : Mid lo hi w w') (hb : b < lo ∨ hi ≤ b) : Blk w' b t cs := (h.block b m.lt hb).trans m
end
/-! ### Operations -/
section
variable {P : Program} {n d : Nat} {l : List (Nat × Value)} {w : World}
/-- A closure. -/
theorem x_mkf {f : FuncId} {xs : List Operand} (vals : List Value) (hx : xs.map (ov l) = vals.map some) : Runs P n l w (.makeFunc (.func f) #[] xs.toArray) (.func (.func f) #[] vals.toArray) := fun ds a hF o ho => by
 have hv : xs.toArray.map a.eval = vals.toArray := by
  rw [← ov_args hF xs vals hx]
  simp
 simp [execOp, ho, hv, Instr.makeFunc]
end
section
variable {P : Program} {n d : Nat} {l : List (Nat × Value)} {w : World} {a : Act} {ops : Array Oper} {Q : Exit → Act → World → Prop} {rest : List Oper} {ty : TypeId} {pos : String} {af : Array Edge} {ds : List Deferred}
theorem run_callV (hF : Fs n a l (ds := ds)) {g : Operand} {fn : Fn} {lb : Array Value} {xs : List Operand} {ts : Array TypeId} {vals : List Value} (hg : ov l g = some (.func fn #[] lb)) (hargs : xs.map (ov l) = vals.map some) (o : Oper) (ho : o.op = .call { callee := .value g, args := xs.toArray, argTypes := ts }) :
    (execOp a.eval o).run P w = (invoke (.fn fn lb) vals.toArray).run P w := by
  have hv : xs.toArray.map a.eval = vals.toArray := by
    rw [← ov_args hF xs vals hargs]
    simp
  obtain ⟨dst, op, type, pos, after, guard⟩ := o
  simp only at ho
  subst ho
  have h1 : execOp a.eval { dst, op := .call { callee := .value g, args := xs.toArray, argTypes := ts }, type, pos, after, guard } =
    (do let d ← Deferred.ofValue (a.eval g) (xs.toArray.map a.eval); invoke d.target d.args) := rfl
  rw [h1, hF.ov hg, hv]
  have h2 : Deferred.ofValue (.func fn #[] lb) vals.toArray = pure { target := .fn fn lb, args := #[] ++ vals.toArray } := rfl
  rw [h2]
  simp only [Sem.run_bind, Sem.run_pure, Result.andThen, Array.empty_append]
/-- A call of a closure. -/
theorem s_callC (hF : Fs n a l (ds := ds)) {g : Operand} {f : FuncId} {lb : List Value} {xs : List Operand} {ts : Array TypeId} (vals : List Value) {R : Value → World → Prop} (hg : ov l g = some (.func (.func f) #[] lb.toArray)) (hent : Enters P f) (hargs : xs.map (ov l) = vals.map some) (hd : d < n)
    (hC : Calls P f (vals ++ lb).toArray w fun e w' => ∃ v, e = .returned v ∧ R v w')
    (h : ∀ v w' a', R v w' → Fs n a' ((d, v) :: l) (ds := ds) → wpList P ops Q rest a' w') : wpList P ops Q (⟨some d, .call { callee := .value g, args := xs.toArray, argTypes := ts }, ty, pos, af, none⟩ :: rest) a w := by
  unfold wpList
  rw [if_pos (wanted_none _ rfl _)]
  refine .inl ?_
  unfold Oper.wp
  rw [run_callV hF hg hargs _ rfl]
  have := hent (vals.toArray ++ lb.toArray) w
  simp only [invoke] at this ⊢
  rw [this]
  rw [List.append_toArray]
  refine Calls.mono hC ?_
  rintro e w' ⟨v, rfl, hR⟩
  exact h v w' _ hR (hF.put d hd v)
end
/-- The fence that lets everything in, in a round or not. -/
def Fw (r : Option Nat) : Fence := { fn := fun _ => True, depth := none, alive := false, round := r }
def noDefer (o : Oper) : Bool := match o.op with | .defer _ => false | _ => true
theorem callsIn_Fw {r : Option Nat} {m : Nat} {P : Program} {f : FuncId} {args : Array Value} {w : World} {R : Ending → World → Prop} (h : Calls P f args w R) : CallsIn (Fw r) m P f args w R := (callsIn_wide (n := m)).2 h
/-- A walk of a list holds within a round, too. -/
theorem listIn {r : Option Nat} {m : Nat} {P : Program} {ops : Array Oper} {Q : Exit → Act → World → Prop} (hQ : ∀ c a w, ¬ Q (.panic c) a w) (hO : ∀ a w, ¬ Q .outgrown a w) : ∀ (l : List Oper) (a : Act) (w : World), (l.all noDefer) = true → wpList P ops Q l a w → wpListIn (Fw r) m P ops Q l a w
 | [], a, w, _, h => h
 | o :: rest, a, w, hn, h => by
  simp only [List.all_cons, Bool.and_eq_true] at hn
  obtain ⟨hn1, hn2⟩ := hn
  have hnd : ∀ c, o.op ≠ .defer c := by
   intro c e
   simp [noDefer, e] at hn1
  unfold wpList at h
  unfold wpListIn
  split
  ·
   next hw =>
   rw [if_pos hw] at h
   rcases h with h | ⟨_, a', w', h⟩
   ·
    refine ⟨fun _ _ => trivial, ?_⟩
    rw [Oper.semAt_eq _ _ _ hnd]
    unfold Oper.wp at h
    cases hr : (execOp a.eval o).run P w with
    | ok x w' =>
     rw [hr] at h
     cases x with
     | value v => exact listIn hQ hO rest _ _ hn2 h
     | skip => exact listIn hQ hO rest _ _ hn2 h
     | defer d => exact listIn hQ hO rest _ _ hn2 h
     | enter f args =>
      refine ⟨fun h => absurd h (by simp [Fw]), callsIn_Fw (h.mono ?_)⟩
      intro e w'' he
      cases e with
      | returned v => exact listIn hQ hO rest _ _ hn2 he
      | panicked c => exact he
      | outgrown => exact he
     | row nm args =>
      refine ⟨fun h => absurd h (by simp [Fw]), ?_⟩
      exact fun c cs _ => let ⟨v, w', q, st⟩ := Rows.mono h (fun v w'' he => listIn hQ hO rest _ _ hn2 he) c cs; ⟨v, w', q, stepsIn_wide.2 st⟩
     | _ => exact (h : False).elim
    | halt x w' =>
     rw [hr] at h
     cases x with
     | panic v => exact h
     | _ => exact (h : False).elim
   ·
    exact absurd h (hO _ _)
  ·
   next hw =>
   rw [if_neg hw] at h
   exact ⟨fun _ _ => trivial, listIn hQ hO rest _ _ hn2 h⟩
/-! ### Code, in a round or not -/
section
variable {r : Option Nat} {m : Nat} {P : Program} {Q : Exit → Act → World → Prop} {a : Act} {w : World} {x y : Code} {n : Nat} {l : List (Nat × Value)} {ds : List Deferred}
/-- A way out that is a panic, or none at all, is not asked for. -/
structure Calm (Q : Exit → Act → World → Prop) : Prop where
 panic : ∀ c a w, ¬ Q (.panic c) a w
 outgrown : ∀ a w, ¬ Q .outgrown a w
theorem Calm.then (h : Calm Q) (K : Act → World → Prop) : Calm (Exit.then K Q) := ⟨h.panic, h.outgrown⟩
theorem Calm.block (h : Calm Q) (id : Nat) : Calm (Exit.inBlock id Q) := ⟨h.panic, h.outgrown⟩
theorem wpI_rs {id : Nat} {l : List Oper} (hQ : Calm Q) (hn : (l.all noDefer) = true) (h : ∀ K : Act → World → Prop, (∀ a w, y.wpIn (Fw r) m P Q a w → K a w) → wpList P l.toArray (Exit.then K Q) l a w) : (Code.seq (.region id l.toArray false) y).wpIn (Fw r) m P Q a w :=
 wpIn_seq_k fun K hK => wpIn_region_lit (listIn (hQ.then K).panic (hQ.then K).outgrown _ _ _ hn (h K hK))
theorem wpI_r {id : Nat} {l : List Oper} (hQ : Calm Q) (hn : (l.all noDefer) = true) (h : wpList P l.toArray Q l a w) : (Code.region id l.toArray false).wpIn (Fw r) m P Q a w :=
 wpIn_region_lit (listIn hQ.panic hQ.outgrown _ _ _ hn h)
theorem wpI_if {c : Operand} {b : Bool} (hF : Fs n a l (ds := ds)) (hc : ov l c = some (.bool b)) (h : (bif b then x else y).wpIn (Fw r) m P Q a w) : (Code.cond c x y).wpIn (Fw r) m P Q a w := by
 refine wpIn_cond (hF.ov hc) ?_
 cases b <;> exact h
theorem wpI_iff {c : Operand} {p : Prop} [Decidable p] (hF : Fs n a l (ds := ds)) (hc : ov l c = some (.bool (decide p))) (h1 : p → x.wpIn (Fw r) m P Q a w) (h2 : ¬ p → y.wpIn (Fw r) m P Q a w) : (Code.cond c x y).wpIn (Fw r) m P Q a w := by
 refine wpIn_cond (hF.ov hc) ?_
 by_cases hp : p
 ·
  simpa [hp] using h1 hp
 ·
  simpa [hp] using h2 hp
/-- A region that is walked within the fence. -/
theorem wp_rsI {id : Nat} {l : List Oper} (h : ∀ K : Act → World → Prop, (∀ a w, y.wp P Q a w → K a w) → wpListIn (Fw none) 0 P l.toArray (Exit.then K Q) l a w) : (Code.seq (.region id l.toArray false) y).wp P Q a w :=
 wp_seq_k fun K hK => (wpIn_wide (n := 0)).1 (wpIn_region_lit (h K hK))
end
/-! ### Yields -/
section
variable {P : Program} {n d : Nat} {l : List (Nat × Value)} {w : World} {a : Act} {ops : Array Oper} {Q : Exit → Act → World → Prop} {rest : List Oper} {ty : TypeId} {pos : String} {af : Array Edge} {ds : List Deferred} {op : Op} {v : Value} {r : Option Nat} {m : Nat}
theorem roundIn_wide' {n m : Nat} {P : Program} {l : Nat} {f : FuncId} {tmps : Array Value} {assign body : Code} {w : World} {R : Ending → World → Prop}
    (h : RoundIn Fence.wide n P l f tmps assign body w R) : RoundIn Fence.wide m P l f tmps assign body w R :=
  ⟨h.1, fun c cs _ => h.2 c cs (room_wide _)⟩
theorem i_val (hF : Fs n a l (ds := ds)) (hr : Runs P n l w op v) (hnd : noDefer ⟨some d, op, ty, pos, af, none⟩ = true) (hd : d < n) (h : ∀ a', Fs n a' ((d, v) :: l) (ds := ds) → wpListIn (Fw r) m P ops Q rest a' w) : wpListIn (Fw r) m P ops Q (⟨some d, op, ty, pos, af, none⟩ :: rest) a w := by
 unfold wpListIn
 rw [if_pos (wanted_none _ rfl _)]
 refine ⟨fun _ _ => trivial, ?_⟩
 rw [Oper.semAt_eq _ _ _ (by intro c e; simp only at e; subst e; cases hnd), hr _ a hF _ rfl]
 exact h _ (hF.put d hd v)
/-- The yield of a loop is called. -/
theorem i_yield (hF : Fs n a l (ds := ds)) {g : Operand} {L : Nat} {xs : List Operand} {ts : Array TypeId} (vals : List Value) {R : Value → World → Prop} (hg : ov l g = some (.func (.yield L) #[] #[])) (hargs : xs.map (ov l) = vals.map some) (hd : d < n)
    (hC : YieldAt Fence.wide 0 P L vals.toArray w fun e w' => ∃ v, e = .returned v ∧ R v w')
    (h : ∀ v w' a', R v w' → Fs n a' ((d, v) :: l) (ds := ds) → wpListIn (Fw r) m P ops Q rest a' w') : wpListIn (Fw r) m P ops Q (⟨some d, .call { callee := .value g, args := xs.toArray, argTypes := ts }, ty, pos, af, none⟩ :: rest) a w := by
  unfold wpListIn
  rw [if_pos (wanted_none _ rfl _)]
  refine ⟨fun _ _ => trivial, ?_⟩
  rw [Oper.semAt_eq _ _ _ (by intro c; simp), run_callV hF hg hargs _ rfl]
  obtain ⟨fn, tmps, assign, body, hy, hc⟩ := hC
  have hrun : (invoke (.fn (.yield L) #[]) vals.toArray).run P w = .ok (.round L fn tmps assign body) w := hy
  rw [hrun]
  refine ⟨fun h => absurd h (by simp [Fw]), ?_⟩
  refine RoundIn.mono (F := Fence.wide) (roundIn_wide' hc) ?_
  rintro e w' ⟨v, rfl, hR⟩
  exact h v w' _ hR (hF.put d hd v)
theorem i_end (h : Q .normal a w) : wpListIn (Fw r) m P ops Q [] a w := h
end
/-! ### 'for .. := range f' -/
/-- THE FUNCTION g (with what it holds, lb) HANDS evs ON, one by one, till it is told no. -/
def Hands (P : Program) (g : FuncId) (lb : Array Value) (lo hi : Nat) (w0 : World) (S : World → Prop) {E : Type} (Bd : E → Prop) (enc : E → List Value → Prop) (evs : List E) : Prop :=
 ∀ (L : Nat) (J Jx : List E → World → Prop), (∀ p W W', J p W → Below hi W W' → J p W') → (∀ p W W', Jx p W → Below hi W W' → Jx p W') → (∀ p e W, J (p ++ [e]) W → Bd e) →
  (∀ p e rest W vs, evs = p ++ e :: rest → enc e vs → J p W → hi ≤ W.heap.size → Below lo w0 W → YieldAt Fence.wide 0 P L vs.toArray W fun en W' => Mid lo hi W W' ∧ ((en = .returned (.bool true) ∧ J (p ++ [e]) W') ∨ (en = .returned (.bool false) ∧ Jx (p ++ [e]) W'))) →
  ∀ W, S W → J [] W → hi ≤ W.heap.size → Below lo w0 W → Calls P g (#[.func (.yield L) #[] #[]] ++ lb) W fun en W' => (∃ v, en = .returned v) ∧ Mid lo hi W W' ∧ (J evs W' ∨ ∃ p, p <+: evs ∧ Jx p W')
theorem only_putObj {l : Nat} {w : World} (o : Obj) : Only l w (w.putObj l o) := ⟨rfl, rfl, rfl, by simp, fun k hk => World.putObj_heap_other hk⟩
/-- How a round's body may be left. -/
def rndPost {E : Type} (lo hi : Nat) (I : List E → World → Prop) (Ix : Code → List E → World → Prop) (q : List E) (W : World) : Exit → Act → World → Prop
 | .normal, _, W' => Mid lo hi W W' ∧ I q W'
 | .ret, _, W' => Mid lo hi W W' ∧ Ix .ret q W'
 | .exit id, _, W' => Mid lo hi W W' ∧ Ix (.exit id) q W'
 | .goto t, _, W' => Mid lo hi W W' ∧ Ix (.goto t) q W'
 | .panic _, _, _ => False
 | .outgrown, _, _ => False
theorem rndPost.calm {E : Type} {lo hi : Nat} {I : List E → World → Prop} {Ix : Code → List E → World → Prop} {q : List E} {W : World} : Calm (rndPost lo hi I Ix q W) := ⟨fun _ _ _ h => h, fun _ _ h => h⟩
theorem false.calm : Calm (fun _ _ _ => False) := ⟨fun _ _ _ h => h, fun _ _ h => h⟩
theorem fold_put {n : Nat} {a : Act} {l : List (Nat × Value)} {ds : List Deferred} (hF : Fs n a l (ds := ds)) : ∀ (ps : List Nat) (vs : List Value), (∀ p ∈ ps, p < n) →
    Fs n { tmps := (ps.zip vs).foldl (fun t (p : Nat × Value) => t.setIfInBounds p.1 p.2) a.tmps, defers := [] } ((ps.zip vs).reverse ++ l) := by
  intro ps
  suffices H : ∀ (ps : List Nat) (vs : List Value) (a : Act) (l : List (Nat × Value)), Fs n a l → (∀ p ∈ ps, p < n) →
      Fs n { tmps := (ps.zip vs).foldl (fun t (p : Nat × Value) => t.setIfInBounds p.1 p.2) a.tmps, defers := [] } ((ps.zip vs).reverse ++ l) from
    fun vs hp => H ps vs { tmps := a.tmps, defers := [] } l ⟨hF.size, rfl, hF.slot⟩ hp
  intro ps
  induction ps with
  | nil => intro vs a l hF _; exact ⟨hF.size, rfl, hF.slot⟩
  | cons p ps ih =>
    intro vs a l hF hp
    cases vs with
    | nil => exact ⟨hF.size, rfl, hF.slot⟩
    | cons v vs =>
      have h1 := hF.put p (hp p (by simp)) v
      have h2 := ih vs _ _ h1 (fun q hq => hp q (by simp [hq]))
      simp only [List.zip_cons_cons, List.foldl_cons, List.reverse_cons, List.append_assoc, List.singleton_append]
      exact h2
/-- **'for p, .. := range g { .. }'**, outside every other such loop. -/
theorem wp_range {E : Type} {P : Program} {n : Nat} {g : Operand} {ps : List Nat} {assign body : Code} {Q : Exit → Act → World → Prop} {a : Act} {w w0 : World} {l : List (Nat × Value)}
    {gf : FuncId} {lb : Array Value} {enc : E → List Value → Prop} {evs : List E} (hF : Fs n a l) (hg : ov l g = some (.func (.func gf) #[] lb)) (hent : Enters P gf)
    (hi : Nat) (hhi : hi = w.heap.size) (h0w : Below w0.heap.size w0 w) {S : World → Prop} {Bd : E → Prop} (hH : Hands P gf lb w0.heap.size (w.heap.size + 2) w0 S Bd enc evs) (hS : ∀ W', Below w.heap.size w W' → S W') (hps : ∀ p ∈ ps, p < n) (hlen : ∀ e vs, enc e vs → vs.length = ps.length)
    (I : List E → World → Prop) (Ix : Code → List E → World → Prop) (hI : ∀ p W W', I p W → Below w.heap.size W W' → I p W') (hIx : ∀ c p W W', Ix c p W → Below w.heap.size W W' → Ix c p W') (hBd : ∀ p e W, I (p ++ [e]) W → Bd e) (h0 : I [] w)
    (round : ∀ (L : Nat) p e rest W a₁ vs, L = w.heap.size + 1 → evs = p ++ e :: rest → enc e vs → I p W → w.heap.size + 2 ≤ W.heap.size → Below w0.heap.size w0 W → Fs n a₁ ((ps.zip vs).reverse ++ l) →
      ∀ K : Act → World → Prop, (∀ a₂ W₂, Mid w0.heap.size w.heap.size W W₂ → (∀ W₃, Only L W₂ W₃ → body.wpIn (Fw (some L)) 0 P (rndPost w0.heap.size w.heap.size I Ix (p ++ [e]) W₃) a₂ W₃) → K a₂ W₂) →
      assign.wpIn (Fw (some L)) 0 P (Exit.then K (fun _ _ _ => False)) a₁ W)
    (done : ∀ a' W, I evs W → Mid w0.heap.size (w.heap.size + 2) w W → W.heap[w.heap.size]? = some (.deferred (some [])) → Fs n a' l (ds := [{ target := .collected w.heap.size, args := #[] }]) → Q .normal a' W)
    (stop : ∀ a' c p W, p <+: evs → Ix c p W → Mid w0.heap.size (w.heap.size + 2) w W → W.heap[w.heap.size]? = some (.deferred (some [])) → Fs n a' l (ds := [{ target := .collected w.heap.size, args := #[] }]) → c.wp P Q a' W) :
    (Code.rangeFunc g ps.toArray assign body).wp P Q a w := by
  refine (wpIn_wide (n := 0)).1 (wpIn_rangeFunc ?_)
  intro fn hfn
  obtain ⟨rec, hrec⟩ : ∃ rec : LoopState → Option Code → Loop, rec = fun st pe => { state := st, pending := pe, fn, tmps := a.tmps, params := ps.toArray, assign, body, defers := w.heap.size } := ⟨_, rfl⟩
  obtain ⟨W1, hW1⟩ : ∃ W1, (w.alloc (.deferred (some []))).alloc (.loop (rec .ready none)) = W1 := ⟨_, rfl⟩
  have hL1 : W1.heap[w.heap.size + 1]? = some (.loop (rec .ready none)) := by
    rw [← hW1]; have := World.alloc_heap_new (w.alloc (.deferred (some []))) (.loop (rec .ready none)); rwa [World.size_alloc] at this
  have hK1 : W1.heap[w.heap.size]? = some (.deferred (some [])) := by
    rw [← hW1]; exact (Below.heap_alloc _ _ _ (by simp)).trans (World.alloc_heap_new w _)
  have hsz : W1.heap.size = w.heap.size + 2 := by rw [← hW1]; simp
  have hB1 : Below w.heap.size w W1 := by rw [← hW1]; exact ((Below.refl _ _).alloc (Nat.le_refl _) _).alloc (by simp) _
  have hlo : w0.heap.size ≤ w.heap.size := h0w.size
  -- what holds between rounds
  let J : List E → World → Prop := fun p W => I p W ∧ W.heap[w.heap.size + 1]? = some (.loop (rec .ready none)) ∧ W.heap[w.heap.size]? = some (.deferred (some []))
  let Jx : List E → World → Prop := fun p W => ∃ c, Ix c p W ∧ W.heap[w.heap.size + 1]? = some (.loop (rec .done (some c))) ∧ W.heap[w.heap.size]? = some (.deferred (some []))
  have hJ : ∀ p W W', J p W → Below (w.heap.size + 2) W W' → J p W' := fun p W W' h hB => ⟨hI p W W' h.1 (hB.mono (by omega)), (hB.block _ (by omega)).trans h.2.1, (hB.block _ (by omega)).trans h.2.2⟩
  have hJx : ∀ p W W', Jx p W → Below (w.heap.size + 2) W W' → Jx p W' := fun p W W' ⟨c, h⟩ hB => ⟨c, hIx c p W W' h.1 (hB.mono (by omega)), (hB.block _ (by omega)).trans h.2.1, (hB.block _ (by omega)).trans h.2.2⟩
  have hc := hH (w.heap.size + 1) J Jx hJ hJx (fun p e W h => hBd p e W h.1) (by
    rintro p e rest W vs he hvs ⟨hi1, hl1, hd1⟩ hWs hW0
    have hlt : w.heap.size + 1 < W.heap.size := by omega
    have hy := run_yield (P := P) (args := vs.toArray) hl1 (by rw [hrec]; simp [hlen e vs hvs])
    rw [hrec] at hy
    refine ⟨fn, _, assign, body, hy, roundIn_wide' (n := 0) (roundIn_of_wpIn trivial ?_)⟩
    have hFa := fold_put hF ps vs hps
    have hz : (ps.toArray.zip vs.toArray) = (ps.zip vs).toArray := by simp
    rw [hz]
    simp only [List.foldl_toArray]
    refine round (w.heap.size + 1) p e rest W _ vs rfl he hvs hi1 hWs hW0 hFa _ ?_
    intro a₂ W₂ hM hb
    have hl2 : W₂.heap[w.heap.size + 1]? = some (.loop (rec .ready none)) := (hM.block _ (by omega) (.inr (by omega))).trans hl1
    have hd2 : W₂.heap[w.heap.size]? = some (.deferred (some [])) := (hM.block _ (by omega) (.inr (by omega))).trans hd1
    have hlt2 : w.heap.size + 1 < W₂.heap.size := Nat.lt_of_lt_of_le hlt hM.size
    refine ⟨_, run_beginRound hl2 (by rw [hrec]), ?_⟩
    have ho3 := only_putObj (l := w.heap.size + 1) (w := W₂) (.loop { rec .ready none with state := .busy })
    have hl3 : (W₂.putObj (w.heap.size + 1) (.loop { rec .ready none with state := .busy })).heap[w.heap.size + 1]? = some (.loop { rec .ready none with state := .busy }) := World.putObj_heap_same hlt2
    refine wpIn_mono (hb _ ho3) ?_
    have fin : ∀ (jump : Option Code) (W4 : World), Mid w0.heap.size w.heap.size (W₂.putObj (w.heap.size + 1) (.loop { rec .ready none with state := .busy })) W4 →
        (Instr.endRound (w.heap.size + 1) jump).run P W4 = .ok (.bool jump.isNone) (W4.putObj (w.heap.size + 1) (.loop (rec (if jump.isNone then .ready else .done) jump))) ∧
        (W4.putObj (w.heap.size + 1) (.loop (rec (if jump.isNone then .ready else .done) jump))).heap[w.heap.size + 1]? = some (.loop (rec (if jump.isNone then .ready else .done) jump)) ∧
        (W4.putObj (w.heap.size + 1) (.loop (rec (if jump.isNone then .ready else .done) jump))).heap[w.heap.size]? = some (.deferred (some [])) ∧
        Mid w0.heap.size (w.heap.size + 2) W (W4.putObj (w.heap.size + 1) (.loop (rec (if jump.isNone then .ready else .done) jump))) := by
      intro jump W4 h4
      have hsz3 := ho3.size
      have hl4 := (h4.block (w.heap.size + 1) (by omega) (.inr (by omega))).trans hl3
      have hd4 := (h4.block w.heap.size (by omega) (.inr (by omega))).trans ((ho3.block w.heap.size (by omega)).trans hd2)
      have hr := run_endRound (P := P) jump hl4
      refine ⟨?_, World.putObj_heap_same (Array.getElem?_eq_some_iff.1 hl4).1, (World.putObj_heap_other (by omega)).trans hd4, ?_⟩
      · rw [hrec] at hr ⊢; exact hr
      · have m1 := hM.mono (lo' := w0.heap.size) (hi' := w.heap.size + 2) (Nat.le_refl _) (by omega)
        have m2 := m1.only ho3 (.inl ⟨by omega, by omega⟩)
        have m3 := m2.trans (h4.mono (lo' := w0.heap.size) (hi' := w.heap.size + 2) (Nat.le_refl _) (by omega))
        exact m3.only (only_putObj _) (.inl ⟨by omega, by omega⟩)
    have keepI : ∀ q W4 o, I q W4 → I q (W4.putObj (w.heap.size + 1) o) := fun q W4 o h => hI _ _ _ h ((only_putObj o).below (by omega))
    have keepIx : ∀ c q W4 o, Ix c q W4 → Ix c q (W4.putObj (w.heap.size + 1) o) := fun c q W4 o h => hIx _ _ _ _ h ((only_putObj o).below (by omega))
    rintro ex a3 W4 hp
    cases ex with
    | normal =>
      obtain ⟨h4, hi4⟩ := hp
      obtain ⟨hr, e1, e2, e3⟩ := fin none W4 h4
      exact ⟨_, _, hr, e3, .inl ⟨rfl, keepI _ _ _ hi4, e1, e2⟩⟩
    | ret =>
      obtain ⟨h4, hi4⟩ := hp
      obtain ⟨hr, e1, e2, e3⟩ := fin (some .ret) W4 h4
      exact ⟨_, _, hr, e3, .inr ⟨rfl, .ret, keepIx _ _ _ _ hi4, e1, e2⟩⟩
    | exit id =>
      obtain ⟨h4, hi4⟩ := hp
      obtain ⟨hr, e1, e2, e3⟩ := fin (some (.exit id)) W4 h4
      exact ⟨_, _, hr, e3, .inr ⟨rfl, .exit id, keepIx _ _ _ _ hi4, e1, e2⟩⟩
    | goto t =>
      obtain ⟨h4, hi4⟩ := hp
      obtain ⟨hr, e1, e2, e3⟩ := fin (some (.goto t)) W4 h4
      exact ⟨_, _, hr, e3, .inr ⟨rfl, .goto t, keepIx _ _ _ _ hi4, e1, e2⟩⟩
    | panic ch => exact hp.elim
    | outgrown => exact hp.elim) W1 (hS W1 hB1) ⟨hI _ _ _ h0 hB1, hL1, hK1⟩ (by omega) (h0w.trans (hB1.mono hlo))
  have hpost : ∀ en W2, ((∃ v, en = .returned v) ∧ Mid w0.heap.size (w.heap.size + 2) W1 W2 ∧ (J evs W2 ∨ ∃ p, p <+: evs ∧ Jx p W2)) →
      rangePost Fence.wide 0 P (w.heap.size + 1) Q { a with defers := [{ target := .collected w.heap.size, args := #[] }] ++ a.defers } en W2 := by
    rintro en W2 ⟨⟨v, rfl⟩, hM, hend⟩
    have hM0 : Mid w0.heap.size (w.heap.size + 2) w W2 := (Mid.of_below (hi := w.heap.size + 2) hB1 hlo (by omega)).trans hM
    have hFs : Fs n { a with defers := [{ target := .collected w.heap.size, args := #[] }] ++ a.defers } l (ds := [{ target := .collected w.heap.size, args := #[] }]) := ⟨hF.size, by simp [hF.defers], hF.slot⟩
    rcases hend with ⟨hi2, hl2, hd2⟩ | ⟨p, hp, c, hi2, hl2, hd2⟩
    · refine ⟨none, _, by have := run_endLoop (P := P) hl2 (by rw [hrec]; simp); rw [hrec] at this; exact this, ?_⟩
      exact done _ _ (hI _ _ _ hi2 ((only_putObj _).below (by omega))) (hM0.only (only_putObj _) (.inl ⟨by omega, by omega⟩)) ((World.putObj_heap_other (by omega)).trans hd2) hFs
    · refine ⟨some c, _, by have := run_endLoop (P := P) hl2 (by rw [hrec]; simp); rw [hrec] at this; exact this, ?_⟩
      exact (wpIn_wide (n := 0)).2 (stop _ c p _ hp (hIx _ _ _ _ hi2 ((only_putObj _).below (by omega))) (hM0.only (only_putObj _) (.inl ⟨by omega, by omega⟩)) ((World.putObj_heap_other (by omega)).trans hd2) hFs)
  refine ⟨w.heap.size + 1, [{ target := .collected w.heap.size, args := #[] }], W1, { target := .fn (.func gf) lb, args := #[.func (.yield (w.heap.size + 1)) #[] #[]] }, W1, gf,
    #[.func (.yield (w.heap.size + 1)) #[] #[]] ++ lb, W1, ?_, ?_, fun _ _ => trivial, ?_, (fun h => by simp [Fence.wide] at h), ?_⟩
  · rw [← hW1, hrec]; exact run_enterLoop_outer _ _ _ _ _
  · simp only [resolve, hF.ov hg]
    simp [go_sem]
  · simp [invoke, go_sem, hent _ _]
  · exact ((callsIn_wide (n := 0 - 1)).2 hc).mono hpost
/-! ### A function that holds such a loop -/
theorem calls_fsM {P : Program} {f : FuncId} {fn : Func} {c : Code} {w : World} {R : Ending → World → Prop} (n : Nat) (L : List (Nat × Value)) {vs : List Value}
    (hf : P.funcs[f]? = some fn) (hb : fn.body = some c) (hn : fn.ntmps = n) (hl : L.map (·.2) = vs) (hi : L.map (·.1) = List.range L.length) (hm : Nat.ble L.length n = true)
    (h : ∀ a, Fs n a L → c.wp P (bodyPostM Fence.wide 0 P fn R) a w) : Calls P f vs.toArray w R := by
  refine (callsIn_wide (n := 0)).1 (callsIn_of_wp_marks hf hb trivial ((wpIn_wide (n := 0)).2 (h _ ?_)) rfl)
  have hlen : vs.length = L.length := by rw [← hl]; simp
  have hm := Nat.le_of_ble_eq_true hm
  have hL : (vs.zipIdx 0 |>.map fun p => (p.2, p.1)) = L := by
    rw [← hl]
    apply List.ext_getElem?
    intro j
    simp only [List.getElem?_map, List.getElem?_zipIdx, Option.map_map]
    have := congrArg (·[j]?) hi
    simp only [List.getElem?_map] at this
    cases hj : L[j]? with
    | none => simp
    | some p =>
      have hlt : j < L.length := by
        rcases Nat.lt_or_ge j L.length with h | h
        · exact h
        · rw [List.getElem?_eq_none h] at hj; cases hj
      rw [hj, List.getElem?_range hlt] at this
      simp at this
      simp [← this]
  rw [hn]
  have := Fs.start vs (n - vs.length)
  rw [hL, show vs.length + (n - vs.length) = n by omega] at this
  simpa using this
section
variable {P : Program} {n : Nat} {l : List (Nat × Value)} {w : World} {a : Act} {fn : Func} {R : Ending → World → Prop}
/-- It returns, behind the loop. -/
theorem resM {D : Nat} {v : Value} (hF : Fs n a l (ds := [{ target := .collected D, args := #[] }])) (hD : w.heap[D]? = some (.deferred (some []))) (h : ∀ w', Only D w w' → (results fn a.tmps).run P w' = .ok v w' ∧ R (.returned v) w') : bodyPostM Fence.wide 0 P fn R .ret a w := by
 show LeavesInM Fence.wide 0 P fn a.tmps R a.defers .returning w
 rw [hF.defers]
 refine ⟨by simp, .inl ⟨_, _, rfl, run_takeDeferred hD, ?_⟩⟩
 exact ⟨v, h _ (only_putObj _)⟩
variable {ds : List Deferred}
theorem run_cell2 {t r b t' r' b' : Nat} {v v' : Value} (hF : Fs n a l (ds := ds)) (hr : fn.results = #[.cell r t, .cell r' t']) (hl : lk l r = some (.pointer (some ⟨b, 0, none⟩))) (hl' : lk l r' = some (.pointer (some ⟨b', 0, none⟩))) (hL : (Instr.loadAt t (.pointer (some ⟨b, 0, none⟩))).run P w = .ok v w) (hL' : (Instr.loadAt t' (.pointer (some ⟨b', 0, none⟩))).run P w = .ok v' w) : (results fn a.tmps).run P w = .ok (.tuple #[v, v']) w := by
 have h1 := hF.slot r _ hl
 have h2 := hF.slot r' _ hl'
 simp [Instr.loadAt, Instr.sureAddr] at hL hL'
 simp [results, hr, h1, h2, asAddr, hL, hL']
theorem run_cellt {t r b r' : Nat} {v v' : Value} (hF : Fs n a l (ds := ds)) (hr : fn.results = #[.cell r t, .tmp r']) (hl : lk l r = some (.pointer (some ⟨b, 0, none⟩))) (hl' : lk l r' = some v') (hL : (Instr.loadAt t (.pointer (some ⟨b, 0, none⟩))).run P w = .ok v w) : (results fn a.tmps).run P w = .ok (.tuple #[v, v']) w := by
 have h1 := hF.slot r _ hl
 have h2 := hF.slot r' _ hl'
 simp [Instr.loadAt, Instr.sureAddr] at hL
 simp [results, hr, h1, h2, asAddr, hL]
end
end Go.Proofs.Ytmkjhdiepkpdoaa

namespace Go.Proofs.Ytmkjhdiepkpdoaa
open Go.RowKit Go.Shelf
set_option linter.unusedVariables false
set_option linter.unusedSimpArgs false
theorem flat4 : Flat Try.prog 4 = true := by kernel_rfl
theorem flat9 : Flat Try.prog 9 = true := by kernel_rfl
theorem flat25 : Flat Try.prog 25 = true := by kernel_rfl
theorem flat64 : Flat Try.prog 63 = true := by kernel_rfl
theorem wide27 : Wide Try.prog 27 8 = true := by kernel_rfl
theorem wide70 : Wide Try.prog 69 2 = true := by kernel_rfl
theorem wide93 : Wide Try.prog 78 2 = true := by kernel_rfl
theorem el25 : Elem Try.prog 25 27 8 120 := elem_of (by kernel_rfl)
theorem el122 : Elem Try.prog 111 78 2 16 := elem_of (by kernel_rfl)
abbrev nilS : Value := .slice none 0 0
abbrev z8 : List Value := [.int .i64 0, .int .i64 0, .string (ByteArray.mk #[]), .int .i64 0, .int .i64 0, nilS, nilS, nilS]
theorem zero4 : (Try.prog.info? 4).bind (·.zero) = some (.bool false) := by kernel_rfl
theorem zero25 : (Try.prog.info? 25).bind (·.zero) = some nilS := by kernel_rfl
theorem zero64 : (Try.prog.info? 63).bind (·.zero) = some (.pointer none) := by kernel_rfl
theorem zero27 : (Try.prog.info? 27).bind (·.zero) = some (.agg z8.toArray) := by kernel_rfl
theorem zero70 : (Try.prog.info? 69).bind (·.zero) = some (.agg [Value.int .i64 0, Value.int .i64 0].toArray) := by kernel_rfl
theorem zero93 : (Try.prog.info? 78).bind (·.zero) = some (.agg [Value.int .i64 0, Value.int .i64 0].toArray) := by kernel_rfl
theorem fa27_0 : fldB Try.prog 27 0 0 = true := by kernel_rfl
theorem fa27_1 : fldB Try.prog 27 1 1 = true := by kernel_rfl
theorem fa27_2 : fldB Try.prog 27 2 2 = true := by kernel_rfl
theorem fa27_3 : fldB Try.prog 27 3 3 = true := by kernel_rfl
theorem fa27_4 : fldB Try.prog 27 4 6 = true := by kernel_rfl
theorem fa27_5 : fldB Try.prog 27 5 7 = true := by kernel_rfl
theorem fa70_0 : fldB Try.prog 69 0 0 = true := by kernel_rfl
theorem fa70_1 : fldB Try.prog 69 1 1 = true := by kernel_rfl
theorem fa93_0 : fldB Try.prog 78 0 0 = true := by kernel_rfl
theorem fa93_1 : fldB Try.prog 78 1 1 = true := by kernel_rfl
theorem fa110_0 : fldB Try.prog 102 0 0 = true := by kernel_rfl
/-- A term's eight cells. -/
structure C8 where
 k : Int
 n : Int
 s : ByteArray
 l : C3
 ls : Value
 ts : Value
def tc (x : C8) : List Value := [.int .i64 x.k, .int .i64 x.n, .string x.s, .int .i64 x.l.1, .int .i64 x.l.2.1, x.l.2.2, x.ls, x.ts]
abbrev tv (x : C8) : Value := .agg (tc x).toArray
theorem tc_len (x : C8) : (tc x).length = 8 := rfl
theorem fm8_get : ∀ (xs : List C8) (i j : Nat) (x : C8) (u : Value), xs[i]? = some x → (tc x)[j]? = some u → (xs.flatMap tc)[i * 8 + j]? = some u
 | [], i, j, x, u, h1, _ => by simp at h1
 | y :: xs, 0, j, x, u, h1, h2 => by
  simp at h1
  subst h1
  have hj : j < 8 := (List.getElem?_eq_some_iff.1 h2).1
  rw [List.flatMap_cons, List.getElem?_append_left (by simp [tc]; omega), Nat.zero_mul, Nat.zero_add, h2]
 | y :: xs, i + 1, j, x, u, h1, h2 => by
  rw [List.flatMap_cons, List.getElem?_append_right (by simp [tc]; omega), show (i + 1) * 8 + j - (tc y).length = i * 8 + j by simp [tc]; omega]
  exact fm8_get xs i j x u (by simpa using h1) h2
theorem fm8_len (xs : List C8) : (xs.flatMap tc).length = xs.length * 8 := by
 induction xs with
 | nil => rfl
 | cons x xs ih => rw [List.flatMap_cons, List.length_append, ih, tc_len, List.length_cons]; omega
theorem own_slice (a : Option Addr) (n c m d : Nat) : (Value.slice a n c).ownBlock = (Value.slice a m d).ownBlock := by cases a <;> rfl
/-- A slice of n elements of k cells; its block, if it has elements, is one of A. -/
def Rn (W : World) (A : Nat → Prop) (v : Value) (k n : Nat) (cs : List Value) : Prop := Rd W v k n cs ∧ (0 < n → ∀ b, v.ownBlock = some b → A b)
section
variable {W W' : World} {A B : Nat → Prop} {v : Value} {k n : Nat} {cs : List Value}
theorem Rn.keep (h : Rn W A v k n cs) (hs : W.heap.size ≤ W'.heap.size) (hk : ∀ k, A k → k < W.heap.size → W'.heap[k]? = W.heap[k]?) : Rn W' A v k n cs := by
 rcases Nat.eq_zero_or_pos n with hn | hn
 ·
  refine ⟨⟨h.1.1, ?_⟩, h.2⟩
  obtain ⟨a, c, h1, h2, h3⟩ := h.1.form
  exact .inl ⟨a, c, by rw [h1, hn], hn, h3⟩
 ·
  exact ⟨h.1.keep hs (fun b hb hl => hk b (h.2 hn b hb) hl), h.2⟩
theorem Rn.mono (hAB : ∀ k, A k → B k) (h : Rn W A v k n cs) : Rn W B v k n cs := ⟨h.1, fun hn b hb => hAB b (h.2 hn b hb)⟩
theorem Rn.nil (W : World) (A : Nat → Prop) (k : Nat) : Rn W A nilS k 0 [] := ⟨Rd.nil W k, fun h => by omega⟩
theorem Rn.lt (h : Rn W A v k n cs) : Rn W (fun k => A k ∧ k < W.heap.size) v k n cs := ⟨h.1, fun hn b hb => ⟨h.2 hn b hb, h.1.lt hn hb⟩⟩
end
theorem Rd.n {W : World} {v : Value} {k m : Nat} {cs : List Value} (h : Rd W v k m cs) : Rn W (fun k => k < W.heap.size) v k m cs := ⟨h, fun hn b hb => h.lt hn hb⟩
/-- x reads as the level l, in blocks of A. -/
inductive RLn (W : World) (A : Nat → Prop) : C3 → Lv → Prop where
 | mk {k n : Int} {v : Value} {xs : List C3} {ls : List Lv} (hR : Rn W A v 3 xs.length (xs.flatMap lc)) (hl : xs.length = ls.length) (hk : ∀ (i : Nat) x l, xs[i]? = some x → ls[i]? = some l → RLn W A x l) (hbd9 : ls.length ≤ 9223372036854775807 := by first | (simp; done) | assumption | omega) : RLn W A (k, n, v) (.mk k n ls)
section
variable {W W' : World} {A B : Nat → Prop} {x : C3} {l : Lv}
theorem RLn.rl (h : RLn W A x l) : RL W x l := by
 induction h with
 | mk hR hl hk hbd9 ih => exact .mk hR.1 hl ih hbd9
theorem RL.n (h : RL W x l) : RLn W (fun k => k < W.heap.size) x l := by
 induction h with
 | mk hR hl hk hbd9 ih => exact .mk hR.n hl ih hbd9
theorem RLn.keep (hs : W.heap.size ≤ W'.heap.size) (hk : ∀ k, A k → k < W.heap.size → W'.heap[k]? = W.heap[k]?) (h : RLn W A x l) : RLn W' A x l := by
 induction h with
 | mk hR hl _ hbd9 ih => exact .mk (hR.keep hs hk) hl ih hbd9
theorem RLn.mono (hAB : ∀ k, A k → B k) (h : RLn W A x l) : RLn W B x l := by
 induction h with
 | mk hR hl _ hbd9 ih => exact .mk (hR.mono hAB) hl ih hbd9
theorem RLn.slice (h : RLn W A x l) : ∃ n cs, Rd W x.2.2 3 n cs := h.rl.slice
end
/-- A slice of levels. -/
def RVn (W : World) (A : Nat → Prop) (v : Value) (ls : List Lv) : Prop := ∃ xs : List C3, Rn W A v 3 xs.length (xs.flatMap lc) ∧ xs.length = ls.length ∧ ∀ (i : Nat) x l, xs[i]? = some x → ls[i]? = some l → RLn W A x l
section
variable {W W' : World} {A B : Nat → Prop} {v : Value} {ls : List Lv}
theorem RVn.keep (hs : W.heap.size ≤ W'.heap.size) (hk : ∀ k, A k → k < W.heap.size → W'.heap[k]? = W.heap[k]?) : RVn W A v ls → RVn W' A v ls :=
 fun ⟨xs, h1, h2, h3⟩ => ⟨xs, h1.keep hs hk, h2, fun i x l e1 e2 => (h3 i x l e1 e2).keep hs hk⟩
theorem RVn.mono (hAB : ∀ k, A k → B k) : RVn W A v ls → RVn W B v ls := fun ⟨xs, h1, h2, h3⟩ => ⟨xs, h1.mono hAB, h2, fun i x l e1 e2 => (h3 i x l e1 e2).mono hAB⟩
theorem RVn.nil (W : World) (A : Nat → Prop) : RVn W A nilS [] := ⟨[], Rn.nil W A 3, rfl, fun i x l h => by simp at h⟩
theorem RVn.form (h : RVn W A v ls) : ∃ a c, v = .slice a ls.length c ∧ ls.length ≤ c ∧ (a = none → c = 0) := by
 obtain ⟨xs, h1, h2, _⟩ := h
 rw [← h2]
 exact h1.1.form
theorem RVn.one (h : RVn W A v ls) : v.oneCell' = true := by
 obtain ⟨a, c, rfl, _⟩ := h.form
 rfl
end
/-- A term, as far as it is looked at; m: how many kids more there are (of an odd one: how many there are). -/
inductive CT where
 | var (n : Int) (m : Nat)
 | sort (l : Lv) (m : Nat)
 | cst (s : ByteArray) (ls : List Lv) (m : Nat)
 | odd (k : Int) (m : Nat)
 | two (k : Int) (a b : CT) (m : Nat)
 | lt (a b c : CT) (m : Nat)
def arT (k : Int) : Int := if k = 1 ∨ k = 2 ∨ k = 7 then 0 else if k = 3 ∨ k = 4 ∨ k = 6 then 2 else if k = 5 then 3 else -1
def CT.size : CT → Nat
 | .two _ a b _ => a.size + b.size + 1
 | .lt a b c _ => a.size + b.size + c.size + 1
 | _ => 1
def CT.dep : CT → Nat
 | .two _ a b _ => max a.dep b.dep + 1
 | .lt a b c _ => max a.dep (max b.dep c.dep) + 1
 | _ => 1
def CT.kids : CT → List CT
 | .two _ a b _ => [a, b]
 | .lt a b c _ => [a, b, c]
 | _ => []
def CT.kd : CT → Int
 | .var .. => 1
 | .sort .. => 2
 | .cst .. => 7
 | .odd k _ => k
 | .two k .. => k
 | .lt .. => 5
/-- How many kids its list has. -/
def CT.len : CT → Nat
 | .var _ m => m
 | .sort _ m => m
 | .cst _ _ m => m
 | .odd _ m => m
 | .two _ _ _ m => m + 2
 | .lt _ _ _ m => m + 3
/-- How many binders of its own its kid i stands beneath. -/
def CT.bnd : CT → Nat → Int
 | .two k _ _ _, i => if (k = 3 ∨ k = 4) ∧ i = 1 then 1 else 0
 | .lt .., i => if i = 2 then 1 else 0
 | _, _ => 0
def in64 (z : Int) : Prop := -9223372036854775808 ≤ z ∧ z < 9223372036854775808
/-- What every term's cells are. -/
def Ok (W : World) (A : Nat → Prop) (x : C8) : Prop := (∃ l, RLn W A x.l l) ∧ (∃ ls, RVn W A x.ls ls)
def RC (W : World) (A : Nat → Prop) : CT → C8 → Prop
 | .var n m, x => x.k = 1 ∧ x.n = n ∧ in64 n ∧ (∃ cs, Rn W A x.ts 8 m cs) ∧ Ok W A x
 | .sort l m, x => x.k = 2 ∧ RLn W A x.l l ∧ (∃ cs, Rn W A x.ts 8 m cs) ∧ Ok W A x
 | .cst s ls m, x => x.k = 7 ∧ x.s = s ∧ RVn W A x.ls ls ∧ (∃ cs, Rn W A x.ts 8 m cs) ∧ Ok W A x
 | .odd k m, x => x.k = k ∧ (arT k < 0 ∨ (m : Int) < arT k) ∧ (∃ cs, Rn W A x.ts 8 m cs) ∧ Ok W A x
 | .two k a b m, x => x.k = k ∧ (k = 3 ∨ k = 4 ∨ k = 6) ∧ (∃ y z cs, Rn W A x.ts 8 (m + 2) (tc y ++ (tc z ++ cs)) ∧ RC W A a y ∧ RC W A b z) ∧ Ok W A x
 | .lt a b c m, x => x.k = 5 ∧ (∃ y z u cs, Rn W A x.ts 8 (m + 3) (tc y ++ (tc z ++ (tc u ++ cs))) ∧ RC W A a y ∧ RC W A b z ∧ RC W A c u) ∧ Ok W A x
section
variable {W W' : World} {A B : Nat → Prop}
theorem Ok.keep (hs : W.heap.size ≤ W'.heap.size) (hk : ∀ k, A k → k < W.heap.size → W'.heap[k]? = W.heap[k]?) {x : C8} : Ok W A x → Ok W' A x := fun ⟨⟨l, h1⟩, ls, h2⟩ => ⟨⟨l, h1.keep hs hk⟩, ls, h2.keep hs hk⟩
theorem Ok.mono (hAB : ∀ k, A k → B k) {x : C8} : Ok W A x → Ok W B x := fun ⟨⟨l, h1⟩, ls, h2⟩ => ⟨⟨l, h1.mono hAB⟩, ls, h2.mono hAB⟩
theorem RC.keep (hs : W.heap.size ≤ W'.heap.size) (hk : ∀ k, A k → k < W.heap.size → W'.heap[k]? = W.heap[k]?) : ∀ {c : CT} {x : C8}, RC W A c x → RC W' A c x
 | .var .., x, ⟨h1, h2, h3, ⟨cs, h4⟩, h5⟩ => ⟨h1, h2, h3, ⟨cs, h4.keep hs hk⟩, h5.keep hs hk⟩
 | .sort .., x, ⟨h1, h2, ⟨cs, h4⟩, h5⟩ => ⟨h1, h2.keep hs hk, ⟨cs, h4.keep hs hk⟩, h5.keep hs hk⟩
 | .cst .., x, ⟨h1, h2, h3, ⟨cs, h4⟩, h5⟩ => ⟨h1, h2, h3.keep hs hk, ⟨cs, h4.keep hs hk⟩, h5.keep hs hk⟩
 | .odd .., x, ⟨h1, h2, ⟨cs, h4⟩, h5⟩ => ⟨h1, h2, ⟨cs, h4.keep hs hk⟩, h5.keep hs hk⟩
 | .two .., x, ⟨h1, h2, ⟨y, z, cs, h3, h4, h5⟩, h6⟩ => ⟨h1, h2, ⟨y, z, cs, h3.keep hs hk, RC.keep hs hk h4, RC.keep hs hk h5⟩, h6.keep hs hk⟩
 | .lt .., x, ⟨h1, ⟨y, z, u, cs, h3, h4, h5, h7⟩, h6⟩ => ⟨h1, ⟨y, z, u, cs, h3.keep hs hk, RC.keep hs hk h4, RC.keep hs hk h5, RC.keep hs hk h7⟩, h6.keep hs hk⟩
theorem RC.mono (hAB : ∀ k, A k → B k) : ∀ {c : CT} {x : C8}, RC W A c x → RC W B c x
 | .var .., x, ⟨h1, h2, h3, ⟨cs, h4⟩, h5⟩ => ⟨h1, h2, h3, ⟨cs, h4.mono hAB⟩, h5.mono hAB⟩
 | .sort .., x, ⟨h1, h2, ⟨cs, h4⟩, h5⟩ => ⟨h1, h2.mono hAB, ⟨cs, h4.mono hAB⟩, h5.mono hAB⟩
 | .cst .., x, ⟨h1, h2, h3, ⟨cs, h4⟩, h5⟩ => ⟨h1, h2, h3.mono hAB, ⟨cs, h4.mono hAB⟩, h5.mono hAB⟩
 | .odd .., x, ⟨h1, h2, ⟨cs, h4⟩, h5⟩ => ⟨h1, h2, ⟨cs, h4.mono hAB⟩, h5.mono hAB⟩
 | .two .., x, ⟨h1, h2, ⟨y, z, cs, h3, h4, h5⟩, h6⟩ => ⟨h1, h2, ⟨y, z, cs, h3.mono hAB, RC.mono hAB h4, RC.mono hAB h5⟩, h6.mono hAB⟩
 | .lt .., x, ⟨h1, ⟨y, z, u, cs, h3, h4, h5, h7⟩, h6⟩ => ⟨h1, ⟨y, z, u, cs, h3.mono hAB, RC.mono hAB h4, RC.mono hAB h5, RC.mono hAB h7⟩, h6.mono hAB⟩
theorem RC.ok : ∀ {c : CT} {x : C8}, RC W A c x → Ok W A x
 | .var .., x, h => h.2.2.2.2
 | .sort .., x, h => h.2.2.2
 | .cst .., x, h => h.2.2.2.2
 | .odd .., x, h => h.2.2.2
 | .two .., x, h => h.2.2.2
 | .lt .., x, h => h.2.2
theorem RC.kd : ∀ {c : CT} {x : C8}, RC W A c x → x.k = c.kd
 | .var .., x, h => h.1
 | .sort .., x, h => h.1
 | .cst .., x, h => h.1
 | .odd .., x, h => h.1
 | .two .., x, h => h.1
 | .lt .., x, h => h.1
theorem RC.ts : ∀ {c : CT} {x : C8}, RC W A c x → ∃ cs, Rn W A x.ts 8 c.len cs
 | .var .., x, h => h.2.2.2.1
 | .sort .., x, h => h.2.2.1
 | .cst .., x, h => h.2.2.2.1
 | .odd .., x, h => h.2.2.1
 | .two .., x, ⟨_, _, ⟨y, z, cs, h, _⟩, _⟩ => ⟨_, h⟩
 | .lt .., x, ⟨_, ⟨y, z, u, cs, h, _⟩, _⟩ => ⟨_, h⟩
theorem RC.below {c : CT} {x : C8} (h : RC W A c x) (hB : Below W.heap.size W W') : RC W' A c x := h.keep hB.size (fun k _ hk => hB.block k hk)
theorem RC.only {c : CT} {x : C8} {b : Nat} (h : RC W A c x) (o : Only b W W') (hb : ¬ A b) : RC W' A c x := h.keep (Nat.le_of_eq o.size.symm) (fun k ha _ => o.block k (fun e => hb (e ▸ ha)))
theorem RC.k2 {c : CT} {x : C8} {a b : Nat} (h : RC W A c x) (hK : Ktw a b W W') (ha : ¬ A a) (hb : ¬ A b) : RC W' A c x := h.keep hK.size (fun k hA hk => hK.block k hk ⟨fun e => ha (e ▸ hA), fun e => hb (e ▸ hA)⟩)
/-- Each cell of it is one. -/
theorem RC.one {c : CT} {x : C8} (h : RC W A c x) : ∀ u ∈ tc x, u.oneCell' = true := by
 obtain ⟨⟨l, hl⟩, ls, hls⟩ := h.ok
 obtain ⟨cs, ht⟩ := h.ts
 obtain ⟨n, cs', hs⟩ := hl.slice
 intro u hu
 simp only [tc, List.mem_cons, List.not_mem_nil, or_false] at hu
 rcases hu with rfl | rfl | rfl | rfl | rfl | rfl | rfl | rfl
 ·
  rfl
 ·
  rfl
 ·
  rfl
 ·
  rfl
 ·
  rfl
 ·
  exact hs.one
 ·
  exact hls.one
 ·
  exact ht.1.one
end
/-- A slice of terms. -/
def RK (W : World) (A : Nat → Prop) (v : Value) (cs : List CT) : Prop := ∃ xs : List C8, Rn W A v 8 xs.length (xs.flatMap tc) ∧ xs.length = cs.length ∧ ∀ (i : Nat) x c, xs[i]? = some x → cs[i]? = some c → RC W A c x
section
variable {W W' : World} {A B : Nat → Prop} {v : Value} {cs : List CT}
theorem RK.keep (hs : W.heap.size ≤ W'.heap.size) (hk : ∀ k, A k → k < W.heap.size → W'.heap[k]? = W.heap[k]?) : RK W A v cs → RK W' A v cs :=
 fun ⟨xs, h1, h2, h3⟩ => ⟨xs, h1.keep hs hk, h2, fun i x l e1 e2 => (h3 i x l e1 e2).keep hs hk⟩
theorem RK.mono (hAB : ∀ k, A k → B k) : RK W A v cs → RK W B v cs := fun ⟨xs, h1, h2, h3⟩ => ⟨xs, h1.mono hAB, h2, fun i x l e1 e2 => (h3 i x l e1 e2).mono hAB⟩
theorem RK.below (h : RK W A v cs) (hB : Below W.heap.size W W') : RK W' A v cs := h.keep hB.size (fun k _ hk => hB.block k hk)
theorem RK.nil (W : World) (A : Nat → Prop) : RK W A nilS [] := ⟨[], Rn.nil W A 8, rfl, fun i x l h => by simp at h⟩
theorem RK.form (h : RK W A v cs) : ∃ a c, v = .slice a cs.length c ∧ cs.length ≤ c ∧ (a = none → c = 0) := by
 obtain ⟨xs, h1, h2, _⟩ := h
 rw [← h2]
 exact h1.1.form
theorem RK.one (h : RK W A v cs) : v.oneCell' = true := by
 obtain ⟨a, c, rfl, _⟩ := h.form
 rfl
/-- An element, read. -/
theorem RK.row (h : RK W A v cs) {i : Nat} (hi : i < cs.length) :
    ∃ b off c x y, v = .slice (some ⟨b, off, none⟩) cs.length c ∧ cs[i]? = some y ∧ RC W A y x ∧ A b ∧ b < W.heap.size ∧ ∀ W' : World, W'.heap[b]? = W.heap[b]? → ∀ j u, (tc x)[j]? = some u → W'.cell? ((⟨b, off + i * 8, none⟩ : Addr).add j) = some u := by
  obtain ⟨xs, h1, h2, h3⟩ := h
  obtain ⟨b, off, c, rfl, hb⟩ := h1.1.some (by omega)
  refine ⟨b, off, c, xs[i]'(by omega), cs[i], by rw [h2], List.getElem?_eq_getElem hi, h3 i _ _ (List.getElem?_eq_getElem (by omega)) (List.getElem?_eq_getElem hi), h1.2 (by omega) b rfl, hb, fun W' hB j u hj => ?_⟩
  rw [addr_addn, Nat.add_assoc]
  exact (World.cell?_of_block (w := W) (a := ⟨b, off + (i * 8 + j), none⟩) hB).trans (h1.1.cell (fm8_get xs i j _ u (List.getElem?_eq_getElem (by omega)) hj))
/-- A term's kids. -/
theorem RC.kids : ∀ {c : CT} {x : C8}, RC W A c x → ∃ a n cap, x.ts = .slice a n cap ∧ c.kids.length ≤ n ∧ n = c.len ∧ c.kids.length ≤ cap ∧ RK W A (.slice a c.kids.length cap) c.kids
 | .var n m, x, ⟨_, _, _, ⟨cs, h⟩, _⟩ => by
  obtain ⟨a, c, h1, h2, h3⟩ := h.1.form
  exact ⟨a, m, c, h1, Nat.zero_le _, rfl, Nat.zero_le _, [], ⟨⟨by simp, .inl ⟨_, _, rfl, rfl, h3⟩⟩, fun h => by simp at h⟩, rfl, fun i x l h => by simp at h⟩
 | .sort n m, x, ⟨_, _, ⟨cs, h⟩, _⟩ => by
  obtain ⟨a, c, h1, h2, h3⟩ := h.1.form
  exact ⟨a, m, c, h1, Nat.zero_le _, rfl, Nat.zero_le _, [], ⟨⟨by simp, .inl ⟨_, _, rfl, rfl, h3⟩⟩, fun h => by simp at h⟩, rfl, fun i x l h => by simp at h⟩
 | .cst _ n m, x, ⟨_, _, _, ⟨cs, h⟩, _⟩ => by
  obtain ⟨a, c, h1, h2, h3⟩ := h.1.form
  exact ⟨a, m, c, h1, Nat.zero_le _, rfl, Nat.zero_le _, [], ⟨⟨by simp, .inl ⟨_, _, rfl, rfl, h3⟩⟩, fun h => by simp at h⟩, rfl, fun i x l h => by simp at h⟩
 | .odd n m, x, ⟨_, _, ⟨cs, h⟩, _⟩ => by
  obtain ⟨a, c, h1, h2, h3⟩ := h.1.form
  exact ⟨a, m, c, h1, Nat.zero_le _, rfl, Nat.zero_le _, [], ⟨⟨by simp, .inl ⟨_, _, rfl, rfl, h3⟩⟩, fun h => by simp at h⟩, rfl, fun i x l h => by simp at h⟩
 | .two k p q m, x, ⟨_, _, ⟨y, z, cs, h, hp, hq⟩, _⟩ => by
  obtain ⟨a, c, h1, h2, h3⟩ := h.1.form
  have hu := (h1 ▸ h.1).upto 2 (by omega)
  rw [show (tc y ++ (tc z ++ cs)).take (2 * 8) = [y, z].flatMap tc by simp [tc]] at hu
  refine ⟨a, m + 2, c, h1, by simp [CT.kids], rfl, by simp [CT.kids]; omega, [y, z], ⟨hu, fun _ b hb => h.2 (by omega) b (by rw [h1, own_slice _ _ _ _ c]; exact hb)⟩, rfl, fun i x l e1 e2 => ?_⟩
  rcases i with _ | _ | i
  ·
   simp [CT.kids] at e1 e2; subst e1 e2; exact hp
  ·
   simp [CT.kids] at e1 e2; subst e1 e2; exact hq
  ·
   simp at e1
 | .lt p q r m, x, ⟨_, ⟨y, z, u, cs, h, hp, hq, hr⟩, _⟩ => by
  obtain ⟨a, c, h1, h2, h3⟩ := h.1.form
  have hu := (h1 ▸ h.1).upto 3 (by omega)
  rw [show (tc y ++ (tc z ++ (tc u ++ cs))).take (3 * 8) = [y, z, u].flatMap tc by simp [tc]] at hu
  refine ⟨a, m + 3, c, h1, by simp [CT.kids], rfl, by simp [CT.kids]; omega, [y, z, u], ⟨hu, fun _ b hb => h.2 (by omega) b (by rw [h1, own_slice _ _ _ _ c]; exact hb)⟩, rfl, fun i x l e1 e2 => ?_⟩
  rcases i with _ | _ | _ | i
  ·
   simp [CT.kids] at e1 e2; subst e1 e2; exact hp
  ·
   simp [CT.kids] at e1 e2; subst e1 e2; exact hq
  ·
   simp [CT.kids] at e1 e2; subst e1 e2; exact hr
  ·
   simp at e1
end
theorem CT.kids_arT {W : World} {A : Nat → Prop} : ∀ {c : CT} {x : C8}, RC W A c x → (c.kids.length : Int) = max 0 (arT c.kd) ∧ arT c.kd ≤ c.len ∨ (c.kids.length = 0 ∧ (arT c.kd < 0 ∨ (c.len : Int) < arT c.kd))
 | .var n m, x, _ => .inl (by simp [CT.kids, CT.kd, CT.len, arT])
 | .sort n m, x, _ => .inl (by simp [CT.kids, CT.kd, CT.len, arT])
 | .cst _ n m, x, _ => .inl (by simp [CT.kids, CT.kd, CT.len, arT])
 | .odd k m, x, ⟨_, h, _⟩ => .inr ⟨rfl, h⟩
 | .two k p q m, x, ⟨_, h, _⟩ => .inl (by rcases h with rfl | rfl | rfl <;> simp [CT.kids, CT.kd, CT.len, arT] <;> omega)
 | .lt p q r m, x, _ => .inl (by simp [CT.kids, CT.kd, CT.len, arT]; omega)
theorem CT.kid_size : ∀ {c k : CT} {i : Nat}, c.kids[i]? = some k → k.size < c.size ∧ k.dep < c.dep
 | .two _ a b _, k, i, h => by
  rcases i with _ | _ | i
  ·
   simp [CT.kids] at h; subst h; simp only [CT.size, CT.dep]; omega
  ·
   simp [CT.kids] at h; subst h; simp only [CT.size, CT.dep]; omega
  ·
   simp [CT.kids] at h
 | .lt a b c _, k, i, h => by
  rcases i with _ | _ | _ | i
  ·
   simp [CT.kids] at h; subst h; simp only [CT.size, CT.dep]; omega
  ·
   simp [CT.kids] at h; subst h; simp only [CT.size, CT.dep]; omega
  ·
   simp [CT.kids] at h; subst h; simp only [CT.size, CT.dep]; omega
  ·
   simp [CT.kids] at h
 | .var .., k, i, h => by simp [CT.kids] at h
 | .sort .., k, i, h => by simp [CT.kids] at h
 | .cst .., k, i, h => by simp [CT.kids] at h
 | .odd .., k, i, h => by simp [CT.kids] at h
theorem CT.kids_le (c : CT) : c.kids.length ≤ 3 := by cases c <;> simp [CT.kids]
theorem CT.bnd_is (c : CT) (i : Nat) : c.bnd i = 0 ∨ c.bnd i = 1 := by
 cases c <;> simp only [CT.bnd] <;> (try split) <;> simp
theorem CT.size_pos (c : CT) : 0 < c.size := by cases c <;> simp [CT.size]
theorem CT.dep_pos (c : CT) : 0 < c.dep := by cases c <;> simp [CT.dep]
end Go.Proofs.Ytmkjhdiepkpdoaa

namespace Go.Proofs.Ytmkjhdiepkpdoaa
open Go.RowKit Go.Shelf
set_option linter.unusedVariables false
set_option linter.unusedSimpArgs false
abbrev emptyB : ByteArray := ByteArray.mk #[]
theorem b70_01 (k n : Int) (w : World) : (Instr.build 69 [(0, Value.int .i64 k), (1, Value.int .i64 n)].toArray).run Try.prog w = .ok (.agg [Value.int .i64 k, Value.int .i64 n].toArray) w := run_build w 69 _ _ (by kernel_rfl)
theorem b70_ (w : World) : (Instr.build 69 [].toArray).run Try.prog w = .ok (.agg [Value.int .i64 0, Value.int .i64 0].toArray) w := run_build w 69 _ _ (by kernel_rfl)
theorem b93_01 (k n : Int) (w : World) : (Instr.build 78 [(0, Value.int .i64 k), (1, Value.int .i64 n)].toArray).run Try.prog w = .ok (.agg [Value.int .i64 k, Value.int .i64 n].toArray) w := run_build w 78 _ _ (by kernel_rfl)
theorem b110_0 (k : Int) (w : World) : (Instr.build 102 [(0, Value.int .i64 k)].toArray).run Try.prog w = .ok (.agg [Value.int .i64 k].toArray) w := run_build w 102 _ _ (by kernel_rfl)
theorem b27_ (w : World) : (Instr.build 27 [].toArray).run Try.prog w = .ok (.agg z8.toArray) w := run_build w 27 _ _ (by kernel_rfl)
theorem b27_01 (k n : Int) (w : World) : (Instr.build 27 [(0, Value.int .i64 k), (1, Value.int .i64 n)].toArray).run Try.prog w = .ok (tv ⟨k, n, emptyB, (0, 0, nilS), nilS, nilS⟩) w := run_build w 27 _ _ (by kernel_rfl)
theorem b27_05 (k : Int) (a : Option Addr) (m c : Nat) (w : World) : (Instr.build 27 [(0, Value.int .i64 k), (5, Value.slice a m c)].toArray).run Try.prog w = .ok (tv ⟨k, 0, emptyB, (0, 0, nilS), nilS, .slice a m c⟩) w := run_build w 27 _ _ (by kernel_rfl)
theorem b27_03 (k p q : Int) (a : Option Addr) (m c : Nat) (w : World) : (Instr.build 27 [(0, Value.int .i64 k), (3, lv (p, q, .slice a m c))].toArray).run Try.prog w = .ok (tv ⟨k, 0, emptyB, (p, q, .slice a m c), nilS, nilS⟩) w := run_build w 27 _ _ (by kernel_rfl)
theorem b27_024 (k : Int) (s : ByteArray) (a : Option Addr) (m c : Nat) (w : World) : (Instr.build 27 [(0, Value.int .i64 k), (2, Value.string s), (4, Value.slice a m c)].toArray).run Try.prog w = .ok (tv ⟨k, 0, s, (0, 0, nilS), .slice a m c, nilS⟩) w := run_build w 27 _ _ (by kernel_rfl)
theorem oneII (z y : Int) : ∀ u ∈ [Value.int .i64 z, Value.int .i64 y], u.oneCell' = true := by simp [Value.oneCell']
theorem one8 : ∀ u ∈ z8, u.oneCell' = true := by simp [Value.oneCell']
theorem one_tc0 (k n : Int) (s : ByteArray) (ts : Value) (h : ts.oneCell' = true) : ∀ u ∈ tc ⟨k, n, s, (0, 0, nilS), nilS, ts⟩, u.oneCell' = true := by
 intro u hu
 simp only [tc, List.mem_cons, List.not_mem_nil, or_false] at hu
 rcases hu with rfl | rfl | rfl | rfl | rfl | rfl | rfl | rfl <;> first | rfl | exact h
theorem ok0 (W : World) (A : Nat → Prop) (k n : Int) (s : ByteArray) (ts : Value) : Ok W A ⟨k, n, s, (0, 0, nilS), nilS, ts⟩ := ⟨⟨.mk 0 0 [], .mk (xs := []) (Rn.nil W A 3) rfl (fun i x l h => by simp at h)⟩, [], RVn.nil W A⟩
end Go.Proofs.Ytmkjhdiepkpdoaa

namespace Go.Proofs.Ytmkjhdiepkpdoaa
set_option maxRecDepth 100000
set_option maxHeartbeats 1600000
open Go.RowKit Go.Shelf
set_option linter.unusedVariables false
set_option linter.unusedSimpArgs false
theorem arT_rng (k : Int) : -1 ≤ arT k ∧ arT k ≤ 3 := by
 unfold arT
 split
 ·
  omega
 ·
  split
  ·
   omega
  ·
   split <;> omega
theorem CT.bnd_eq {W : World} {A : Nat → Prop} : ∀ {c : CT} {x : C8} {i : Nat}, RC W A c x → i < c.kids.length → (c.bnd i = 1 ∧ (c.kd = 3 ∨ c.kd = 4 ∨ c.kd = 5) ∧ i + 1 = c.kids.length) ∨ (c.bnd i = 0 ∧ ¬ ((c.kd = 3 ∨ c.kd = 4 ∨ c.kd = 5) ∧ i + 1 = c.kids.length))
 | .two k a b m, x, i, h, hi => by
  have hk := h.2.1
  have e1 : (CT.two k a b m).kids.length = 2 := rfl
  have e2 : (CT.two k a b m).kd = k := rfl
  rw [e1] at hi ⊢
  rw [e2]
  simp only [CT.bnd]
  split <;> omega
 | .lt a b c m, x, i, h, hi => by
  have e1 : (CT.lt a b c m).kids.length = 3 := rfl
  have e2 : (CT.lt a b c m).kd = 5 := rfl
  rw [e1] at hi ⊢
  rw [e2]
  have e3 : (CT.lt a b c m).bnd i = if i = 2 then 1 else 0 := rfl
  rw [e3]
  split
  ·
   next h => exact .inl ⟨rfl, .inr (.inr rfl), by omega⟩
  ·
   next h => exact .inr ⟨rfl, fun h' => h (by omega)⟩
 | .var .., x, i, h, hi => by simp [CT.kids] at hi
 | .sort .., x, i, h, hi => by simp [CT.kids] at hi
 | .cst .., x, i, h, hi => by simp [CT.kids] at hi
 | .odd .., x, i, h, hi => by simp [CT.kids] at hi
/-- Is it the variable that is d? -/
def CT.isV : CT → Int → Bool
 | .var n _, d => decide (n = d)
 | _, _ => false
theorem CT.isV_eq {W : World} {A : Nat → Prop} {c : CT} {x : C8} (h : RC W A c x) (d : Int) : c.isV d = (decide (x.k = 1) && decide (x.n = d)) := by
 cases c with
 | var n m => simp [CT.isV, h.1, h.2.1]
 | sort l m => simp [CT.isV, h.1]
 | cst s ls m => simp [CT.isV, h.1]
 | odd k m =>
  have h1 := h.1
  have h2 := h.2.1
  simp only [CT.isV]
  rw [decide_eq_false]
  ·
   rfl
  ·
   intro e; rw [e] at h1; subst h1; simp [arT] at h2; omega
 | two k a b m =>
  have h1 := h.1
  have h2 := h.2.1
  simp only [CT.isV]
  rw [decide_eq_false]
  ·
   rfl
  ·
   omega
 | lt a b c m => simp [CT.isV, h.1]
theorem arity109 (k : Int) (w0 : World) : Calls Try.prog 122 #[.int .i64 k] w0 fun e w' => e = .returned (.tuple #[.int .i64 (max 0 (arT k)), .bool (decide (0 ≤ arT k))]) ∧ w' = w0 := by
 refine calls_fs 15 [(0, .int .i64 k)] Try.func122 rfl rfl rfl rfl rfl fun a F => ?_
 rcases (show k = 1 ∨ k = 2 ∨ k = 7 ∨ k = 3 ∨ k = 4 ∨ k = 6 ∨ k = 5 ∨ (k ≠ 1 ∧ k ≠ 2 ∧ k ≠ 7 ∧ k ≠ 3 ∧ k ≠ 4 ∧ k ≠ 6 ∧ k ≠ 5) by omega) with hk | hk | hk | hk | hk | hk | hk | hk
 ·
  skip
  refine wp_rs fun _ K2 => F.sg rfl fun a F => F.sg rfl fun a F => ?_
  refine s_end (K2 _ _ ?_)
  refine wp_seq_k fun _ K3 => ?_
  refine wp_rs fun _ K4 => F.mv rfl fun a F => ?_
  refine s_end (K4 _ _ ?_)
  refine wp_block ?_
  refine wp_seq_k fun _ K5 => ?_
  refine wp_rs fun _ K6 => F.vl (eqlT (by omega) rfl rfl) fun a F => F.sg rfl fun a F => ?_
  refine s_end (K6 _ _ ?_)
  refine wp_if F rfl ?_
  refine wp_skip (K5 _ _ ?_)
  refine wp_if F rfl ?_
  refine wp_rs fun _ K7 => F.sg rfl fun a F => F.sg rfl fun a F => ?_
  refine s_end (K7 _ _ ?_)
  refine wp_ret (inb_ret (then_ret (res_two F rfl rfl rfl ⟨by first | (rw [show arT k = 0 by simp [arT, hk]]; rfl) | (rw [show arT k = 2 by simp [arT, hk]]; rfl) | (rw [show arT k = 3 by simp [arT, hk]]; rfl) | (rw [show arT k = -1 by simp [arT, hk]]; rfl), rfl⟩)))
 ·
  skip
  refine wp_rs fun _ K8 => F.sg rfl fun a F => F.sg rfl fun a F => ?_
  refine s_end (K8 _ _ ?_)
  refine wp_seq_k fun _ K9 => ?_
  refine wp_rs fun _ K10 => F.mv rfl fun a F => ?_
  refine s_end (K10 _ _ ?_)
  refine wp_block ?_
  refine wp_seq_k fun _ K11 => ?_
  refine wp_rs fun _ K12 => F.vl (eqlF (by omega) rfl rfl) fun a F => F.sg rfl fun a F => ?_
  refine s_end (K12 _ _ ?_)
  refine wp_if F rfl ?_
  refine wp_rs fun _ K13 => F.vl (eqlT (by omega) rfl rfl) fun a F => F.sg rfl fun a F => ?_
  refine s_end (K13 _ _ ?_)
  refine wp_if F rfl ?_
  refine wp_skip (K11 _ _ ?_)
  refine wp_if F rfl ?_
  refine wp_rs fun _ K14 => F.sg rfl fun a F => F.sg rfl fun a F => ?_
  refine s_end (K14 _ _ ?_)
  refine wp_ret (inb_ret (then_ret (res_two F rfl rfl rfl ⟨by first | (rw [show arT k = 0 by simp [arT, hk]]; rfl) | (rw [show arT k = 2 by simp [arT, hk]]; rfl) | (rw [show arT k = 3 by simp [arT, hk]]; rfl) | (rw [show arT k = -1 by simp [arT, hk]]; rfl), rfl⟩)))
 ·
  skip
  refine wp_rs fun _ K15 => F.sg rfl fun a F => F.sg rfl fun a F => ?_
  refine s_end (K15 _ _ ?_)
  refine wp_seq_k fun _ K16 => ?_
  refine wp_rs fun _ K17 => F.mv rfl fun a F => ?_
  refine s_end (K17 _ _ ?_)
  refine wp_block ?_
  refine wp_seq_k fun _ K18 => ?_
  refine wp_rs fun _ K19 => F.vl (eqlF (by omega) rfl rfl) fun a F => F.sg rfl fun a F => ?_
  refine s_end (K19 _ _ ?_)
  refine wp_if F rfl ?_
  refine wp_rs fun _ K20 => F.vl (eqlF (by omega) rfl rfl) fun a F => F.sg rfl fun a F => ?_
  refine s_end (K20 _ _ ?_)
  refine wp_if F rfl ?_
  refine wp_region_lit ?_
  refine F.vl (eqlT (by omega) rfl rfl) fun a F => F.sg rfl fun a F => ?_
  refine s_end (K18 _ _ ?_)
  refine wp_if F rfl ?_
  refine wp_rs fun _ K21 => F.sg rfl fun a F => F.sg rfl fun a F => ?_
  refine s_end (K21 _ _ ?_)
  refine wp_ret (inb_ret (then_ret (res_two F rfl rfl rfl ⟨by first | (rw [show arT k = 0 by simp [arT, hk]]; rfl) | (rw [show arT k = 2 by simp [arT, hk]]; rfl) | (rw [show arT k = 3 by simp [arT, hk]]; rfl) | (rw [show arT k = -1 by simp [arT, hk]]; rfl), rfl⟩)))
 ·
  skip
  refine wp_rs fun _ K22 => F.sg rfl fun a F => F.sg rfl fun a F => ?_
  refine s_end (K22 _ _ ?_)
  refine wp_seq_k fun _ K23 => ?_
  refine wp_rs fun _ K24 => F.mv rfl fun a F => ?_
  refine s_end (K24 _ _ ?_)
  refine wp_block ?_
  refine wp_seq_k fun _ K25 => ?_
  refine wp_rs fun _ K26 => F.vl (eqlF (by omega) rfl rfl) fun a F => F.sg rfl fun a F => ?_
  refine s_end (K26 _ _ ?_)
  refine wp_if F rfl ?_
  refine wp_rs fun _ K27 => F.vl (eqlF (by omega) rfl rfl) fun a F => F.sg rfl fun a F => ?_
  refine s_end (K27 _ _ ?_)
  refine wp_if F rfl ?_
  refine wp_region_lit ?_
  refine F.vl (eqlF (by omega) rfl rfl) fun a F => F.sg rfl fun a F => ?_
  refine s_end (K25 _ _ ?_)
  refine wp_if F rfl ?_
  refine wp_seq_k fun _ K28 => ?_
  refine wp_rs fun _ K29 => F.vl (eqlT (by omega) rfl rfl) fun a F => F.sg rfl fun a F => ?_
  refine s_end (K29 _ _ ?_)
  refine wp_if F rfl ?_
  refine wp_skip (K28 _ _ ?_)
  refine wp_if F rfl ?_
  refine wp_rs fun _ K30 => F.sg rfl fun a F => F.sg rfl fun a F => ?_
  refine s_end (K30 _ _ ?_)
  refine wp_ret (inb_ret (then_ret (res_two F rfl rfl rfl ⟨by first | (rw [show arT k = 0 by simp [arT, hk]]; rfl) | (rw [show arT k = 2 by simp [arT, hk]]; rfl) | (rw [show arT k = 3 by simp [arT, hk]]; rfl) | (rw [show arT k = -1 by simp [arT, hk]]; rfl), rfl⟩)))
 ·
  skip
  refine wp_rs fun _ K31 => F.sg rfl fun a F => F.sg rfl fun a F => ?_
  refine s_end (K31 _ _ ?_)
  refine wp_seq_k fun _ K32 => ?_
  refine wp_rs fun _ K33 => F.mv rfl fun a F => ?_
  refine s_end (K33 _ _ ?_)
  refine wp_block ?_
  refine wp_seq_k fun _ K34 => ?_
  refine wp_rs fun _ K35 => F.vl (eqlF (by omega) rfl rfl) fun a F => F.sg rfl fun a F => ?_
  refine s_end (K35 _ _ ?_)
  refine wp_if F rfl ?_
  refine wp_rs fun _ K36 => F.vl (eqlF (by omega) rfl rfl) fun a F => F.sg rfl fun a F => ?_
  refine s_end (K36 _ _ ?_)
  refine wp_if F rfl ?_
  refine wp_region_lit ?_
  refine F.vl (eqlF (by omega) rfl rfl) fun a F => F.sg rfl fun a F => ?_
  refine s_end (K34 _ _ ?_)
  refine wp_if F rfl ?_
  refine wp_seq_k fun _ K37 => ?_
  refine wp_rs fun _ K38 => F.vl (eqlF (by omega) rfl rfl) fun a F => F.sg rfl fun a F => ?_
  refine s_end (K38 _ _ ?_)
  refine wp_if F rfl ?_
  refine wp_rs fun _ K39 => F.vl (eqlT (by omega) rfl rfl) fun a F => F.sg rfl fun a F => ?_
  refine s_end (K39 _ _ ?_)
  refine wp_if F rfl ?_
  refine wp_skip (K37 _ _ ?_)
  refine wp_if F rfl ?_
  refine wp_rs fun _ K40 => F.sg rfl fun a F => F.sg rfl fun a F => ?_
  refine s_end (K40 _ _ ?_)
  refine wp_ret (inb_ret (then_ret (res_two F rfl rfl rfl ⟨by first | (rw [show arT k = 0 by simp [arT, hk]]; rfl) | (rw [show arT k = 2 by simp [arT, hk]]; rfl) | (rw [show arT k = 3 by simp [arT, hk]]; rfl) | (rw [show arT k = -1 by simp [arT, hk]]; rfl), rfl⟩)))
 ·
  skip
  refine wp_rs fun _ K41 => F.sg rfl fun a F => F.sg rfl fun a F => ?_
  refine s_end (K41 _ _ ?_)
  refine wp_seq_k fun _ K42 => ?_
  refine wp_rs fun _ K43 => F.mv rfl fun a F => ?_
  refine s_end (K43 _ _ ?_)
  refine wp_block ?_
  refine wp_seq_k fun _ K44 => ?_
  refine wp_rs fun _ K45 => F.vl (eqlF (by omega) rfl rfl) fun a F => F.sg rfl fun a F => ?_
  refine s_end (K45 _ _ ?_)
  refine wp_if F rfl ?_
  refine wp_rs fun _ K46 => F.vl (eqlF (by omega) rfl rfl) fun a F => F.sg rfl fun a F => ?_
  refine s_end (K46 _ _ ?_)
  refine wp_if F rfl ?_
  refine wp_region_lit ?_
  refine F.vl (eqlF (by omega) rfl rfl) fun a F => F.sg rfl fun a F => ?_
  refine s_end (K44 _ _ ?_)
  refine wp_if F rfl ?_
  refine wp_seq_k fun _ K47 => ?_
  refine wp_rs fun _ K48 => F.vl (eqlF (by omega) rfl rfl) fun a F => F.sg rfl fun a F => ?_
  refine s_end (K48 _ _ ?_)
  refine wp_if F rfl ?_
  refine wp_rs fun _ K49 => F.vl (eqlF (by omega) rfl rfl) fun a F => F.sg rfl fun a F => ?_
  refine s_end (K49 _ _ ?_)
  refine wp_if F rfl ?_
  refine wp_region_lit ?_
  refine F.vl (eqlT (by omega) rfl rfl) fun a F => F.sg rfl fun a F => ?_
  refine s_end (K47 _ _ ?_)
  refine wp_if F rfl ?_
  refine wp_rs fun _ K50 => F.sg rfl fun a F => F.sg rfl fun a F => ?_
  refine s_end (K50 _ _ ?_)
  refine wp_ret (inb_ret (then_ret (res_two F rfl rfl rfl ⟨by first | (rw [show arT k = 0 by simp [arT, hk]]; rfl) | (rw [show arT k = 2 by simp [arT, hk]]; rfl) | (rw [show arT k = 3 by simp [arT, hk]]; rfl) | (rw [show arT k = -1 by simp [arT, hk]]; rfl), rfl⟩)))
 ·
  skip
  refine wp_rs fun _ K51 => F.sg rfl fun a F => F.sg rfl fun a F => ?_
  refine s_end (K51 _ _ ?_)
  refine wp_seq_k fun _ K52 => ?_
  refine wp_rs fun _ K53 => F.mv rfl fun a F => ?_
  refine s_end (K53 _ _ ?_)
  refine wp_block ?_
  refine wp_seq_k fun _ K54 => ?_
  refine wp_rs fun _ K55 => F.vl (eqlF (by omega) rfl rfl) fun a F => F.sg rfl fun a F => ?_
  refine s_end (K55 _ _ ?_)
  refine wp_if F rfl ?_
  refine wp_rs fun _ K56 => F.vl (eqlF (by omega) rfl rfl) fun a F => F.sg rfl fun a F => ?_
  refine s_end (K56 _ _ ?_)
  refine wp_if F rfl ?_
  refine wp_region_lit ?_
  refine F.vl (eqlF (by omega) rfl rfl) fun a F => F.sg rfl fun a F => ?_
  refine s_end (K54 _ _ ?_)
  refine wp_if F rfl ?_
  refine wp_seq_k fun _ K57 => ?_
  refine wp_rs fun _ K58 => F.vl (eqlF (by omega) rfl rfl) fun a F => F.sg rfl fun a F => ?_
  refine s_end (K58 _ _ ?_)
  refine wp_if F rfl ?_
  refine wp_rs fun _ K59 => F.vl (eqlF (by omega) rfl rfl) fun a F => F.sg rfl fun a F => ?_
  refine s_end (K59 _ _ ?_)
  refine wp_if F rfl ?_
  refine wp_region_lit ?_
  refine F.vl (eqlF (by omega) rfl rfl) fun a F => F.sg rfl fun a F => ?_
  refine s_end (K57 _ _ ?_)
  refine wp_if F rfl ?_
  refine wp_rs fun _ K60 => F.vl (eqlT (by omega) rfl rfl) fun a F => F.sg rfl fun a F => ?_
  refine s_end (K60 _ _ ?_)
  refine wp_if F rfl ?_
  refine wp_rs fun _ K61 => F.sg rfl fun a F => F.sg rfl fun a F => ?_
  refine s_end (K61 _ _ ?_)
  refine wp_ret (inb_ret (then_ret (res_two F rfl rfl rfl ⟨by first | (rw [show arT k = 0 by simp [arT, hk]]; rfl) | (rw [show arT k = 2 by simp [arT, hk]]; rfl) | (rw [show arT k = 3 by simp [arT, hk]]; rfl) | (rw [show arT k = -1 by simp [arT, hk]]; rfl), rfl⟩)))
 ·
  skip
  refine wp_rs fun _ K62 => F.sg rfl fun a F => F.sg rfl fun a F => ?_
  refine s_end (K62 _ _ ?_)
  refine wp_seq_k fun _ K63 => ?_
  refine wp_rs fun _ K64 => F.mv rfl fun a F => ?_
  refine s_end (K64 _ _ ?_)
  refine wp_block ?_
  refine wp_seq_k fun _ K65 => ?_
  refine wp_rs fun _ K66 => F.vl (eqlF (by omega) rfl rfl) fun a F => F.sg rfl fun a F => ?_
  refine s_end (K66 _ _ ?_)
  refine wp_if F rfl ?_
  refine wp_rs fun _ K67 => F.vl (eqlF (by omega) rfl rfl) fun a F => F.sg rfl fun a F => ?_
  refine s_end (K67 _ _ ?_)
  refine wp_if F rfl ?_
  refine wp_region_lit ?_
  refine F.vl (eqlF (by omega) rfl rfl) fun a F => F.sg rfl fun a F => ?_
  refine s_end (K65 _ _ ?_)
  refine wp_if F rfl ?_
  refine wp_seq_k fun _ K68 => ?_
  refine wp_rs fun _ K69 => F.vl (eqlF (by omega) rfl rfl) fun a F => F.sg rfl fun a F => ?_
  refine s_end (K69 _ _ ?_)
  refine wp_if F rfl ?_
  refine wp_rs fun _ K70 => F.vl (eqlF (by omega) rfl rfl) fun a F => F.sg rfl fun a F => ?_
  refine s_end (K70 _ _ ?_)
  refine wp_if F rfl ?_
  refine wp_region_lit ?_
  refine F.vl (eqlF (by omega) rfl rfl) fun a F => F.sg rfl fun a F => ?_
  refine s_end (K68 _ _ ?_)
  refine wp_if F rfl ?_
  refine wp_rs fun _ K71 => F.vl (eqlF (by omega) rfl rfl) fun a F => F.sg rfl fun a F => ?_
  refine s_end (K71 _ _ ?_)
  refine wp_if F rfl ?_
  refine wp_skip (K63 _ _ ?_)
  refine wp_rs fun _ K72 => F.sg rfl fun a F => F.sg rfl fun a F => ?_
  refine s_end (K72 _ _ ?_)
  refine wp_ret (res_two F rfl rfl rfl ⟨by first | (rw [show arT k = 0 by simp [arT, hk]]; rfl) | (rw [show arT k = 2 by simp [arT, hk]]; rfl) | (rw [show arT k = 3 by simp [arT, hk]]; rfl) | (rw [show arT k = -1 by simp [arT, hk]]; rfl), rfl⟩)
theorem kids54 (k : Int) (w0 : World) : Calls Try.prog 82 #[.int .i64 k] w0 fun e w' => e = .returned (.int .i64 (arT k)) ∧ w' = w0 := by
 refine calls_fs 14 [(0, .int .i64 k)] Try.func82 rfl rfl rfl rfl rfl fun a F => ?_
 rcases (show k = 1 ∨ k = 2 ∨ k = 7 ∨ k = 3 ∨ k = 4 ∨ k = 6 ∨ k = 5 ∨ (k ≠ 1 ∧ k ≠ 2 ∧ k ≠ 7 ∧ k ≠ 3 ∧ k ≠ 4 ∧ k ≠ 6 ∧ k ≠ 5) by omega) with hk | hk | hk | hk | hk | hk | hk | hk
 ·
  skip
  refine wp_rs fun _ K2 => F.sg rfl fun a F => ?_
  refine s_end (K2 _ _ ?_)
  refine wp_seq_k fun _ K3 => ?_
  refine wp_rs fun _ K4 => F.mv rfl fun a F => ?_
  refine s_end (K4 _ _ ?_)
  refine wp_block ?_
  refine wp_seq_k fun _ K5 => ?_
  refine wp_rs fun _ K6 => F.vl (eqlT (by omega) rfl rfl) fun a F => F.sg rfl fun a F => ?_
  refine s_end (K6 _ _ ?_)
  refine wp_if F rfl ?_
  refine wp_skip (K5 _ _ ?_)
  refine wp_if F rfl ?_
  refine wp_rs fun _ K7 => F.sg rfl fun a F => ?_
  refine s_end (K7 _ _ ?_)
  refine wp_ret (inb_ret (then_ret (res_slot F rfl rfl ⟨by simp [arT, hk], rfl⟩)))
 ·
  skip
  refine wp_rs fun _ K8 => F.sg rfl fun a F => ?_
  refine s_end (K8 _ _ ?_)
  refine wp_seq_k fun _ K9 => ?_
  refine wp_rs fun _ K10 => F.mv rfl fun a F => ?_
  refine s_end (K10 _ _ ?_)
  refine wp_block ?_
  refine wp_seq_k fun _ K11 => ?_
  refine wp_rs fun _ K12 => F.vl (eqlF (by omega) rfl rfl) fun a F => F.sg rfl fun a F => ?_
  refine s_end (K12 _ _ ?_)
  refine wp_if F rfl ?_
  refine wp_rs fun _ K13 => F.vl (eqlT (by omega) rfl rfl) fun a F => F.sg rfl fun a F => ?_
  refine s_end (K13 _ _ ?_)
  refine wp_if F rfl ?_
  refine wp_skip (K11 _ _ ?_)
  refine wp_if F rfl ?_
  refine wp_rs fun _ K14 => F.sg rfl fun a F => ?_
  refine s_end (K14 _ _ ?_)
  refine wp_ret (inb_ret (then_ret (res_slot F rfl rfl ⟨by simp [arT, hk], rfl⟩)))
 ·
  skip
  refine wp_rs fun _ K15 => F.sg rfl fun a F => ?_
  refine s_end (K15 _ _ ?_)
  refine wp_seq_k fun _ K16 => ?_
  refine wp_rs fun _ K17 => F.mv rfl fun a F => ?_
  refine s_end (K17 _ _ ?_)
  refine wp_block ?_
  refine wp_seq_k fun _ K18 => ?_
  refine wp_rs fun _ K19 => F.vl (eqlF (by omega) rfl rfl) fun a F => F.sg rfl fun a F => ?_
  refine s_end (K19 _ _ ?_)
  refine wp_if F rfl ?_
  refine wp_rs fun _ K20 => F.vl (eqlF (by omega) rfl rfl) fun a F => F.sg rfl fun a F => ?_
  refine s_end (K20 _ _ ?_)
  refine wp_if F rfl ?_
  refine wp_region_lit ?_
  refine F.vl (eqlT (by omega) rfl rfl) fun a F => F.sg rfl fun a F => ?_
  refine s_end (K18 _ _ ?_)
  refine wp_if F rfl ?_
  refine wp_rs fun _ K21 => F.sg rfl fun a F => ?_
  refine s_end (K21 _ _ ?_)
  refine wp_ret (inb_ret (then_ret (res_slot F rfl rfl ⟨by simp [arT, hk], rfl⟩)))
 ·
  skip
  refine wp_rs fun _ K22 => F.sg rfl fun a F => ?_
  refine s_end (K22 _ _ ?_)
  refine wp_seq_k fun _ K23 => ?_
  refine wp_rs fun _ K24 => F.mv rfl fun a F => ?_
  refine s_end (K24 _ _ ?_)
  refine wp_block ?_
  refine wp_seq_k fun _ K25 => ?_
  refine wp_rs fun _ K26 => F.vl (eqlF (by omega) rfl rfl) fun a F => F.sg rfl fun a F => ?_
  refine s_end (K26 _ _ ?_)
  refine wp_if F rfl ?_
  refine wp_rs fun _ K27 => F.vl (eqlF (by omega) rfl rfl) fun a F => F.sg rfl fun a F => ?_
  refine s_end (K27 _ _ ?_)
  refine wp_if F rfl ?_
  refine wp_region_lit ?_
  refine F.vl (eqlF (by omega) rfl rfl) fun a F => F.sg rfl fun a F => ?_
  refine s_end (K25 _ _ ?_)
  refine wp_if F rfl ?_
  refine wp_seq_k fun _ K28 => ?_
  refine wp_rs fun _ K29 => F.vl (eqlT (by omega) rfl rfl) fun a F => F.sg rfl fun a F => ?_
  refine s_end (K29 _ _ ?_)
  refine wp_if F rfl ?_
  refine wp_skip (K28 _ _ ?_)
  refine wp_if F rfl ?_
  refine wp_rs fun _ K30 => F.sg rfl fun a F => ?_
  refine s_end (K30 _ _ ?_)
  refine wp_ret (inb_ret (then_ret (res_slot F rfl rfl ⟨by simp [arT, hk], rfl⟩)))
 ·
  skip
  refine wp_rs fun _ K31 => F.sg rfl fun a F => ?_
  refine s_end (K31 _ _ ?_)
  refine wp_seq_k fun _ K32 => ?_
  refine wp_rs fun _ K33 => F.mv rfl fun a F => ?_
  refine s_end (K33 _ _ ?_)
  refine wp_block ?_
  refine wp_seq_k fun _ K34 => ?_
  refine wp_rs fun _ K35 => F.vl (eqlF (by omega) rfl rfl) fun a F => F.sg rfl fun a F => ?_
  refine s_end (K35 _ _ ?_)
  refine wp_if F rfl ?_
  refine wp_rs fun _ K36 => F.vl (eqlF (by omega) rfl rfl) fun a F => F.sg rfl fun a F => ?_
  refine s_end (K36 _ _ ?_)
  refine wp_if F rfl ?_
  refine wp_region_lit ?_
  refine F.vl (eqlF (by omega) rfl rfl) fun a F => F.sg rfl fun a F => ?_
  refine s_end (K34 _ _ ?_)
  refine wp_if F rfl ?_
  refine wp_seq_k fun _ K37 => ?_
  refine wp_rs fun _ K38 => F.vl (eqlF (by omega) rfl rfl) fun a F => F.sg rfl fun a F => ?_
  refine s_end (K38 _ _ ?_)
  refine wp_if F rfl ?_
  refine wp_rs fun _ K39 => F.vl (eqlT (by omega) rfl rfl) fun a F => F.sg rfl fun a F => ?_
  refine s_end (K39 _ _ ?_)
  refine wp_if F rfl ?_
  refine wp_skip (K37 _ _ ?_)
  refine wp_if F rfl ?_
  refine wp_rs fun _ K40 => F.sg rfl fun a F => ?_
  refine s_end (K40 _ _ ?_)
  refine wp_ret (inb_ret (then_ret (res_slot F rfl rfl ⟨by simp [arT, hk], rfl⟩)))
 ·
  skip
  refine wp_rs fun _ K41 => F.sg rfl fun a F => ?_
  refine s_end (K41 _ _ ?_)
  refine wp_seq_k fun _ K42 => ?_
  refine wp_rs fun _ K43 => F.mv rfl fun a F => ?_
  refine s_end (K43 _ _ ?_)
  refine wp_block ?_
  refine wp_seq_k fun _ K44 => ?_
  refine wp_rs fun _ K45 => F.vl (eqlF (by omega) rfl rfl) fun a F => F.sg rfl fun a F => ?_
  refine s_end (K45 _ _ ?_)
  refine wp_if F rfl ?_
  refine wp_rs fun _ K46 => F.vl (eqlF (by omega) rfl rfl) fun a F => F.sg rfl fun a F => ?_
  refine s_end (K46 _ _ ?_)
  refine wp_if F rfl ?_
  refine wp_region_lit ?_
  refine F.vl (eqlF (by omega) rfl rfl) fun a F => F.sg rfl fun a F => ?_
  refine s_end (K44 _ _ ?_)
  refine wp_if F rfl ?_
  refine wp_seq_k fun _ K47 => ?_
  refine wp_rs fun _ K48 => F.vl (eqlF (by omega) rfl rfl) fun a F => F.sg rfl fun a F => ?_
  refine s_end (K48 _ _ ?_)
  refine wp_if F rfl ?_
  refine wp_rs fun _ K49 => F.vl (eqlF (by omega) rfl rfl) fun a F => F.sg rfl fun a F => ?_
  refine s_end (K49 _ _ ?_)
  refine wp_if F rfl ?_
  refine wp_region_lit ?_
  refine F.vl (eqlT (by omega) rfl rfl) fun a F => F.sg rfl fun a F => ?_
  refine s_end (K47 _ _ ?_)
  refine wp_if F rfl ?_
  refine wp_rs fun _ K50 => F.sg rfl fun a F => ?_
  refine s_end (K50 _ _ ?_)
  refine wp_ret (inb_ret (then_ret (res_slot F rfl rfl ⟨by simp [arT, hk], rfl⟩)))
 ·
  skip
  refine wp_rs fun _ K51 => F.sg rfl fun a F => ?_
  refine s_end (K51 _ _ ?_)
  refine wp_seq_k fun _ K52 => ?_
  refine wp_rs fun _ K53 => F.mv rfl fun a F => ?_
  refine s_end (K53 _ _ ?_)
  refine wp_block ?_
  refine wp_seq_k fun _ K54 => ?_
  refine wp_rs fun _ K55 => F.vl (eqlF (by omega) rfl rfl) fun a F => F.sg rfl fun a F => ?_
  refine s_end (K55 _ _ ?_)
  refine wp_if F rfl ?_
  refine wp_rs fun _ K56 => F.vl (eqlF (by omega) rfl rfl) fun a F => F.sg rfl fun a F => ?_
  refine s_end (K56 _ _ ?_)
  refine wp_if F rfl ?_
  refine wp_region_lit ?_
  refine F.vl (eqlF (by omega) rfl rfl) fun a F => F.sg rfl fun a F => ?_
  refine s_end (K54 _ _ ?_)
  refine wp_if F rfl ?_
  refine wp_seq_k fun _ K57 => ?_
  refine wp_rs fun _ K58 => F.vl (eqlF (by omega) rfl rfl) fun a F => F.sg rfl fun a F => ?_
  refine s_end (K58 _ _ ?_)
  refine wp_if F rfl ?_
  refine wp_rs fun _ K59 => F.vl (eqlF (by omega) rfl rfl) fun a F => F.sg rfl fun a F => ?_
  refine s_end (K59 _ _ ?_)
  refine wp_if F rfl ?_
  refine wp_region_lit ?_
  refine F.vl (eqlF (by omega) rfl rfl) fun a F => F.sg rfl fun a F => ?_
  refine s_end (K57 _ _ ?_)
  refine wp_if F rfl ?_
  refine wp_rs fun _ K60 => F.vl (eqlT (by omega) rfl rfl) fun a F => F.sg rfl fun a F => ?_
  refine s_end (K60 _ _ ?_)
  refine wp_if F rfl ?_
  refine wp_rs fun _ K61 => F.sg rfl fun a F => ?_
  refine s_end (K61 _ _ ?_)
  refine wp_ret (inb_ret (then_ret (res_slot F rfl rfl ⟨by simp [arT, hk], rfl⟩)))
 ·
  skip
  refine wp_rs fun _ K62 => F.sg rfl fun a F => ?_
  refine s_end (K62 _ _ ?_)
  refine wp_seq_k fun _ K63 => ?_
  refine wp_rs fun _ K64 => F.mv rfl fun a F => ?_
  refine s_end (K64 _ _ ?_)
  refine wp_block ?_
  refine wp_seq_k fun _ K65 => ?_
  refine wp_rs fun _ K66 => F.vl (eqlF (by omega) rfl rfl) fun a F => F.sg rfl fun a F => ?_
  refine s_end (K66 _ _ ?_)
  refine wp_if F rfl ?_
  refine wp_rs fun _ K67 => F.vl (eqlF (by omega) rfl rfl) fun a F => F.sg rfl fun a F => ?_
  refine s_end (K67 _ _ ?_)
  refine wp_if F rfl ?_
  refine wp_region_lit ?_
  refine F.vl (eqlF (by omega) rfl rfl) fun a F => F.sg rfl fun a F => ?_
  refine s_end (K65 _ _ ?_)
  refine wp_if F rfl ?_
  refine wp_seq_k fun _ K68 => ?_
  refine wp_rs fun _ K69 => F.vl (eqlF (by omega) rfl rfl) fun a F => F.sg rfl fun a F => ?_
  refine s_end (K69 _ _ ?_)
  refine wp_if F rfl ?_
  refine wp_rs fun _ K70 => F.vl (eqlF (by omega) rfl rfl) fun a F => F.sg rfl fun a F => ?_
  refine s_end (K70 _ _ ?_)
  refine wp_if F rfl ?_
  refine wp_region_lit ?_
  refine F.vl (eqlF (by omega) rfl rfl) fun a F => F.sg rfl fun a F => ?_
  refine s_end (K68 _ _ ?_)
  refine wp_if F rfl ?_
  refine wp_rs fun _ K71 => F.vl (eqlF (by omega) rfl rfl) fun a F => F.sg rfl fun a F => ?_
  refine s_end (K71 _ _ ?_)
  refine wp_if F rfl ?_
  refine wp_skip (K63 _ _ ?_)
  refine wp_rs fun _ K72 => F.sg rfl fun a F => ?_
  refine s_end (K72 _ _ ?_)
  refine wp_ret (res_slot F rfl rfl ⟨by simp [arT, hk], rfl⟩)
theorem kidsOf101 (c : CT) (x : C8) (A : Nat → Prop) (wa w0 : World) (hx : RC wa A c x) : Calls Try.prog 84 #[tv x] w0 fun e w' => ∃ v, e = .returned v ∧ RK wa A v c.kids ∧ Below w0.heap.size w0 w' := by
 obtain ⟨av, nv, cv, hts, hle, hlen, hcap, hkid⟩ := hx.kids
 obtain ⟨xk, xn, xs, xl, xls, xts⟩ := x
 simp only at hts
 subst hts
 have hkd : xk = c.kd := hx.kd
 have hone := hx.one
 have hB := Below.refl w0.heap.size w0
 have sB := hB.size
 refine calls_fs 20 [(0, tv ⟨xk, xn, xs, xl, xls, .slice av nv cv⟩)] Try.func84 rfl rfl rfl rfl rfl fun a F => ?_
 rcases (show (arT xk ≤ nv ∧ (c.kids.length : Int) = max 0 (arT xk)) ∨ ((nv : Int) < arT xk ∧ c.kids.length = 0) by rw [hkd, hlen]; rcases CT.kids_arT hx with h | h <;> omega) with hk | hk
 ·
  skip
  refine wp_rs fun _ K2 => ?_
  refine s_box ([.int .i64 xk, .int .i64 xn, .string xs, .int .i64 xl.1, .int .i64 xl.2.1, xl.2.2, xls, .slice av nv cv]) F (by decide) rfl rfl fun w2 b1 a eb1 m1 B3 zb1 F => ?_
  have sB3 := B3.size
  have hB := bt hB B3
  refine F.sg rfl fun a F => ?_
  refine s_end (K2 _ _ ?_)
  refine wp_rs fun _ K3 => F.vl (x_fa0 fa27_0 rfl) fun a F => F.ld m1 flat3 rfl rfl fun a F => ?_
  refine s_callS [_] F E122 rfl (by decide) (arity109 xk w2) fun a F => ?_
  refine F.mv rfl fun a F => F.vl (x_ext rfl rfl) fun a F => F.vl (x_ext rfl rfl) fun a F => F.sg rfl fun a F => F.sg rfl fun a F => ?_
  refine s_end (K3 _ _ ?_)
  refine wp_seq_k fun _ K4 => ?_
  refine wp_rs fun _ K5 => F.vl (x_fa0 fa27_5 rfl) fun a F => F.ld m1 flat25 rfl rfl fun a F => F.vl (x_len Try.underlying25 rfl) fun a F => F.mv rfl fun a F => F.vl (lssF (by omega) rfl rfl) fun a F => ?_
  refine s_end (K5 _ _ ?_)
  refine wp_if F rfl ?_
  refine wp_skip (K4 _ _ ?_)
  refine wp_rs fun _ K6 => F.vl (x_fa0 fa27_5 rfl) fun a F => F.ld m1 flat25 rfl rfl fun a F => F.mv rfl fun a F => F.vl (x_slice (vlo := none) (vhi := some _) (vmx := none) rfl rfl rfl rfl (m_sliceUK c.kids.length Try.underlying25 el25.size (by omega) (by omega))) fun a F => F.sg rfl fun a F => ?_
  refine s_end (K6 _ _ ?_)
  refine wp_ret (res_slot F rfl rfl ⟨_, rfl, hkid, hB⟩)
 ·
  skip
  refine wp_rs fun _ K7 => ?_
  refine s_box ([.int .i64 xk, .int .i64 xn, .string xs, .int .i64 xl.1, .int .i64 xl.2.1, xl.2.2, xls, .slice av nv cv]) F (by decide) rfl rfl fun w4 b1 a eb1 m1 B5 zb1 F => ?_
  have sB5 := B5.size
  have hB := bt hB B5
  refine F.sg rfl fun a F => ?_
  refine s_end (K7 _ _ ?_)
  refine wp_rs fun _ K8 => F.vl (x_fa0 fa27_0 rfl) fun a F => F.ld m1 flat3 rfl rfl fun a F => ?_
  refine s_callS [_] F E122 rfl (by decide) (arity109 xk w4) fun a F => ?_
  refine F.mv rfl fun a F => F.vl (x_ext rfl rfl) fun a F => F.vl (x_ext rfl rfl) fun a F => F.sg rfl fun a F => F.sg rfl fun a F => ?_
  refine s_end (K8 _ _ ?_)
  refine wp_seq_k fun _ K9 => ?_
  refine wp_rs fun _ K10 => F.vl (x_fa0 fa27_5 rfl) fun a F => F.ld m1 flat25 rfl rfl fun a F => F.vl (x_len Try.underlying25 rfl) fun a F => F.mv rfl fun a F => F.vl (lssT (by omega) rfl rfl) fun a F => ?_
  refine s_end (K10 _ _ ?_)
  refine wp_if F rfl ?_
  refine wp_rs fun _ K11 => F.sg rfl fun a F => ?_
  refine s_end (K11 _ _ ?_)
  refine wp_ret (then_ret (res_slot F rfl rfl ⟨_, rfl, (by rw [List.eq_nil_of_length_eq_zero hk.2]; exact RK.nil _ _), hB⟩))
theorem binds112 (c : CT) (x : C8) (A : Nat → Prop) (i : Nat) (wa w0 : World) (hx : RC wa A c x) (hi : i < c.kids.length) : Calls Try.prog 101 #[tv x, .int .i64 (i : Int)] w0 fun e w' => e = .returned (.int .i64 (c.bnd i)) ∧ Below w0.heap.size w0 w' := by
 have hx0 := hx
 have hbd := CT.bnd_eq hx hi
 have h3 := c.kids_le
 obtain ⟨av, nv, cv, hts, hle, hlen, hcap, hkid⟩ := hx.kids
 obtain ⟨xk, xn, xs, xl, xls, xts⟩ := x
 simp only at hts
 subst hts
 have hkd : xk = c.kd := hx.kd
 have hone := hx.one
 have hB := Below.refl w0.heap.size w0
 have sB := hB.size
 refine calls_fs 17 [(0, tv ⟨xk, xn, xs, xl, xls, .slice av nv cv⟩), (1, .int .i64 (i : Int))] Try.func101 rfl rfl rfl rfl rfl fun a F => ?_
 rcases (show xk = 3 ∧ i + 1 = c.kids.length ∨ xk = 3 ∧ i + 1 ≠ c.kids.length ∨ xk = 4 ∧ i + 1 = c.kids.length ∨ xk = 4 ∧ i + 1 ≠ c.kids.length ∨ xk = 5 ∧ i + 1 = c.kids.length ∨ xk = 5 ∧ i + 1 ≠ c.kids.length ∨ xk ≠ 3 ∧ xk ≠ 4 ∧ xk ≠ 5 by omega) with hk | hk | hk | hk | hk | hk | hk
 ·
  have hb9 : c.bnd i = 1 := by omega
  refine wp_rs fun _ K2 => ?_
  refine s_box ([.int .i64 xk, .int .i64 xn, .string xs, .int .i64 xl.1, .int .i64 xl.2.1, xl.2.2, xls, .slice av nv cv]) F (by decide) rfl rfl fun w2 b2 a eb2 m2 B3 zb2 F => ?_
  have sB3 := B3.size
  have hB := bt hB B3
  refine F.sg rfl fun a F => ?_
  refine s_end (K2 _ _ ?_)
  refine wp_seq_k fun _ K3 => ?_
  refine wp_rs fun _ K4 => F.vl (x_fa0 fa27_0 rfl) fun a F => F.ld m2 flat3 rfl rfl fun a F => ?_
  refine s_end (K4 _ _ ?_)
  refine wp_block ?_
  refine wp_seq_k fun _ K5 => ?_
  refine wp_rs fun _ K6 => F.vl (eqlT (by omega) rfl rfl) fun a F => F.sg rfl fun a F => ?_
  refine s_end (K6 _ _ ?_)
  refine wp_if F rfl ?_
  refine wp_skip (K5 _ _ ?_)
  refine wp_if F rfl ?_
  refine wp_rs fun _ K7 => F.mv rfl fun a F => F.vl (x_ldW wide27 m2 rfl rfl) fun a F => ?_
  refine s_callR (R := fun v w' => RK wa A v c.kids) [_] F E84 rfl (by decide) (kidsOf101 c ⟨xk, xn, xs, xl, xls, .slice av nv cv⟩ A wa w2 hx) ?_
  rintro v13 w4 a hv13 B5 F
  have sB5 := B5.size
  have hB := bt hB B5
  obtain ⟨a13, c13, hve, _⟩ := hv13.form
  subst hve
  refine F.vl (x_len Try.underlying25 rfl) fun a F => F.vl (x_sub (by omega) (by omega) rfl rfl) fun a F => F.vl (eqlT (by omega) rfl rfl) fun a F => ?_
  refine s_end (K7 _ _ ?_)
  refine wp_if F rfl ?_
  refine wp_rs fun _ K8 => F.sg rfl fun a F => ?_
  refine s_end (K8 _ _ ?_)
  refine wp_ret (inb_ret (then_ret (res_slot F rfl rfl ⟨by rw [hb9], hB⟩)))
 ·
  have hb9 : c.bnd i = 0 := by omega
  refine wp_rs fun _ K9 => ?_
  refine s_box ([.int .i64 xk, .int .i64 xn, .string xs, .int .i64 xl.1, .int .i64 xl.2.1, xl.2.2, xls, .slice av nv cv]) F (by decide) rfl rfl fun w6 b2 a eb2 m2 B7 zb2 F => ?_
  have sB7 := B7.size
  have hB := bt hB B7
  refine F.sg rfl fun a F => ?_
  refine s_end (K9 _ _ ?_)
  refine wp_seq_k fun _ K10 => ?_
  refine wp_rs fun _ K11 => F.vl (x_fa0 fa27_0 rfl) fun a F => F.ld m2 flat3 rfl rfl fun a F => ?_
  refine s_end (K11 _ _ ?_)
  refine wp_block ?_
  refine wp_seq_k fun _ K12 => ?_
  refine wp_rs fun _ K13 => F.vl (eqlT (by omega) rfl rfl) fun a F => F.sg rfl fun a F => ?_
  refine s_end (K13 _ _ ?_)
  refine wp_if F rfl ?_
  refine wp_skip (K12 _ _ ?_)
  refine wp_if F rfl ?_
  refine wp_rs fun _ K14 => F.mv rfl fun a F => F.vl (x_ldW wide27 m2 rfl rfl) fun a F => ?_
  refine s_callR (R := fun v w' => RK wa A v c.kids) [_] F E84 rfl (by decide) (kidsOf101 c ⟨xk, xn, xs, xl, xls, .slice av nv cv⟩ A wa w6 hx) ?_
  rintro v13 w8 a hv13 B9 F
  have sB9 := B9.size
  have hB := bt hB B9
  obtain ⟨a13, c13, hve, _⟩ := hv13.form
  subst hve
  refine F.vl (x_len Try.underlying25 rfl) fun a F => F.vl (x_sub (by omega) (by omega) rfl rfl) fun a F => F.vl (eqlF (by omega) rfl rfl) fun a F => ?_
  refine s_end (K14 _ _ ?_)
  refine wp_if F rfl ?_
  refine wp_skip (K10 _ _ ?_)
  refine wp_rs fun _ K15 => F.sg rfl fun a F => ?_
  refine s_end (K15 _ _ ?_)
  refine wp_ret (res_slot F rfl rfl ⟨by rw [hb9], hB⟩)
 ·
  have hb9 : c.bnd i = 1 := by omega
  refine wp_rs fun _ K16 => ?_
  refine s_box ([.int .i64 xk, .int .i64 xn, .string xs, .int .i64 xl.1, .int .i64 xl.2.1, xl.2.2, xls, .slice av nv cv]) F (by decide) rfl rfl fun w10 b2 a eb2 m2 B11 zb2 F => ?_
  have sB11 := B11.size
  have hB := bt hB B11
  refine F.sg rfl fun a F => ?_
  refine s_end (K16 _ _ ?_)
  refine wp_seq_k fun _ K17 => ?_
  refine wp_rs fun _ K18 => F.vl (x_fa0 fa27_0 rfl) fun a F => F.ld m2 flat3 rfl rfl fun a F => ?_
  refine s_end (K18 _ _ ?_)
  refine wp_block ?_
  refine wp_seq_k fun _ K19 => ?_
  refine wp_rs fun _ K20 => F.vl (eqlF (by omega) rfl rfl) fun a F => F.sg rfl fun a F => ?_
  refine s_end (K20 _ _ ?_)
  refine wp_if F rfl ?_
  refine wp_rs fun _ K21 => F.vl (eqlT (by omega) rfl rfl) fun a F => F.sg rfl fun a F => ?_
  refine s_end (K21 _ _ ?_)
  refine wp_if F rfl ?_
  refine wp_skip (K19 _ _ ?_)
  refine wp_if F rfl ?_
  refine wp_rs fun _ K22 => F.mv rfl fun a F => F.vl (x_ldW wide27 m2 rfl rfl) fun a F => ?_
  refine s_callR (R := fun v w' => RK wa A v c.kids) [_] F E84 rfl (by decide) (kidsOf101 c ⟨xk, xn, xs, xl, xls, .slice av nv cv⟩ A wa w10 hx) ?_
  rintro v13 w12 a hv13 B13 F
  have sB13 := B13.size
  have hB := bt hB B13
  obtain ⟨a13, c13, hve, _⟩ := hv13.form
  subst hve
  refine F.vl (x_len Try.underlying25 rfl) fun a F => F.vl (x_sub (by omega) (by omega) rfl rfl) fun a F => F.vl (eqlT (by omega) rfl rfl) fun a F => ?_
  refine s_end (K22 _ _ ?_)
  refine wp_if F rfl ?_
  refine wp_rs fun _ K23 => F.sg rfl fun a F => ?_
  refine s_end (K23 _ _ ?_)
  refine wp_ret (inb_ret (then_ret (res_slot F rfl rfl ⟨by rw [hb9], hB⟩)))
 ·
  have hb9 : c.bnd i = 0 := by omega
  refine wp_rs fun _ K24 => ?_
  refine s_box ([.int .i64 xk, .int .i64 xn, .string xs, .int .i64 xl.1, .int .i64 xl.2.1, xl.2.2, xls, .slice av nv cv]) F (by decide) rfl rfl fun w14 b2 a eb2 m2 B15 zb2 F => ?_
  have sB15 := B15.size
  have hB := bt hB B15
  refine F.sg rfl fun a F => ?_
  refine s_end (K24 _ _ ?_)
  refine wp_seq_k fun _ K25 => ?_
  refine wp_rs fun _ K26 => F.vl (x_fa0 fa27_0 rfl) fun a F => F.ld m2 flat3 rfl rfl fun a F => ?_
  refine s_end (K26 _ _ ?_)
  refine wp_block ?_
  refine wp_seq_k fun _ K27 => ?_
  refine wp_rs fun _ K28 => F.vl (eqlF (by omega) rfl rfl) fun a F => F.sg rfl fun a F => ?_
  refine s_end (K28 _ _ ?_)
  refine wp_if F rfl ?_
  refine wp_rs fun _ K29 => F.vl (eqlT (by omega) rfl rfl) fun a F => F.sg rfl fun a F => ?_
  refine s_end (K29 _ _ ?_)
  refine wp_if F rfl ?_
  refine wp_skip (K27 _ _ ?_)
  refine wp_if F rfl ?_
  refine wp_rs fun _ K30 => F.mv rfl fun a F => F.vl (x_ldW wide27 m2 rfl rfl) fun a F => ?_
  refine s_callR (R := fun v w' => RK wa A v c.kids) [_] F E84 rfl (by decide) (kidsOf101 c ⟨xk, xn, xs, xl, xls, .slice av nv cv⟩ A wa w14 hx) ?_
  rintro v13 w16 a hv13 B17 F
  have sB17 := B17.size
  have hB := bt hB B17
  obtain ⟨a13, c13, hve, _⟩ := hv13.form
  subst hve
  refine F.vl (x_len Try.underlying25 rfl) fun a F => F.vl (x_sub (by omega) (by omega) rfl rfl) fun a F => F.vl (eqlF (by omega) rfl rfl) fun a F => ?_
  refine s_end (K30 _ _ ?_)
  refine wp_if F rfl ?_
  refine wp_skip (K25 _ _ ?_)
  refine wp_rs fun _ K31 => F.sg rfl fun a F => ?_
  refine s_end (K31 _ _ ?_)
  refine wp_ret (res_slot F rfl rfl ⟨by rw [hb9], hB⟩)
 ·
  have hb9 : c.bnd i = 1 := by omega
  refine wp_rs fun _ K32 => ?_
  refine s_box ([.int .i64 xk, .int .i64 xn, .string xs, .int .i64 xl.1, .int .i64 xl.2.1, xl.2.2, xls, .slice av nv cv]) F (by decide) rfl rfl fun w18 b2 a eb2 m2 B19 zb2 F => ?_
  have sB19 := B19.size
  have hB := bt hB B19
  refine F.sg rfl fun a F => ?_
  refine s_end (K32 _ _ ?_)
  refine wp_seq_k fun _ K33 => ?_
  refine wp_rs fun _ K34 => F.vl (x_fa0 fa27_0 rfl) fun a F => F.ld m2 flat3 rfl rfl fun a F => ?_
  refine s_end (K34 _ _ ?_)
  refine wp_block ?_
  refine wp_seq_k fun _ K35 => ?_
  refine wp_rs fun _ K36 => F.vl (eqlF (by omega) rfl rfl) fun a F => F.sg rfl fun a F => ?_
  refine s_end (K36 _ _ ?_)
  refine wp_if F rfl ?_
  refine wp_rs fun _ K37 => F.vl (eqlF (by omega) rfl rfl) fun a F => F.sg rfl fun a F => ?_
  refine s_end (K37 _ _ ?_)
  refine wp_if F rfl ?_
  refine wp_region_lit ?_
  refine F.vl (eqlT (by omega) rfl rfl) fun a F => F.sg rfl fun a F => ?_
  refine s_end (K35 _ _ ?_)
  refine wp_if F rfl ?_
  refine wp_rs fun _ K38 => F.mv rfl fun a F => F.vl (x_ldW wide27 m2 rfl rfl) fun a F => ?_
  refine s_callR (R := fun v w' => RK wa A v c.kids) [_] F E84 rfl (by decide) (kidsOf101 c ⟨xk, xn, xs, xl, xls, .slice av nv cv⟩ A wa w18 hx) ?_
  rintro v13 w20 a hv13 B21 F
  have sB21 := B21.size
  have hB := bt hB B21
  obtain ⟨a13, c13, hve, _⟩ := hv13.form
  subst hve
  refine F.vl (x_len Try.underlying25 rfl) fun a F => F.vl (x_sub (by omega) (by omega) rfl rfl) fun a F => F.vl (eqlT (by omega) rfl rfl) fun a F => ?_
  refine s_end (K38 _ _ ?_)
  refine wp_if F rfl ?_
  refine wp_rs fun _ K39 => F.sg rfl fun a F => ?_
  refine s_end (K39 _ _ ?_)
  refine wp_ret (inb_ret (then_ret (res_slot F rfl rfl ⟨by rw [hb9], hB⟩)))
 ·
  have hb9 : c.bnd i = 0 := by omega
  refine wp_rs fun _ K40 => ?_
  refine s_box ([.int .i64 xk, .int .i64 xn, .string xs, .int .i64 xl.1, .int .i64 xl.2.1, xl.2.2, xls, .slice av nv cv]) F (by decide) rfl rfl fun w22 b2 a eb2 m2 B23 zb2 F => ?_
  have sB23 := B23.size
  have hB := bt hB B23
  refine F.sg rfl fun a F => ?_
  refine s_end (K40 _ _ ?_)
  refine wp_seq_k fun _ K41 => ?_
  refine wp_rs fun _ K42 => F.vl (x_fa0 fa27_0 rfl) fun a F => F.ld m2 flat3 rfl rfl fun a F => ?_
  refine s_end (K42 _ _ ?_)
  refine wp_block ?_
  refine wp_seq_k fun _ K43 => ?_
  refine wp_rs fun _ K44 => F.vl (eqlF (by omega) rfl rfl) fun a F => F.sg rfl fun a F => ?_
  refine s_end (K44 _ _ ?_)
  refine wp_if F rfl ?_
  refine wp_rs fun _ K45 => F.vl (eqlF (by omega) rfl rfl) fun a F => F.sg rfl fun a F => ?_
  refine s_end (K45 _ _ ?_)
  refine wp_if F rfl ?_
  refine wp_region_lit ?_
  refine F.vl (eqlT (by omega) rfl rfl) fun a F => F.sg rfl fun a F => ?_
  refine s_end (K43 _ _ ?_)
  refine wp_if F rfl ?_
  refine wp_rs fun _ K46 => F.mv rfl fun a F => F.vl (x_ldW wide27 m2 rfl rfl) fun a F => ?_
  refine s_callR (R := fun v w' => RK wa A v c.kids) [_] F E84 rfl (by decide) (kidsOf101 c ⟨xk, xn, xs, xl, xls, .slice av nv cv⟩ A wa w22 hx) ?_
  rintro v13 w24 a hv13 B25 F
  have sB25 := B25.size
  have hB := bt hB B25
  obtain ⟨a13, c13, hve, _⟩ := hv13.form
  subst hve
  refine F.vl (x_len Try.underlying25 rfl) fun a F => F.vl (x_sub (by omega) (by omega) rfl rfl) fun a F => F.vl (eqlF (by omega) rfl rfl) fun a F => ?_
  refine s_end (K46 _ _ ?_)
  refine wp_if F rfl ?_
  refine wp_skip (K41 _ _ ?_)
  refine wp_rs fun _ K47 => F.sg rfl fun a F => ?_
  refine s_end (K47 _ _ ?_)
  refine wp_ret (res_slot F rfl rfl ⟨by rw [hb9], hB⟩)
 ·
  have hb9 : c.bnd i = 0 := by omega
  refine wp_rs fun _ K48 => ?_
  refine s_box ([.int .i64 xk, .int .i64 xn, .string xs, .int .i64 xl.1, .int .i64 xl.2.1, xl.2.2, xls, .slice av nv cv]) F (by decide) rfl rfl fun w26 b2 a eb2 m2 B27 zb2 F => ?_
  have sB27 := B27.size
  have hB := bt hB B27
  refine F.sg rfl fun a F => ?_
  refine s_end (K48 _ _ ?_)
  refine wp_seq_k fun _ K49 => ?_
  refine wp_rs fun _ K50 => F.vl (x_fa0 fa27_0 rfl) fun a F => F.ld m2 flat3 rfl rfl fun a F => ?_
  refine s_end (K50 _ _ ?_)
  refine wp_block ?_
  refine wp_seq_k fun _ K51 => ?_
  refine wp_rs fun _ K52 => F.vl (eqlF (by omega) rfl rfl) fun a F => F.sg rfl fun a F => ?_
  refine s_end (K52 _ _ ?_)
  refine wp_if F rfl ?_
  refine wp_rs fun _ K53 => F.vl (eqlF (by omega) rfl rfl) fun a F => F.sg rfl fun a F => ?_
  refine s_end (K53 _ _ ?_)
  refine wp_if F rfl ?_
  refine wp_region_lit ?_
  refine F.vl (eqlF (by omega) rfl rfl) fun a F => F.sg rfl fun a F => ?_
  refine s_end (K51 _ _ ?_)
  refine wp_if F rfl ?_
  refine wp_skip (K49 _ _ ?_)
  refine wp_rs fun _ K54 => F.sg rfl fun a F => ?_
  refine s_end (K54 _ _ ?_)
  refine wp_ret (res_slot F rfl rfl ⟨by rw [hb9], hB⟩)
theorem isApplied68 (c : CT) (x : C8) (A : Nat → Prop) (wa w0 : World) (hx : RC wa A c x) : Calls Try.prog 52 #[tv x] w0 fun e w' => e = .returned (.bool (decide (c.kd = 6 ∧ 0 < c.kids.length))) ∧ Below w0.heap.size w0 w' := by
 have h3 := c.kids_le
 obtain ⟨av, nv, cv, hts, hle, hlen, hcap, hkid⟩ := hx.kids
 obtain ⟨xk, xn, xs, xl, xls, xts⟩ := x
 simp only at hts
 subst hts
 have hkd : xk = c.kd := hx.kd
 have hone := hx.one
 have hB := Below.refl w0.heap.size w0
 have sB := hB.size
 refine calls_fs 12 [(0, tv ⟨xk, xn, xs, xl, xls, .slice av nv cv⟩)] Try.func52 rfl rfl rfl rfl rfl fun a F => ?_
 rcases (show (xk = 6 ∧ 0 < c.kids.length) ∨ (xk = 6 ∧ ¬ 0 < c.kids.length) ∨ xk ≠ 6 by omega) with hk | hk | hk
 ·
  skip
  refine wp_rs fun _ K2 => ?_
  refine s_box ([.int .i64 xk, .int .i64 xn, .string xs, .int .i64 xl.1, .int .i64 xl.2.1, xl.2.2, xls, .slice av nv cv]) F (by decide) rfl rfl fun w2 b1 a eb1 m1 B3 zb1 F => ?_
  have sB3 := B3.size
  have hB := bt hB B3
  refine F.sg rfl fun a F => ?_
  refine s_end (K2 _ _ ?_)
  refine wp_rs fun _ K3 => F.vl (x_fa0 fa27_0 rfl) fun a F => F.ld m1 flat3 rfl rfl fun a F => F.vl (eqlT (by omega) rfl rfl) fun a F => F.mv rfl fun a F => s_grd 6 F rfl rfl rfl <| F.vl (x_ldW wide27 m1 rfl rfl) fun a F => s_grd 6 F rfl rfl rfl ?_
  refine s_callR (R := fun v w' => RK wa A v c.kids) [_] F E84 rfl (by decide) (kidsOf101 c ⟨xk, xn, xs, xl, xls, .slice av nv cv⟩ A wa w2 hx) ?_
  rintro v13 w4 a hv13 B5 F
  have sB5 := B5.size
  have hB := bt hB B5
  obtain ⟨a13, c13, hve, _⟩ := hv13.form
  subst hve
  refine s_grd 6 F rfl rfl rfl <| F.vl (x_len Try.underlying25 rfl) fun a F => s_grd 6 F rfl rfl rfl <| F.vl (gtrT (by omega) rfl rfl) fun a F => F.vl (x_pick (b := true) rfl rfl) fun a F => F.sg rfl fun a F => ?_
  refine s_end (K3 _ _ ?_)
  refine wp_ret (res_slot F rfl rfl ⟨by rw [← hkd, decide_eq_true (by omega)], hB⟩)
 ·
  skip
  refine wp_rs fun _ K4 => ?_
  refine s_box ([.int .i64 xk, .int .i64 xn, .string xs, .int .i64 xl.1, .int .i64 xl.2.1, xl.2.2, xls, .slice av nv cv]) F (by decide) rfl rfl fun w6 b1 a eb1 m1 B7 zb1 F => ?_
  have sB7 := B7.size
  have hB := bt hB B7
  refine F.sg rfl fun a F => ?_
  refine s_end (K4 _ _ ?_)
  refine wp_rs fun _ K5 => F.vl (x_fa0 fa27_0 rfl) fun a F => F.ld m1 flat3 rfl rfl fun a F => F.vl (eqlT (by omega) rfl rfl) fun a F => F.mv rfl fun a F => s_grd 6 F rfl rfl rfl <| F.vl (x_ldW wide27 m1 rfl rfl) fun a F => s_grd 6 F rfl rfl rfl ?_
  refine s_callR (R := fun v w' => RK wa A v c.kids) [_] F E84 rfl (by decide) (kidsOf101 c ⟨xk, xn, xs, xl, xls, .slice av nv cv⟩ A wa w6 hx) ?_
  rintro v13 w8 a hv13 B9 F
  have sB9 := B9.size
  have hB := bt hB B9
  obtain ⟨a13, c13, hve, _⟩ := hv13.form
  subst hve
  refine s_grd 6 F rfl rfl rfl <| F.vl (x_len Try.underlying25 rfl) fun a F => s_grd 6 F rfl rfl rfl <| F.vl (gtrF (by omega) rfl rfl) fun a F => F.vl (x_pick (b := true) rfl rfl) fun a F => F.sg rfl fun a F => ?_
  refine s_end (K5 _ _ ?_)
  refine wp_ret (res_slot F rfl rfl ⟨by rw [← hkd, decide_eq_false (by omega)], hB⟩)
 ·
  skip
  refine wp_rs fun _ K6 => ?_
  refine s_box ([.int .i64 xk, .int .i64 xn, .string xs, .int .i64 xl.1, .int .i64 xl.2.1, xl.2.2, xls, .slice av nv cv]) F (by decide) rfl rfl fun w10 b1 a eb1 m1 B11 zb1 F => ?_
  have sB11 := B11.size
  have hB := bt hB B11
  refine F.sg rfl fun a F => ?_
  refine s_end (K6 _ _ ?_)
  refine wp_rs fun _ K7 => F.vl (x_fa0 fa27_0 rfl) fun a F => F.ld m1 flat3 rfl rfl fun a F => F.vl (eqlF (by omega) rfl rfl) fun a F => F.mv rfl fun a F => s_grdn 6 F rfl rfl (by decide) fun a F => s_grdn 6 F rfl rfl (by decide) fun a F => s_grdn 6 F rfl rfl (by decide) fun a F => s_grdn 6 F rfl rfl (by decide) fun a F => F.vl (x_pick (b := false) rfl rfl) fun a F => F.sg rfl fun a F => ?_
  refine s_end (K7 _ _ ?_)
  refine wp_ret (res_slot F rfl rfl ⟨by rw [← hkd, decide_eq_false (by omega)], hB⟩)
theorem isIn105 (n d : Int) (w0 : World) : Calls Try.prog 89 #[.agg [.int .i64 n, .int .i64 d].toArray] w0 fun e w' => e = .returned (.bool (decide (n ≤ 20000 ∧ d ≤ 2000))) ∧ Below w0.heap.size w0 w' := by
 have hB := Below.refl w0.heap.size w0
 have sB := hB.size
 refine calls_fs 11 [(0, .agg [.int .i64 n, .int .i64 d].toArray)] Try.func89 rfl rfl rfl rfl rfl fun a F => ?_
 rcases (show (n ≤ 20000 ∧ d ≤ 2000) ∨ (n ≤ 20000 ∧ ¬ d ≤ 2000) ∨ ¬ n ≤ 20000 by omega) with hk | hk | hk
 ·
  skip
  refine wp_rs fun _ K2 => ?_
  refine s_box ([.int .i64 n, .int .i64 d]) F (by decide) rfl rfl fun w2 b1 a eb1 m1 B3 zb1 F => ?_
  have sB3 := B3.size
  have hB := bt hB B3
  refine F.sg rfl fun a F => ?_
  refine s_end (K2 _ _ ?_)
  refine wp_rs fun _ K3 => F.vl (x_fa0 fa70_0 rfl) fun a F => F.ld m1 flat3 rfl rfl fun a F => F.vl (leqT (by omega) rfl rfl) fun a F => F.mv rfl fun a F => s_grd 6 F rfl rfl rfl <| F.vl (x_fa0 fa70_1 rfl) fun a F => s_grd 6 F rfl rfl rfl <| F.ld m1 flat3 rfl rfl fun a F => s_grd 6 F rfl rfl rfl <| F.vl (leqT (by omega) rfl rfl) fun a F => F.vl (x_pick (b := true) rfl rfl) fun a F => F.sg rfl fun a F => ?_
  refine s_end (K3 _ _ ?_)
  refine wp_ret (res_slot F rfl rfl ⟨by rw [decide_eq_true (by omega)], hB⟩)
 ·
  skip
  refine wp_rs fun _ K4 => ?_
  refine s_box ([.int .i64 n, .int .i64 d]) F (by decide) rfl rfl fun w4 b1 a eb1 m1 B5 zb1 F => ?_
  have sB5 := B5.size
  have hB := bt hB B5
  refine F.sg rfl fun a F => ?_
  refine s_end (K4 _ _ ?_)
  refine wp_rs fun _ K5 => F.vl (x_fa0 fa70_0 rfl) fun a F => F.ld m1 flat3 rfl rfl fun a F => F.vl (leqT (by omega) rfl rfl) fun a F => F.mv rfl fun a F => s_grd 6 F rfl rfl rfl <| F.vl (x_fa0 fa70_1 rfl) fun a F => s_grd 6 F rfl rfl rfl <| F.ld m1 flat3 rfl rfl fun a F => s_grd 6 F rfl rfl rfl <| F.vl (leqF (by omega) rfl rfl) fun a F => F.vl (x_pick (b := true) rfl rfl) fun a F => F.sg rfl fun a F => ?_
  refine s_end (K5 _ _ ?_)
  refine wp_ret (res_slot F rfl rfl ⟨by rw [decide_eq_false (by omega)], hB⟩)
 ·
  skip
  refine wp_rs fun _ K6 => ?_
  refine s_box ([.int .i64 n, .int .i64 d]) F (by decide) rfl rfl fun w6 b1 a eb1 m1 B7 zb1 F => ?_
  have sB7 := B7.size
  have hB := bt hB B7
  refine F.sg rfl fun a F => ?_
  refine s_end (K6 _ _ ?_)
  refine wp_rs fun _ K7 => F.vl (x_fa0 fa70_0 rfl) fun a F => F.ld m1 flat3 rfl rfl fun a F => F.vl (leqF (by omega) rfl rfl) fun a F => F.mv rfl fun a F => s_grdn 6 F rfl rfl (by decide) fun a F => s_grdn 6 F rfl rfl (by decide) fun a F => s_grdn 6 F rfl rfl (by decide) fun a F => F.vl (x_pick (b := false) rfl rfl) fun a F => F.sg rfl fun a F => ?_
  refine s_end (K7 _ _ ?_)
  refine wp_ret (res_slot F rfl rfl ⟨by rw [decide_eq_false (by omega)], hB⟩)
theorem isPlace121 (c : CT) (x : C8) (A : Nat → Prop) (d : Int) (wa w0 : World) (hx : RC wa A c x) : Calls Try.prog 94 #[tv x, .int .i64 d] w0 fun e w' => e = .returned (.bool (c.isV d)) ∧ Below w0.heap.size w0 w' := by
 have hV := CT.isV_eq hx d
 have hB := Below.refl w0.heap.size w0
 have sB := hB.size
 refine calls_fs 14 [(0, tv x), (1, .int .i64 d)] Try.func94 rfl rfl rfl rfl rfl fun a F => ?_
 rcases (show (x.k = 1 ∧ x.n = d) ∨ (x.k = 1 ∧ x.n ≠ d) ∨ x.k ≠ 1 by omega) with hk | hk | hk
 ·
  skip
  refine wp_rs fun _ K2 => ?_
  refine s_box ([.int .i64 x.k, .int .i64 x.n, .string x.s, .int .i64 x.l.1, .int .i64 x.l.2.1, x.l.2.2, x.ls, x.ts]) F (by decide) rfl rfl fun w2 b2 a eb2 m2 B3 zb2 F => ?_
  have sB3 := B3.size
  have hB := bt hB B3
  refine F.sg rfl fun a F => ?_
  refine s_end (K2 _ _ ?_)
  refine wp_rs fun _ K3 => F.vl (x_fa0 fa27_0 rfl) fun a F => F.ld m2 flat3 rfl rfl fun a F => F.vl (eqlT (by omega) rfl rfl) fun a F => F.mv rfl fun a F => s_grd 8 F rfl rfl rfl <| F.vl (x_fa0 fa27_1 rfl) fun a F => s_grd 8 F rfl rfl rfl <| F.ld m2 flat3 rfl rfl fun a F => s_grd 8 F rfl rfl rfl <| F.mv rfl fun a F => s_grd 8 F rfl rfl rfl <| F.vl (eqlT (by omega) rfl rfl) fun a F => F.vl (x_pick (b := true) rfl rfl) fun a F => F.sg rfl fun a F => ?_
  refine s_end (K3 _ _ ?_)
  refine wp_ret (res_slot F rfl rfl ⟨by rw [hV]; simp [hk], hB⟩)
 ·
  skip
  refine wp_rs fun _ K4 => ?_
  refine s_box ([.int .i64 x.k, .int .i64 x.n, .string x.s, .int .i64 x.l.1, .int .i64 x.l.2.1, x.l.2.2, x.ls, x.ts]) F (by decide) rfl rfl fun w4 b2 a eb2 m2 B5 zb2 F => ?_
  have sB5 := B5.size
  have hB := bt hB B5
  refine F.sg rfl fun a F => ?_
  refine s_end (K4 _ _ ?_)
  refine wp_rs fun _ K5 => F.vl (x_fa0 fa27_0 rfl) fun a F => F.ld m2 flat3 rfl rfl fun a F => F.vl (eqlT (by omega) rfl rfl) fun a F => F.mv rfl fun a F => s_grd 8 F rfl rfl rfl <| F.vl (x_fa0 fa27_1 rfl) fun a F => s_grd 8 F rfl rfl rfl <| F.ld m2 flat3 rfl rfl fun a F => s_grd 8 F rfl rfl rfl <| F.mv rfl fun a F => s_grd 8 F rfl rfl rfl <| F.vl (eqlF (by omega) rfl rfl) fun a F => F.vl (x_pick (b := true) rfl rfl) fun a F => F.sg rfl fun a F => ?_
  refine s_end (K5 _ _ ?_)
  refine wp_ret (res_slot F rfl rfl ⟨by rw [hV]; simp [hk], hB⟩)
 ·
  skip
  refine wp_rs fun _ K6 => ?_
  refine s_box ([.int .i64 x.k, .int .i64 x.n, .string x.s, .int .i64 x.l.1, .int .i64 x.l.2.1, x.l.2.2, x.ls, x.ts]) F (by decide) rfl rfl fun w6 b2 a eb2 m2 B7 zb2 F => ?_
  have sB7 := B7.size
  have hB := bt hB B7
  refine F.sg rfl fun a F => ?_
  refine s_end (K6 _ _ ?_)
  refine wp_rs fun _ K7 => F.vl (x_fa0 fa27_0 rfl) fun a F => F.ld m2 flat3 rfl rfl fun a F => F.vl (eqlF (by omega) rfl rfl) fun a F => F.mv rfl fun a F => s_grdn 8 F rfl rfl (by decide) fun a F => s_grdn 8 F rfl rfl (by decide) fun a F => s_grdn 8 F rfl rfl (by decide) fun a F => s_grdn 8 F rfl rfl (by decide) fun a F => F.vl (x_pick (b := false) rfl rfl) fun a F => F.sg rfl fun a F => ?_
  refine s_end (K7 _ _ ?_)
  refine wp_ret (res_slot F rfl rfl ⟨by rw [hV]; simp [hk], hB⟩)
theorem plus78 (n b : Int) (w0 : World) (hn : 0 ≤ n) (hn2 : n < 9223372036854775808) (hb : -9223372036854775808 ≤ b) : Calls Try.prog 127 #[.int .i64 n, .int .i64 b] w0 fun e w' => e = .returned (.int .i64 (min (n + b) 9223372036854775807)) ∧ w' = w0 := by
 refine calls_fs 12 [(0, .int .i64 n), (1, .int .i64 b)] Try.func127 rfl rfl rfl rfl rfl fun a F => ?_
 rcases (show 9223372036854775807 - n < b ∨ ¬ 9223372036854775807 - n < b by omega) with hk | hk
 ·
  skip
  refine wp_rs fun _ K2 => F.sg rfl fun a F => ?_
  refine s_end (K2 _ _ ?_)
  refine wp_seq_k fun _ K3 => ?_
  refine wp_rs fun _ K4 => F.mv rfl fun a F => F.mv rfl fun a F => F.vl (x_sub (by omega) (by omega) rfl rfl) fun a F => F.vl (gtrT (by omega) rfl rfl) fun a F => ?_
  refine s_end (K4 _ _ ?_)
  refine wp_if F rfl ?_
  refine wp_rs fun _ K5 => F.sg rfl fun a F => ?_
  refine s_end (K5 _ _ ?_)
  refine wp_ret (then_ret (res_slot F rfl rfl ⟨by rw [show min (n + b) 9223372036854775807 = 9223372036854775807 by omega], rfl⟩))
 ·
  skip
  refine wp_rs fun _ K6 => F.sg rfl fun a F => ?_
  refine s_end (K6 _ _ ?_)
  refine wp_seq_k fun _ K7 => ?_
  refine wp_rs fun _ K8 => F.mv rfl fun a F => F.mv rfl fun a F => F.vl (x_sub (by omega) (by omega) rfl rfl) fun a F => F.vl (gtrF (by omega) rfl rfl) fun a F => ?_
  refine s_end (K8 _ _ ?_)
  refine wp_if F rfl ?_
  refine wp_skip (K7 _ _ ?_)
  refine wp_rs fun _ K9 => F.mv rfl fun a F => F.mv rfl fun a F => F.vl (x_add (by omega) (by omega) rfl rfl) fun a F => F.sg rfl fun a F => ?_
  refine s_end (K9 _ _ ?_)
  refine wp_ret (res_slot F rfl rfl ⟨by rw [show min (n + b) 9223372036854775807 = n + b by omega], rfl⟩)
theorem leaf70 (c : CT) (x : C8) (A : Nat → Prop) (wa w0 : World) (hx : RC wa A c x) : Calls Try.prog 54 #[tv x] w0 fun e w' => e = .returned (.bool (decide (arT c.kd < 0 ∨ (c.len : Int) < arT c.kd))) ∧ Below w0.heap.size w0 w' := by
 obtain ⟨av, nv, cv, hts, hle, hlen, hcap, hkid⟩ := hx.kids
 obtain ⟨xk, xn, xs, xl, xls, xts⟩ := x
 simp only at hts
 subst hts
 have hkd : xk = c.kd := hx.kd
 have hone := hx.one
 have hB := Below.refl w0.heap.size w0
 have sB := hB.size
 refine calls_fs 16 [(0, tv ⟨xk, xn, xs, xl, xls, .slice av nv cv⟩)] Try.func54 rfl rfl rfl rfl rfl fun a F => ?_
 rcases (show arT xk < 0 ∨ (0 ≤ arT xk ∧ (nv : Int) < arT xk) ∨ (0 ≤ arT xk ∧ ¬ (nv : Int) < arT xk) by omega) with hk | hk | hk
 ·
  skip
  refine wp_rs fun _ K2 => ?_
  refine s_box ([.int .i64 xk, .int .i64 xn, .string xs, .int .i64 xl.1, .int .i64 xl.2.1, xl.2.2, xls, .slice av nv cv]) F (by decide) rfl rfl fun w2 b1 a eb1 m1 B3 zb1 F => ?_
  have sB3 := B3.size
  have hB := bt hB B3
  refine F.sg rfl fun a F => ?_
  refine s_end (K2 _ _ ?_)
  refine dk2_seq (w2.heap.size) (w2.heap.size) (ops := regOps Try.f54 1) (N := 14) (by kernel_rfl) wide_orders (by kernel_rfl) fun w4 hw4 B5 hS K3 K3 => ?_
  have zw4 : w4.heap.size = w2.heap.size := by rw [hw4]
  have sB5 := B5.size
  have hB := bt hB B5
  have m1 := m1.old B5
  have m1_d := m1
  have hB_d := hB
  refine F.dv 0 3 (.fieldAddr 27 (.tmp 1) 0) hS (fun W hW => x_fa0 fa27_0 rfl) fun a F => F.dv 1 4 (.load 3 (.tmp 3)) hS (fun W hW => x_load rfl (m_load flat3 ((m1_d.k2 hW (by omega)).cell (j := 0) rfl))) fun a F => ?_
  refine d1 2 (some 5) (.call (.mk (.value (.func 82)) #[(.tmp 4)] #[3])) fun ty pos af => ?_
  refine s_callS [_] F E82 rfl (by decide) (kids54 xk w4) fun a F => ?_
  refine s_end ⟨hS, ?_⟩
  refine F.dv 3 6 (.binOp .lss 3 (.tmp 5) (.const (.int .i64 0)) 3) hS (fun W hW => lssT (by omega) rfl rfl) fun a F => F.dv 4 7 (.move (.tmp 6)) hS (fun W hW => x_move rfl) fun a F => d_skip 5 8 7 (j := 4) (want := false) (op := (.fieldAddr 27 (.tmp 1) 5)) F hS (by kernel_rfl) (by kernel_rfl) rfl (by kernel_rfl) (by decide) fun a F => d_skip 6 9 7 (j := 4) (want := false) (op := (.load 25 (.tmp 8))) F hS (by kernel_rfl) (by kernel_rfl) rfl (by kernel_rfl) (by decide) fun a F => d_skip 7 10 7 (j := 4) (want := false) (op := (.call (.mk (.builtin .len) #[(.tmp 9)] #[25]))) F hS (by kernel_rfl) (by kernel_rfl) rfl (by kernel_rfl) (by decide) fun a F => d_skip 8 11 7 (j := 4) (want := false) (op := (.fieldAddr 27 (.tmp 1) 0)) F hS (by kernel_rfl) (by kernel_rfl) rfl (by kernel_rfl) (by decide) fun a F => d_skip 9 12 7 (j := 4) (want := false) (op := (.load 3 (.tmp 11))) F hS (by kernel_rfl) (by kernel_rfl) rfl (by kernel_rfl) (by decide) fun a F => d_skip 10 13 7 (j := 4) (want := false) (op := (.call (.mk (.value (.func 82)) #[(.tmp 12)] #[3]))) F hS (by kernel_rfl) (by kernel_rfl) rfl (by kernel_rfl) (by decide) fun a F => d_skip 11 14 7 (j := 4) (want := false) (op := (.binOp .lss 3 (.tmp 10) (.tmp 13) 3)) F hS (by kernel_rfl) (by kernel_rfl) rfl (by kernel_rfl) (by decide) fun a F => F.dv 12 15 (.pick (.tmp 7) (.const (.bool true)) (.tmp 14)) hS (fun W hW => x_pick (b := true) rfl rfl) fun a F => F.dv 13 2 (.assign (.tmp 15)) hS (fun W hW => x_assign rfl) fun a F => ?_
  refine d_end (by kernel_rfl) (K3 _ _ ?_)
  refine wp_ret (res_slot F rfl rfl ⟨by rw [← hkd, ← hlen, decide_eq_true (by omega)], hB⟩)
 ·
  skip
  refine wp_rs fun _ K4 => ?_
  refine s_box ([.int .i64 xk, .int .i64 xn, .string xs, .int .i64 xl.1, .int .i64 xl.2.1, xl.2.2, xls, .slice av nv cv]) F (by decide) rfl rfl fun w6 b1 a eb1 m1 B7 zb1 F => ?_
  have sB7 := B7.size
  have hB := bt hB B7
  refine F.sg rfl fun a F => ?_
  refine s_end (K4 _ _ ?_)
  refine dk2_seq (w6.heap.size) (w6.heap.size) (ops := regOps Try.f54 1) (N := 14) (by kernel_rfl) wide_orders (by kernel_rfl) fun w8 hw8 B9 hS K5 K5 => ?_
  have zw8 : w8.heap.size = w6.heap.size := by rw [hw8]
  have sB9 := B9.size
  have hB := bt hB B9
  have m1 := m1.old B9
  have m1_d := m1
  have hB_d := hB
  refine F.dv 0 3 (.fieldAddr 27 (.tmp 1) 0) hS (fun W hW => x_fa0 fa27_0 rfl) fun a F => F.dv 1 4 (.load 3 (.tmp 3)) hS (fun W hW => x_load rfl (m_load flat3 ((m1_d.k2 hW (by omega)).cell (j := 0) rfl))) fun a F => ?_
  refine d1 2 (some 5) (.call (.mk (.value (.func 82)) #[(.tmp 4)] #[3])) fun ty pos af => ?_
  refine s_callS [_] F E82 rfl (by decide) (kids54 xk w8) fun a F => ?_
  refine s_end ⟨hS, ?_⟩
  refine F.dv 3 6 (.binOp .lss 3 (.tmp 5) (.const (.int .i64 0)) 3) hS (fun W hW => lssF (by omega) rfl rfl) fun a F => F.dv 4 7 (.move (.tmp 6)) hS (fun W hW => x_move rfl) fun a F => F.dg 5 8 7 4 false (.fieldAddr 27 (.tmp 1) 5) hS rfl (fun W hW => x_fa0 fa27_5 rfl) fun a F => F.dg 6 9 7 4 false (.load 25 (.tmp 8)) hS rfl (fun W hW => x_load rfl (m_load flat25 ((m1_d.k2 hW (by omega)).cell (j := 7) rfl))) fun a F => F.dg 7 10 7 4 false (.call (.mk (.builtin .len) #[(.tmp 9)] #[25])) hS rfl (fun W hW => x_len Try.underlying25 rfl) fun a F => F.dg 8 11 7 4 false (.fieldAddr 27 (.tmp 1) 0) hS rfl (fun W hW => x_fa0 fa27_0 rfl) fun a F => F.dg 9 12 7 4 false (.load 3 (.tmp 11)) hS rfl (fun W hW => x_load rfl (m_load flat3 ((m1_d.k2 hW (by omega)).cell (j := 0) rfl))) fun a F => ?_
  refine d_oneg 10 7 (some 13) (.call (.mk (.value (.func 82)) #[(.tmp 12)] #[3])) (j := 4) (want := false) F (by kernel_rfl) (by kernel_rfl) (by kernel_rfl) rfl fun ty pos af => ?_
  refine s_callS [_] F E82 rfl (by decide) (kids54 xk w8) fun a F => ?_
  refine s_end ⟨hS, ?_⟩
  refine F.dg 11 14 7 4 false (.binOp .lss 3 (.tmp 10) (.tmp 13) 3) hS rfl (fun W hW => lssT (by omega) rfl rfl) fun a F => F.dv 12 15 (.pick (.tmp 7) (.const (.bool true)) (.tmp 14)) hS (fun W hW => x_pick (b := false) rfl rfl) fun a F => F.dv 13 2 (.assign (.tmp 15)) hS (fun W hW => x_assign rfl) fun a F => ?_
  refine d_end (by kernel_rfl) (K5 _ _ ?_)
  refine wp_ret (res_slot F rfl rfl ⟨by rw [← hkd, ← hlen, decide_eq_true (by omega)], hB⟩)
 ·
  skip
  refine wp_rs fun _ K6 => ?_
  refine s_box ([.int .i64 xk, .int .i64 xn, .string xs, .int .i64 xl.1, .int .i64 xl.2.1, xl.2.2, xls, .slice av nv cv]) F (by decide) rfl rfl fun w10 b1 a eb1 m1 B11 zb1 F => ?_
  have sB11 := B11.size
  have hB := bt hB B11
  refine F.sg rfl fun a F => ?_
  refine s_end (K6 _ _ ?_)
  refine dk2_seq (w10.heap.size) (w10.heap.size) (ops := regOps Try.f54 1) (N := 14) (by kernel_rfl) wide_orders (by kernel_rfl) fun w12 hw12 B13 hS K7 K7 => ?_
  have zw12 : w12.heap.size = w10.heap.size := by rw [hw12]
  have sB13 := B13.size
  have hB := bt hB B13
  have m1 := m1.old B13
  have m1_d := m1
  have hB_d := hB
  refine F.dv 0 3 (.fieldAddr 27 (.tmp 1) 0) hS (fun W hW => x_fa0 fa27_0 rfl) fun a F => F.dv 1 4 (.load 3 (.tmp 3)) hS (fun W hW => x_load rfl (m_load flat3 ((m1_d.k2 hW (by omega)).cell (j := 0) rfl))) fun a F => ?_
  refine d1 2 (some 5) (.call (.mk (.value (.func 82)) #[(.tmp 4)] #[3])) fun ty pos af => ?_
  refine s_callS [_] F E82 rfl (by decide) (kids54 xk w12) fun a F => ?_
  refine s_end ⟨hS, ?_⟩
  refine F.dv 3 6 (.binOp .lss 3 (.tmp 5) (.const (.int .i64 0)) 3) hS (fun W hW => lssF (by omega) rfl rfl) fun a F => F.dv 4 7 (.move (.tmp 6)) hS (fun W hW => x_move rfl) fun a F => F.dg 5 8 7 4 false (.fieldAddr 27 (.tmp 1) 5) hS rfl (fun W hW => x_fa0 fa27_5 rfl) fun a F => F.dg 6 9 7 4 false (.load 25 (.tmp 8)) hS rfl (fun W hW => x_load rfl (m_load flat25 ((m1_d.k2 hW (by omega)).cell (j := 7) rfl))) fun a F => F.dg 7 10 7 4 false (.call (.mk (.builtin .len) #[(.tmp 9)] #[25])) hS rfl (fun W hW => x_len Try.underlying25 rfl) fun a F => F.dg 8 11 7 4 false (.fieldAddr 27 (.tmp 1) 0) hS rfl (fun W hW => x_fa0 fa27_0 rfl) fun a F => F.dg 9 12 7 4 false (.load 3 (.tmp 11)) hS rfl (fun W hW => x_load rfl (m_load flat3 ((m1_d.k2 hW (by omega)).cell (j := 0) rfl))) fun a F => ?_
  refine d_oneg 10 7 (some 13) (.call (.mk (.value (.func 82)) #[(.tmp 12)] #[3])) (j := 4) (want := false) F (by kernel_rfl) (by kernel_rfl) (by kernel_rfl) rfl fun ty pos af => ?_
  refine s_callS [_] F E82 rfl (by decide) (kids54 xk w12) fun a F => ?_
  refine s_end ⟨hS, ?_⟩
  refine F.dg 11 14 7 4 false (.binOp .lss 3 (.tmp 10) (.tmp 13) 3) hS rfl (fun W hW => lssF (by omega) rfl rfl) fun a F => F.dv 12 15 (.pick (.tmp 7) (.const (.bool true)) (.tmp 14)) hS (fun W hW => x_pick (b := false) rfl rfl) fun a F => F.dv 13 2 (.assign (.tmp 15)) hS (fun W hW => x_assign rfl) fun a F => ?_
  refine d_end (by kernel_rfl) (K7 _ _ ?_)
  refine wp_ret (res_slot F rfl rfl ⟨by rw [← hkd, ← hlen, decide_eq_false (by omega)], hB⟩)
theorem var16 (n : Int) (w0 : World) (hn : in64 n) : Calls Try.prog 10 #[.int .i64 n] w0 fun e w' => ∃ v, e = .returned v ∧ (∃ y, v = tv y ∧ RC w' (fun _ => False) (.var n 0) y) ∧ Below w0.heap.size w0 w' := by
 have hB := Below.refl w0.heap.size w0
 have sB := hB.size
 refine calls_fs 5 [(0, .int .i64 n)] Try.func10 rfl rfl rfl rfl rfl fun a F => ?_
 refine wp_rs fun _ K1 => ?_
 refine s_alloc F (by decide) zero27 fun w2 b2 a eb2 m2 B3 zb2 F => ?_
 have sB3 := B3.size
 have hB := bt hB B3
 refine s_end (K1 _ _ ?_)
 refine wp_rs fun _ K2 => F.mv rfl fun a F => F.vl (x_build (vs := [(0, _), (1, _)]) rfl (b27_01 _ _ _)) fun a F => ?_
 refine s_putW F rfl rfl (size_wide wide27) m2 rfl (one_tc0 _ _ _ _ rfl) fun w6 m2 o7 => ?_
 have so7 := o7.size
 have hB := hB.trans (o7.below (by omega))
 refine s_end (K2 _ _ ?_)
 refine wp_ret (res_cell F rfl rfl m2 wide27 ⟨_, rfl, ⟨⟨1, n, emptyB, (0, 0, nilS), nilS, nilS⟩, rfl, rfl, rfl, hn, ⟨[], Rn.nil _ _ _⟩, ok0 _ _ _ _ _ _⟩, hB⟩)
theorem newRoom56 (w0 : World) : Calls Try.prog 40 #[] w0 fun e w' => ∃ v, e = .returned v ∧ (∃ br, v = .pointer (some ⟨br, 0, none⟩) ∧ w0.heap.size ≤ br ∧ Blk w' br 102 [.int .i64 2147483647]) ∧ Below w0.heap.size w0 w' := by
 have hB := Below.refl w0.heap.size w0
 have sB := hB.size
 refine calls_fs 3 [] Try.func40 rfl rfl rfl rfl rfl fun a F => ?_
 refine wp_rs fun _ K1 => F.sg rfl fun a F => ?_
 refine s_end (K1 _ _ ?_)
 refine wp_rs fun _ K2 => F.vl (x_build (vs := [(0, _)]) rfl (b110_0 _ _)) fun a F => ?_
 refine s_box ([.int .i64 2147483647]) F (by decide) rfl rfl fun w2 b2 a eb2 m2 B3 zb2 F => ?_
 have sB3 := B3.size
 have hB := bt hB B3
 refine F.sg rfl fun a F => ?_
 refine s_end (K2 _ _ ?_)
 refine wp_ret (res_slot F rfl rfl ⟨_, rfl, ⟨b2, rfl, by omega, m2⟩, hB⟩)
end Go.Proofs.Ytmkjhdiepkpdoaa

namespace Go.Proofs.Ytmkjhdiepkpdoaa
set_option maxRecDepth 100000
set_option maxHeartbeats 1600000
open Go.RowKit Go.Shelf
set_option linter.unusedVariables false
set_option linter.unusedSimpArgs false
/-- A term's nodes, with their depths. -/
def CT.nodes : CT → Int → List (Int × CT)
 | .two k a b m, d => (d, .two k a b m) :: (a.nodes (d + 1) ++ b.nodes (d + 1))
 | .lt a b c m, d => (d, .lt a b c m) :: (a.nodes (d + 1) ++ (b.nodes (d + 1) ++ c.nodes (d + 1)))
 | c, d => [(d, c)]
theorem CT.nodes_eq (c : CT) (d : Int) : c.nodes d = (d, c) :: c.kids.flatMap (·.nodes (d + 1)) := by
 cases c <;> simp [CT.nodes, CT.kids]
theorem take_at {α β : Type} {l : List α} {i : Nat} {x : α} (h : l[i]? = some x) (f : α → List β) : (l.take (i + 1)).flatMap f = (l.take i).flatMap f ++ f x := by
 rw [List.take_add_one, h, List.flatMap_append]; simp
theorem split_at {α : Type} {l : List α} {i : Nat} {x : α} (h : l[i]? = some x) : l = l.take i ++ x :: l.drop (i + 1) := by
 have hi : i < l.length := (List.getElem?_eq_some_iff.1 h).1
 have : l[i] = x := (List.getElem?_eq_some_iff.1 h).2
 rw [← this, List.getElem_cons_drop, List.take_append_drop]
theorem CT.nodes_split {c k : CT} {i : Nat} (d : Int) (h : c.kids[i]? = some k) : c.nodes d = ((d, c) :: (c.kids.take i).flatMap (·.nodes (d + 1))) ++ (k.nodes (d + 1) ++ (c.kids.drop (i + 1)).flatMap (·.nodes (d + 1))) := by
 rw [c.nodes_eq d]
 conv => lhs; rw [split_at h]
 simp
/-- What is handed on of a node. -/
def encN (w0 : World) (e : Int × CT) (vs : List Value) : Prop := ∃ y, vs = [.int .i64 e.1, tv y] ∧ RC w0 (fun k => k < w0.heap.size) e.2 y
theorem walk108 (w0 : World) : ∀ (N : Nat) (c : CT) (x : C8) (d : Int), c.size < N → RC w0 (fun k => k < w0.heap.size) c x → 0 ≤ d → d ≤ 4611686018427387905 →
    ∀ (hi L : Nat) (J Jx : List (Int × CT) → World → Prop), w0.heap.size ≤ hi → (∀ p W W', J p W → Below hi W W' → J p W') → (∀ p W W', Jx p W → Below hi W W' → Jx p W') → (∀ p e W, J (p ++ [e]) W → e.1 ≤ 4611686018427387904) →
    (∀ p e rest W vs, c.nodes d = p ++ e :: rest → encN w0 e vs → J p W → hi ≤ W.heap.size → Below w0.heap.size w0 W → YieldAt Fence.wide 0 Try.prog L vs.toArray W fun en W' => Mid w0.heap.size hi W W' ∧ ((en = .returned (.bool true) ∧ J (p ++ [e]) W') ∨ (en = .returned (.bool false) ∧ Jx (p ++ [e]) W'))) →
    ∀ W, J [] W → hi ≤ W.heap.size → Below w0.heap.size w0 W → Calls Try.prog 125 #[tv x, .int .i64 d, .func (.yield L) #[] #[]] W fun en W' => ∃ b, en = .returned (.bool b) ∧ Mid w0.heap.size hi W W' ∧ ((b = true ∧ J (c.nodes d) W') ∨ (b = false ∧ ∃ p, p <+: c.nodes d ∧ Jx p W')) := by
  intro N
  induction N with
  | zero => intro c x d h; omega
  | succ N ih =>
  intro c x d hN hx hd0 hd1 hi L J Jx hlo hJs hJxs hJb hY W hJ hWs hB
  obtain ⟨xk, xn, xs, xl, xls, xts⟩ := x
  have h3 := c.kids_le
  have hM := Mid.refl w0.heap.size hi W
  have sB := hB.size
  refine calls_fs 28 [(0, tv ⟨xk, xn, xs, xl, xls, xts⟩), (1, .int .i64 d), (2, .func (.yield L) #[] #[])] Try.func125 rfl rfl rfl rfl rfl fun a F => ?_
  refine wp_rs fun _ K1 => ?_
  refine s_box ([.int .i64 xk, .int .i64 xn, .string xs, .int .i64 xl.1, .int .i64 xl.2.1, xl.2.2, xls, xts]) F (by decide) rfl rfl fun w2 b3 a eb3 m3 B3 zb3 F => ?_
  have sB3 := B3.size
  have hB := bt hB B3
  have hM := hM.old B3
  have hJ := hJs _ _ _ hJ (B3.mono (by omega))
  refine F.sg rfl fun a F => ?_
  refine s_end (K1 _ _ ?_)
  refine wp_seq_k fun _ K2 => ?_
  refine wp_rsI fun _ K3 => ?_
  refine i_val F (x_move rfl) rfl (by decide) fun a F => ?_
  refine i_val F (x_move rfl) rfl (by decide) fun a F => ?_
  refine i_val F (x_ldW wide27 m3 rfl rfl) rfl (by decide) fun a F => ?_
  refine i_yield (R := fun v W' => ∃ b, v = .bool b ∧ Mid w0.heap.size hi w2 W' ∧ ((b = true ∧ J [(d, c)] W') ∨ (b = false ∧ Jx [(d, c)] W'))) F [_, _] rfl rfl (by decide) ?_ ?_
  · refine YieldAt.mono (hY [] (d, c) _ w2 _ (by rw [c.nodes_eq]; rfl) ⟨⟨xk, xn, xs, xl, xls, xts⟩, rfl, hx⟩ hJ (by omega) hB) ?_
    rintro en W' ⟨h1, ⟨rfl, h2⟩ | ⟨rfl, h2⟩⟩
    · exact ⟨_, rfl, true, rfl, h1, .inl ⟨rfl, h2⟩⟩
    · exact ⟨_, rfl, false, rfl, h1, .inr ⟨rfl, h2⟩⟩
  rintro _ w4 a ⟨b12, rfl, hm12, h12⟩ F
  have shm12 := hm12.size
  have hB := hB.trans (hm12.below (by omega))
  have hM := hM.trans hm12
  have m3 := m3.mid hm12 (.inr (by omega))
  refine i_val F (x_not rfl) rfl (by decide) fun a F => ?_
  refine i_end (K3 _ _ ?_)
  refine wp_ifb F rfl (fun hc13 => ?_) (fun hc13 => ?_)
  · obtain ⟨rfl, h12x⟩ : b12 = false ∧ Jx [(d, c)] _ := by rcases h12 with ⟨rfl, _⟩ | h; (· cases hc13); exact h
    refine wp_rs fun _ K4 => F.sg rfl fun a F => ?_
    refine s_end (K4 _ _ ?_)
    refine wp_ret (then_ret (res_slot F rfl rfl ⟨false, rfl, hM, .inr ⟨rfl, [(d, c)], by rw [c.nodes_eq]; exact ⟨_, rfl⟩, h12x⟩⟩))
  · obtain ⟨rfl, hJ⟩ : b12 = true ∧ J [(d, c)] _ := by rcases h12 with h | ⟨rfl, _⟩; (· exact h); cases hc13
    have hdd := hJb [] (d, c) _ hJ
    simp only at hdd
    refine wp_skip (K2 _ _ ?_)
    refine wp_seq_k fun _ K5 => ?_
    refine wp_rs fun _ K6 => F.vl (x_ldW wide27 m3 rfl rfl) fun a F => ?_
    refine s_callR (R := fun v w' => RK w0 (fun k => k < w0.heap.size) v c.kids) [_] F E84 rfl (by decide) (kidsOf101 c ⟨xk, xn, xs, xl, xls, xts⟩ _ w0 w4 hx) ?_
    rintro v15 w5 a hv15 B6 F
    have sB6 := B6.size
    have hB := bt hB B6
    have hM := hM.old B6
    have hJ := hJs _ _ _ hJ (B6.mono (by omega))
    obtain ⟨a15, c15, hve, _⟩ := hv15.form
    subst hve
    refine F.vl (x_len Try.underlying25 rfl) fun a F => F.mv rfl fun a F => ?_
    refine s_end (K6 _ _ ?_)
    refine wp_block ?_
    refine wp_up c.kids.length (fun i a w => J ((d, c) :: (c.kids.take i).flatMap (·.nodes (d + 1))) w ∧ Mid w0.heap.size hi W w ∧ Below w0.heap.size w0 w ∧ Fs 28 a [(17, .int .i64 (i : Int)), (16, .int .i64 (c.kids.length : Int)), (15, .slice a15 c.kids.length c15), (1, .int .i64 d), (2, .func (.yield L) #[] #[])]) ⟨by simpa using hJ, hM, hB, F.sub _ rfl⟩ ?_
    repeat clear F
    clear hJ hM hB
    rintro i a w hi2 ⟨hJ, hM, hB, F⟩ K' hK'
    have sB := hB.size
    have sM := hM.size
    refine wp_rs fun _ K7 => F.vl (x_lss (b := decide (i < c.kids.length)) (decide_eq_decide.2 (by omega)) rfl rfl) fun a F => ?_
    refine s_end (K7 _ _ ?_)
    refine wp_seq_k fun _ K8 => ?_
    refine wp_iff F rfl (fun hc18 => ?_) (fun hc18 => ?_)
    · obtain ⟨b9, off9, c9, y, kd, hve, hyk, hry, hAb, hbl, hrow⟩ := hv15.row (i := i) (by omega)
      cases hve
      have hks := CT.kid_size hyk
      refine wp_skip (K8 _ _ ?_)
      refine wp_seq_k fun _ K9 => ?_
      refine wp_block ?_
      refine wp_rs fun _ K10 => F.vl (x_ixa rfl rfl (m_ixsK i Try.underlying25 el25.size rfl (by omega))) fun a F => F.vl (x_ldA wide27 (hrow _ (hB.block _ hbl)) rfl rfl) fun a F => ?_
      refine s_alloc F (by decide) zero27 fun w7 b8 a eb8 m8 B8 zb8 F => ?_
      have sB8 := B8.size
      have hB := bt hB B8
      have hM := hM.old B8
      have hJ := hJs _ _ _ hJ (B8.mono (by omega))
      refine s_putW F rfl rfl (size_wide wide27) m8 rfl hry.one fun w11 m8 o12 => ?_
      have so12 := o12.size
      have hB := hB.trans (o12.below (by omega))
      have hM := hM.only o12 (by omega)
      have hJ := hJs _ _ _ hJ (o12.below (by omega))
      refine s_end (K10 _ _ ?_)
      refine wp_rs fun _ K11 => F.vl (x_ldW wide27 m8 rfl rfl) fun a F => F.mv rfl fun a F => F.vl (x_add (by omega) (by omega) rfl rfl) fun a F => F.mv rfl fun a F => ?_
      refine s_call (R := fun v W' => ∃ b, v = .bool b ∧ Mid w0.heap.size hi w11 W' ∧ ((b = true ∧ J ((d, c) :: (c.kids.take (i + 1)).flatMap (·.nodes (d + 1))) W') ∨ (b = false ∧ ∃ p, p <+: c.nodes d ∧ Jx p W'))) F [_, _, _] E125 rfl (by decide) ?_ ?_
      · refine Calls.mono (ih kd y (d + 1) (by omega) hry (by omega) (by omega) hi L (fun p W => J (((d, c) :: (c.kids.take i).flatMap (·.nodes (d + 1))) ++ p) W) (fun p W => Jx (((d, c) :: (c.kids.take i).flatMap (·.nodes (d + 1))) ++ p) W) hlo (fun p => hJs _) (fun p => hJxs _) (fun p e W h => hJb _ e W (by rw [List.append_assoc]; exact h)) ?_ w11 (by rw [List.append_nil]; exact hJ) (by omega) hB) ?_
        · intro p e rest W vs he hv hj h1 h2
          have := hY (((d, c) :: (c.kids.take i).flatMap (·.nodes (d + 1))) ++ p) e (rest ++ (c.kids.drop (i + 1)).flatMap (·.nodes (d + 1))) W vs (by rw [CT.nodes_split d hyk, he]; simp) hv hj h1 h2
          rw [List.append_assoc] at this
          exact this
        · rintro en W' ⟨b, rfl, h1, ⟨rfl, h2⟩ | ⟨rfl, p, h2, h4⟩⟩
          · exact ⟨_, rfl, true, rfl, h1, .inl ⟨rfl, by rw [take_at hyk]; exact h2⟩⟩
          · exact ⟨_, rfl, false, rfl, h1, .inr ⟨rfl, _, by rw [CT.nodes_split d hyk]; exact List.prefix_append_right_inj _ |>.2 (h2.trans (List.prefix_append _ _)), h4⟩⟩
      rintro _ w13 a ⟨b25, rfl, hm25, h25⟩ F
      have shm25 := hm25.size
      have hB := hB.trans (hm25.below (by omega))
      have hM := hM.trans hm25
      refine F.vl (x_not rfl) fun a F => ?_
      refine s_end (K11 _ _ ?_)
      refine wp_ifb F rfl (fun hc26 => ?_) (fun hc26 => ?_)
      · obtain ⟨rfl, p25, hp25, h25x⟩ : b25 = false ∧ ∃ p, p <+: c.nodes d ∧ Jx p _ := by rcases h25 with ⟨rfl, _⟩ | h; (· cases hc26); exact h
        refine wp_rs fun _ K12 => F.sg rfl fun a F => ?_
        refine s_end (K12 _ _ ?_)
        refine wp_ret (inb_ret (then_ret (then_ret (inb_ret (then_ret (res_slot F rfl rfl ⟨false, rfl, hM, .inr ⟨rfl, p25, hp25, h25x⟩⟩))))))
      · obtain ⟨rfl, hJ⟩ : b25 = true ∧ J ((d, c) :: (c.kids.take (i + 1)).flatMap (·.nodes (d + 1))) _ := by rcases h25 with h | ⟨rfl, _⟩; (· exact h); cases hc26
        refine wp_skip (K9 _ _ ?_)
        refine wp_region_lit ?_
        refine F.vl (x_add (by omega) (by omega) rfl rfl) fun a F => F.mv rfl fun a F => ?_
        refine s_end (hK' _ _ (by omega) ⟨hJ, hM, hB, F.sub _ rfl⟩)
    · obtain rfl : i = c.kids.length := by omega
      rw [List.take_length] at hJ
      refine wp_exit (K5 _ _ ?_)
      refine wp_rs fun _ K13 => F.sg rfl fun a F => ?_
      refine s_end (K13 _ _ ?_)
      refine wp_ret (res_slot F rfl rfl ⟨true, rfl, hM, .inl ⟨rfl, by rw [c.nodes_eq]; exact hJ⟩⟩)
theorem nodes107 (w0 : World) (c : CT) (x : C8) (b1 hi : Nat) (hx : RC w0 (fun k => k < w0.heap.size) c x) (h1 : w0.heap.size ≤ b1) (h2 : b1 < hi) (w1 : World) (m1 : Blk w1 b1 27 (tc x)) (h3 : w0.heap.size ≤ hi) (J Jx : List (Int × CT) → World → Prop) (L : Nat)
    (hJs : ∀ p W W', J p W → Below hi W W' → J p W') (hJxs : ∀ p W W', Jx p W → Below hi W W' → Jx p W') (hJb : ∀ p e W, J (p ++ [e]) W → e.1 ≤ 4611686018427387904)
    (hY : ∀ p e rest W vs, c.nodes 1 = p ++ e :: rest → encN w0 e vs → J p W → hi ≤ W.heap.size → Below w0.heap.size w0 W → YieldAt Fence.wide 0 Try.prog L vs.toArray W fun en W' => Mid w0.heap.size hi W W' ∧ ((en = .returned (.bool true) ∧ J (p ++ [e]) W') ∨ (en = .returned (.bool false) ∧ Jx (p ++ [e]) W')))
    (W : World) (hJ : J [] W) (hWs : hi ≤ W.heap.size) (hB : Below w0.heap.size w0 W) (hb : Blk W b1 27 (tc x)) :
    Calls Try.prog 124 #[.func (.yield L) #[] #[], .pointer (some ⟨b1, 0, none⟩)] W fun en W' => (∃ v, en = .returned v) ∧ Mid w0.heap.size hi W W' ∧ (J (c.nodes 1) W' ∨ ∃ p, p <+: c.nodes 1 ∧ Jx p W') := by
  refine calls_fs 6 [(0, .func (.yield L) #[] #[]), (1, .pointer (some ⟨b1, 0, none⟩))] Try.func124 rfl rfl rfl rfl rfl fun a F => ?_
  refine wp_region_lit ?_
  refine F.vl (x_ldW wide27 hb rfl rfl) fun a F => F.mv rfl fun a F => ?_
  refine s_call (R := fun v W' => ∃ b, v = .bool b ∧ Mid w0.heap.size hi W W' ∧ ((b = true ∧ J (c.nodes 1) W') ∨ (b = false ∧ ∃ p, p <+: c.nodes 1 ∧ Jx p W'))) F [_, _, _] E125 rfl (by decide) ((walk108 w0 (c.size + 1) c x 1 (by omega) hx (by decide) (by decide) hi L J Jx h3 hJs hJxs hJb hY W hJ hWs hB).mono fun en W' ⟨b, h, h'⟩ => ⟨_, h, b, rfl, h'⟩) ?_
  rintro _ w9 a ⟨b9, rfl, hm9, h9⟩ F
  refine s_end ?_
  show bodyPost Try.prog Try.f124 (fun en W' => (∃ v, en = .returned v) ∧ Mid w0.heap.size hi W W' ∧ (J (c.nodes 1) W' ∨ ∃ p, p <+: c.nodes 1 ∧ Jx p W')) .normal a w9
  refine post_normal (res_none F rfl ⟨⟨_, rfl⟩, hm9, ?_⟩)
  rcases h9 with ⟨_, h⟩ | ⟨_, h⟩
  · exact .inl h
  · exact .inr h
end Go.Proofs.Ytmkjhdiepkpdoaa

namespace Go.Proofs.Ytmkjhdiepkpdoaa
set_option maxRecDepth 100000
set_option maxHeartbeats 1600000
open Go.RowKit Go.Shelf
set_option linter.unusedVariables false
set_option linter.unusedSimpArgs false
/-- The block of what is deferred. -/
def Dfr (w : World) (b : Nat) : Prop := w.heap[b]? = some (.deferred (some []))
section
variable {w w' : World} {b : Nat}
theorem Dfr.lt (h : Dfr w b) : b < w.heap.size := (Array.getElem?_eq_some_iff.1 h).1
theorem Dfr.old (h : Dfr w b) (hB : Below w.heap.size w w') : Dfr w' b := (hB.block b h.lt).trans h
theorem Dfr.only {k : Nat} (h : Dfr w b) (ho : Only k w w') (hb : b ≠ k) : Dfr w' b := (ho.block b hb).trans h
theorem Dfr.k2 {a c : Nat} (h : Dfr w b) (hK : Ktw a c w w') (hb : b ≠ a ∧ b ≠ c) : Dfr w' b := (hK.block b h.lt hb).trans h
theorem Dfr.mid {lo hi : Nat} (h : Dfr w b) (hM : Mid lo hi w w') (hb : b < lo ∨ hi ≤ b) : Dfr w' b := (hM.block b h.lt hb).trans h
end
/-- It is not too great. -/
def CT.ok (c : CT) : Prop := c.size ≤ 20000 ∧ c.dep ≤ 2000
instance (c : CT) : Decidable c.ok := inferInstanceAs (Decidable (_ ∧ _))
def CT.mN (c : CT) : Nat := if c.ok then c.size else 0
def CT.mD (c : CT) : Nat := if c.ok then c.dep else 0
def mxd (p : List (Int × CT)) : Int := p.foldl (fun d e => max d e.1) 0
theorem mxd_app (p : List (Int × CT)) (e : Int × CT) : mxd (p ++ [e]) = max (mxd p) e.1 := by simp [mxd]
mutual
theorem CT.nodes_len : ∀ (c : CT) (d : Int), (c.nodes d).length = c.size
 | .two k a b m, d => by simp [CT.nodes, CT.size, a.nodes_len, b.nodes_len]
 | .lt a b c m, d => by simp [CT.nodes, CT.size, a.nodes_len, b.nodes_len, c.nodes_len]; omega
 | .var .., d => rfl
 | .sort .., d => rfl
 | .cst .., d => rfl
 | .odd .., d => rfl
end
theorem CT.nodes_dep : ∀ (c : CT) (d : Int), (∀ e ∈ c.nodes d, d ≤ e.1 ∧ e.1 ≤ d + c.dep - 1) ∧ ∃ e ∈ c.nodes d, e.1 = d + c.dep - 1
 | .two k a b m, d => by
  obtain ⟨h1, e1, h2, h3⟩ := a.nodes_dep (d + 1)
  obtain ⟨h4, e2, h5, h6⟩ := b.nodes_dep (d + 1)
  have := a.dep_pos
  have := b.dep_pos
  refine ⟨?_, ?_⟩
  ·
   intro e he
   simp only [CT.nodes, List.mem_cons, List.mem_append] at he
   simp only [CT.dep]
   rcases he with rfl | he | he
   ·
    simp only; omega
   ·
    have := h1 e he; omega
   ·
    have := h4 e he; omega
  ·
   simp only [CT.nodes, List.mem_cons, List.mem_append, CT.dep]
   rcases Nat.le_total a.dep b.dep with h | h
   ·
    exact ⟨e2, .inr (.inr h5), by omega⟩
   ·
    exact ⟨e1, .inr (.inl h2), by omega⟩
 | .lt a b c m, d => by
  obtain ⟨h1, e1, h2, h3⟩ := a.nodes_dep (d + 1)
  obtain ⟨h4, e2, h5, h6⟩ := b.nodes_dep (d + 1)
  obtain ⟨h7, e3, h8, h9⟩ := c.nodes_dep (d + 1)
  have := a.dep_pos
  have := b.dep_pos
  have := c.dep_pos
  refine ⟨?_, ?_⟩
  ·
   intro e he
   simp only [CT.nodes, List.mem_cons, List.mem_append] at he
   simp only [CT.dep]
   rcases he with rfl | he | he | he
   ·
    simp only; omega
   ·
    have := h1 e he; omega
   ·
    have := h4 e he; omega
   ·
    have := h7 e he; omega
  ·
   simp only [CT.nodes, List.mem_cons, List.mem_append, CT.dep]
   rcases (show (b.dep ≤ a.dep ∧ c.dep ≤ a.dep) ∨ (a.dep ≤ b.dep ∧ c.dep ≤ b.dep) ∨ (a.dep ≤ c.dep ∧ b.dep ≤ c.dep) by omega) with h | h | h
   ·
    exact ⟨e1, .inr (.inl h2), by omega⟩
   ·
    exact ⟨e2, .inr (.inr (.inl h5)), by omega⟩
   ·
    exact ⟨e3, .inr (.inr (.inr h8)), by omega⟩
 | .var n m, d => ⟨by simp [CT.nodes, CT.dep], _, List.mem_singleton.2 rfl, by simp [CT.dep]⟩
 | .sort n m, d => ⟨by simp [CT.nodes, CT.dep], _, List.mem_singleton.2 rfl, by simp [CT.dep]⟩
 | .cst s n m, d => ⟨by simp [CT.nodes, CT.dep], _, List.mem_singleton.2 rfl, by simp [CT.dep]⟩
 | .odd n m, d => ⟨by simp [CT.nodes, CT.dep], _, List.mem_singleton.2 rfl, by simp [CT.dep]⟩
theorem mxd_ge : ∀ (p : List (Int × CT)), 0 ≤ mxd p ∧ ∀ e ∈ p, e.1 ≤ mxd p := by
 intro p
 suffices H : ∀ (p : List (Int × CT)) (z : Int), z ≤ p.foldl (fun d e => max d e.1) z ∧ ∀ e ∈ p, e.1 ≤ p.foldl (fun d e => max d e.1) z from H p 0
 intro p
 induction p with
 | nil => intro z; simp
 | cons u p ih =>
  intro z
  simp only [List.foldl_cons]
  obtain ⟨h1, h2⟩ := ih (max z u.1)
  refine ⟨by omega, ?_⟩
  intro e he
  rcases List.mem_cons.1 he with rfl | he
  ·
   omega
  ·
   exact h2 e he
theorem mxd_le : ∀ (p : List (Int × CT)) (M : Int), 0 ≤ M → (∀ e ∈ p, e.1 ≤ M) → mxd p ≤ M := by
 intro p M
 suffices H : ∀ (p : List (Int × CT)) (z : Int), z ≤ M → (∀ e ∈ p, e.1 ≤ M) → p.foldl (fun d e => max d e.1) z ≤ M from fun h0 h => H p 0 h0 h
 intro p
 induction p with
 | nil => intro z h _; exact h
 | cons u p ih =>
  intro z hz h
  simp only [List.foldl_cons]
  exact ih _ (by have := h u (by simp); omega) (fun e he => h e (by simp [he]))
theorem mxd_nodes (c : CT) : mxd (c.nodes 1) = c.dep := by
 obtain ⟨h1, e, h2, h3⟩ := c.nodes_dep 1
 have h4 := (mxd_ge (c.nodes 1)).2 e h2
 have h5 := mxd_le (c.nodes 1) c.dep (by omega) (fun e he => by have := (h1 e he).2; omega)
 omega
theorem prefix_ok {c : CT} {p : List (Int × CT)} (h : p <+: c.nodes 1) (hc : c.ok) : p.length ≤ 20000 ∧ mxd p ≤ 2000 := by
 obtain ⟨q, hq⟩ := h
 have h1 := congrArg List.length hq
 rw [c.nodes_len, List.length_append] at h1
 refine ⟨by have := hc.1; omega, mxd_le _ _ (by decide) fun e he => ?_⟩
 have h2 := ((c.nodes_dep 1).1 e (by rw [← hq]; exact List.mem_append_left _ he)).2
 have := hc.2
 omega
/-- The nodes, handed on. -/
theorem hands107 (w0 : World) (c : CT) (x : C8) (b1 hi : Nat) (hx : RC w0 (fun k => k < w0.heap.size) c x) (h1 : w0.heap.size ≤ b1) (h2 : b1 < hi) (w1 : World) (m1 : Blk w1 b1 27 (tc x)) (h3 : w0.heap.size ≤ hi) : Hands Try.prog 124 #[.pointer (some ⟨b1, 0, none⟩)] w0.heap.size hi w0 (fun W => Blk W b1 27 (tc x)) (fun e => e.1 ≤ 4611686018427387904) (encN w0) (c.nodes 1) :=
 fun L J Jx hJs hJxs hJb hY W hS hJ hWs hB => nodes107 w0 c x b1 hi hx h1 h2 w1 m1 h3 J Jx L hJs hJxs hJb hY W hJ hWs hB hS
theorem nodes71 (x : C8) (w0 : World) (h1x : ∀ u ∈ tc x, u.oneCell' = true) : Calls Try.prog 88 #[tv x] w0 fun e w' => ∃ v, e = .returned v ∧ (∃ b1, v = .func (.func 124) #[] #[.pointer (some ⟨b1, 0, none⟩)] ∧ w0.heap.size ≤ b1 ∧ Blk w' b1 27 (tc x)) ∧ Below w0.heap.size w0 w' := by
 have hB := Below.refl w0.heap.size w0
 have sB := hB.size
 refine calls_fs 4 [(0, tv x)] Try.func88 rfl rfl rfl rfl rfl fun a F => ?_
 refine wp_rs fun _ K1 => ?_
 refine s_box (tc x) F (by decide) rfl rfl fun w2 b1 a eb1 m1 B3 zb1 F => ?_
 have sB3 := B3.size
 have hB := bt hB B3
 refine F.sg rfl fun a F => ?_
 refine s_end (K1 _ _ ?_)
 refine wp_rs fun _ K2 => F.vl (x_mkf [_] rfl) fun a F => F.sg rfl fun a F => ?_
 refine s_end (K2 _ _ ?_)
 refine wp_ret (res_slot F rfl rfl ⟨_, rfl, ⟨b1, rfl, by omega, m1⟩, hB⟩)
theorem measure62 (c : CT) (x : C8) (w0 : World) (hx : RC w0 (fun k => k < w0.heap.size) c x) : Calls Try.prog 46 #[tv x] w0 fun e w' => e = .returned (.tuple #[.agg [.int .i64 (c.mN : Int), .int .i64 (c.mD : Int)].toArray, .bool (decide c.ok)]) ∧ Below w0.heap.size w0 w' := by
 have hB := Below.refl w0.heap.size w0
 have sB := hB.size
 refine calls_fsM 24 [(0, tv x)] Try.func46 rfl rfl rfl rfl rfl fun a F => ?_
 refine wp_rs fun _ K1 => ?_
 refine s_box (tc x) F (by decide) rfl rfl fun w2 b1 a eb1 m1 B3 zb1 F => ?_
 have sB3 := B3.size
 have hB := bt hB B3
 refine s_alloc F (by decide) zero70 fun w4 b2 a eb2 m2 B5 zb2 F => ?_
 have sB5 := B5.size
 have hB := bt hB B5
 have m1 := m1.old B5
 refine s_alloc1 F (by decide) zero4 rfl fun w6 b3 a eb3 m3 B7 zb3 F => ?_
 have sB7 := B7.size
 have hB := bt hB B7
 have m1 := m1.old B7
 have m2 := m2.old B7
 refine s_end (K1 _ _ ?_)
 refine wp_rs fun _ K2 => ?_
 refine s_alloc F (by decide) zero70 fun w8 b4 a eb4 m4 B9 zb4 F => ?_
 have sB9 := B9.size
 have hB := bt hB B9
 have m1 := m1.old B9
 have m2 := m2.old B9
 have m3 := m3.old B9
 refine s_end (K2 _ _ ?_)
 refine wp_seq_k fun _ K3 => ?_
 refine wp_rs fun _ K4 => F.vl (x_ldW wide27 m1 rfl rfl) fun a F => ?_
 refine s_callR (R := fun v w' => ∃ b1, v = .func (.func 124) #[] #[.pointer (some ⟨b1, 0, none⟩)] ∧ w8.heap.size ≤ b1 ∧ Blk w' b1 27 (tc x)) [_] F E88 rfl (by decide) (nodes71 x w8 hx.one) ?_
 rintro v7 w10 a ⟨bx, hve, hbx, mx⟩ B11 F
 have sB11 := B11.size
 have hB := bt hB B11
 have m2 := m2.old B11
 have m3 := m3.old B11
 have m4 := m4.old B11
 subst hve
 refine s_end (K4 _ _ ?_)
 refine wp_block ?_
 have sD := hB.size
 refine wp_range (w0 := w0) F rfl E124 _ rfl hB (hands107 w0 c x bx _ hx (by omega) (by have := mx.lt; omega) _ mx (by omega)) (fun W' hW' => mx.old hW') (by decide) (fun e vs ⟨y, h, _⟩ => by rw [h]; rfl)
  (fun p W => p.length ≤ 20000 ∧ mxd p ≤ 2000 ∧ Blk W b4 69 [.int .i64 (p.length : Int), .int .i64 (mxd p)] ∧ Blk W b2 69 [.int .i64 0, .int .i64 0] ∧ Blk W b3 4 [.bool false])
  (fun c' p W => c' = .ret ∧ ¬ (p.length ≤ 20000 ∧ mxd p ≤ 2000) ∧ Blk W b2 69 [.int .i64 0, .int .i64 0] ∧ Blk W b3 4 [.bool false])
  (fun p W W' ⟨h1, h2, h3, h4, h5⟩ hW => ⟨h1, h2, h3.below hW (by omega), h4.below hW (by omega), h5.below hW (by omega)⟩) (fun c p W W' ⟨h1, h2, h4, h5⟩ hW => ⟨h1, h2, h4.below hW (by omega), h5.below hW (by omega)⟩) (fun p e W ⟨h1, h2, _⟩ => by have := mxd_app p e; omega) (⟨by simp, by simp [mxd], by simpa [mxd] using m4, m2, m3⟩) ?_ ?_ ?_
 ·
  rintro L p e1 rest W a vs hL hq hv hI hWs hBr F K hK
  obtain ⟨hl, hd, m4, m2, m3⟩ := hI
  obtain ⟨y, rfl, hy⟩ := hv
  have sBr := hBr.size
  have hlW : w10.heap.size + 1 < W.heap.size := by omega
  refine wpI_r (by repeat' first | exact rndPost.calm | exact false.calm | refine Calm.then ?_ _ | refine Calm.block ?_ _) rfl ?_
  refine F.sg rfl fun a F => ?_
  refine s_end ?_
  refine hK _ _ (Mid.refl _ _ _) fun W3 hO3 => ?_
  have hM := Mid.refl w0.heap.size w10.heap.size W3
  have sO := hO3.size
  have m4 := m4.only hO3 (by omega)
  have m2 := m2.only hO3 (by omega)
  have m3 := m3.only hO3 (by omega)
  obtain ⟨hbd, _⟩ := (c.nodes_dep 1).1 e1 (by rw [hq]; simp)
  have hp0 := (mxd_ge p).1
  have hpl : (p ++ [e1]).length = p.length + 1 := by simp
  have hmx := mxd_app p e1
  refine wpIn_block ?_
  refine wpI_rs (by repeat' first | exact rndPost.calm | exact false.calm | refine Calm.then ?_ _ | refine Calm.block ?_ _) rfl fun _ K5 => ?_
  refine F.vl (x_fa0 fa70_0 rfl) fun a F => F.ld m4 flat3 rfl rfl fun a F => F.vl (x_add (by omega) (by omega) rfl rfl) fun a F => F.vl (x_fa0 fa70_0 rfl) fun a F => ?_
  refine s_put F rfl rfl flat3 m4 (by first | (simp; done) | decide) rfl fun w12 m4 o13 => ?_
  have so13 := o13.size
  have m2 := m2.only o13 (by omega)
  have m3 := m3.only o13 (by omega)
  have hM := hM.only o13 (by omega)
  refine s_end (K5 _ _ ?_)
  refine wpI_rs (by repeat' first | exact rndPost.calm | exact false.calm | refine Calm.then ?_ _ | refine Calm.block ?_ _) rfl fun _ K6 => ?_
  refine F.vl (x_fa0 fa70_1 rfl) fun a F => F.ld m4 flat3 rfl rfl fun a F => F.mv rfl fun a F => F.vl (x_imax rfl rfl) fun a F => F.vl (x_fa0 fa70_1 rfl) fun a F => ?_
  refine s_put F rfl rfl flat3 m4 (by first | (simp; done) | decide) rfl fun w14 m4 o15 => ?_
  have so15 := o15.size
  have m2 := m2.only o15 (by omega)
  have m3 := m3.only o15 (by omega)
  have hM := hM.only o15 (by omega)
  refine s_end (K6 _ _ ?_)
  rcases (show (((p.length : Int) + 1 ≤ 20000 ∧ max (mxd p) e1.1 ≤ 2000) ∨ ¬ ((p.length : Int) + 1 ≤ 20000 ∧ max (mxd p) e1.1 ≤ 2000)) by omega) with hk | hk
  ·
   have hin := decide_eq_true hk
   refine wpI_rs (by repeat' first | exact rndPost.calm | exact false.calm | refine Calm.then ?_ _ | refine Calm.block ?_ _) rfl fun _ K8 => ?_
   refine F.vl (x_ldW wide70 m4 rfl rfl) fun a F => ?_
   refine s_callB [_] F E89 rfl (by decide) ((isIn105 _ _ _).mono fun en W' h => ⟨by rw [h.1, hin], h.2⟩) fun w20 a B20 F => ?_
   have sB20 := B20.size
   have m4 := m4.old B20
   have m2 := m2.old B20
   have m3 := m3.old B20
   have hM := hM.old B20
   refine F.vl (x_not rfl) fun a F => ?_
   refine s_end (K8 _ _ ?_)
   refine wpI_if F rfl ?_
   refine wpIn_skip ?_
   exact ⟨hM, by rw [hpl]; omega, by rw [hmx]; omega, by rw [hpl, hmx]; simpa using m4, m2, m3⟩
  ·
   have hin := decide_eq_false hk
   refine wpI_rs (by repeat' first | exact rndPost.calm | exact false.calm | refine Calm.then ?_ _ | refine Calm.block ?_ _) rfl fun _ K9 => ?_
   refine F.vl (x_ldW wide70 m4 rfl rfl) fun a F => ?_
   refine s_callB [_] F E89 rfl (by decide) ((isIn105 _ _ _).mono fun en W' h => ⟨by rw [h.1, hin], h.2⟩) fun w20 a B20 F => ?_
   have sB20 := B20.size
   have m2 := m2.old B20
   have m3 := m3.old B20
   have hM := hM.old B20
   refine F.vl (x_not rfl) fun a F => ?_
   refine s_end (K9 _ _ ?_)
   refine wpI_if F rfl ?_
   refine wpI_rs (by repeat' first | exact rndPost.calm | exact false.calm | refine Calm.then ?_ _ | refine Calm.block ?_ _) rfl fun _ K10 => ?_
   refine F.vl (x_build (vs := []) rfl (b70_ _)) fun a F => ?_
   refine s_putW F rfl rfl (size_wide wide70) m2 rfl (oneII _ _) fun w18 m2 o19 => ?_
   have so19 := o19.size
   have m3 := m3.only o19 (by omega)
   have hM := hM.only o19 (by omega)
   refine s_put F rfl rfl flat4 m3 (by first | (simp; done) | decide) rfl fun w20 m3 o21 => ?_
   have so21 := o21.size
   have m2 := m2.only o21 (by omega)
   have hM := hM.only o21 (by omega)
   refine s_end (K10 _ _ ?_)
   refine wpIn_ret ⟨hM, rfl, by rw [hpl, hmx]; omega, m2, m3⟩
 ·
  rintro a W hI hM hD F
  obtain ⟨hl, hd, m4, m2, m3⟩ := hI
  have sM := hM.size
  have hB := hB.trans (hM.below (by omega))
  have hsz := c.nodes_len 1
  have hdp := mxd_nodes c
  have hok : c.ok := ⟨by omega, by omega⟩
  obtain ⟨bD, hbD⟩ : ∃ bD, bD = w10.heap.size := ⟨_, rfl⟩
  rw [← hbD] at hD F
  have hD : Dfr W bD := hD
  rw [hsz, hdp] at m4
  refine K3 _ _ ?_
  refine wp_rs fun _ K11 => F.vl (x_ldW wide70 m4 rfl rfl) fun a F => ?_
  refine s_putW F rfl rfl (size_wide wide70) m2 rfl (oneII _ _) fun w24 m2 o25 => ?_
  have so25 := o25.size
  have hB := hB.trans (o25.below (by omega))
  have m3 := m3.only o25 (by omega)
  have hD := hD.only o25 (by omega)
  refine s_put F rfl rfl flat4 m3 (by first | (simp; done) | decide) rfl fun w26 m3 o27 => ?_
  have so27 := o27.size
  have hB := hB.trans (o27.below (by omega))
  have m2 := m2.only o27 (by omega)
  have hD := hD.only o27 (by omega)
  refine s_end (K11 _ _ ?_)
  refine wp_ret (resM F hD fun w9 o9 => ⟨run_cell2 F rfl rfl rfl (m_loadW (cs := [_, _]) wide70 (m2.only o9 (by omega))) (m_load flat4 ((m3.only o9 (by omega)).cell (j := 0) rfl)), by rw [decide_eq_true hok, show c.mN = c.size from if_pos hok, show c.mD = c.dep from if_pos hok], hB.trans (o9.below (by omega))⟩)
 ·
  rintro a c p W hp hI hM hD F
  obtain ⟨rfl, hno, m2, m3⟩ := hI
  have hB := hB.trans (hM.below (by omega))
  have hok : ¬ c.ok := fun h => hno (prefix_ok hp h)
  refine wp_ret (inb_ret (then_ret (resM F hD fun w9 o9 => ⟨run_cell2 F rfl rfl rfl (m_loadW (cs := [_, _]) wide70 (m2.only o9 (by omega))) (m_load flat4 ((m3.only o9 (by omega)).cell (j := 0) rfl)), by rw [decide_eq_false hok, show c.mN = 0 from if_neg hok, show c.mD = 0 from if_neg hok]; rfl, hB.trans (o9.below (by omega))⟩)))
end Go.Proofs.Ytmkjhdiepkpdoaa

namespace Go.Proofs.Ytmkjhdiepkpdoaa
open Go.RowKit Go.Shelf
set_option linter.unusedVariables false
set_option linter.unusedSimpArgs false
/-! ### Levels: what is sound, and what that is -/
mutual
def parse : Lv → Option SL
 | .mk k n ls => if k = 1 then some (.num n.toNat) else if k = 2 then some (.var n.toNat) else match parses ls with
  | [some a] => some (.succ n.toNat a)
  | [some a, some b] => some (.mx a b)
  | _ => none
def parses : List Lv → List (Option SL)
 | [] => []
 | l :: ls => parse l :: parses ls
end
/-- The sound level that it is. -/
def slO (l : Lv) : Option SL := if sndL l then parse l else none
theorem parse_rs {W : World} : ∀ {s : SL} {x : C3} {l : Lv}, RL W x l → RS W s x → parse l = some s
 | .num m, (k, n, v), _, .mk hR hl hk _, ⟨h1, h2, h3⟩ => by
  simp only at h1 h2; subst h1 h2; simp [parse]
 | .var m, (k, n, v), _, .mk hR hl hk _, ⟨h1, h2, h3⟩ => by
  simp only at h1 h2; subst h1 h2; simp [parse]
 | .succ m a, (k, n, v), _, @RL.mk _ _ _ _ xs ls hR hl hk _, ⟨h1, h2, y, h3, h4⟩ => by
  simp only at h1 h2 h3; subst h1 h2
  obtain ⟨e1, e2⟩ := hR.inj h3
  obtain ⟨z, rfl⟩ : ∃ z, xs = [z] := List.length_eq_one_iff.1 e1
  obtain ⟨l, rfl⟩ : ∃ l, ls = [l] := List.length_eq_one_iff.1 (hl ▸ e1)
  have e3 : z = y := lc_inj (by simpa using e2)
  subst e3
  have := parse_rs (hk 0 z l rfl rfl) h4
  simp [parse, parses, this]
 | .mx a b, (k, n, v), _, @RL.mk _ _ _ _ xs ls hR hl hk _, ⟨h1, y, z, h3, h4, h5⟩ => by
  simp only at h1 h3; subst h1
  obtain ⟨e1, e2⟩ := hR.inj h3
  obtain ⟨y', z', rfl⟩ := len2 e1
  obtain ⟨la, lb, rfl⟩ := len2 (hl ▸ e1)
  have e2 : lc y' ++ lc z' = lc y ++ lc z := by simpa using e2
  obtain ⟨e3, e4⟩ := List.append_inj e2 rfl
  have e3 := lc_inj e3
  have e4 := lc_inj e4
  subst e3 e4
  have h6 := parse_rs (hk 0 y' la rfl rfl) h4
  have h7 := parse_rs (hk 1 z' lb rfl rfl) h5
  simp [parse, parses, h6, h7]
theorem slO_of {W : World} {x : C3} {l : Lv} {s : SL} (hL : RL W x l) (hs : RS W s x) (hg : s.good) : slO l = some s := by
 unfold slO
 rw [if_pos (rs_snd hL hs hg), parse_rs hL hs]
theorem slO_some {W : World} {x : C3} {l : Lv} {s : SL} (hL : RL W x l) (h : slO l = some s) : sndL l ∧ RS W s x ∧ s.good := by
 unfold slO at h
 split at h
 ·
  next hs =>
  obtain ⟨t, h1, h2⟩ := sound_sl hL hs
  rw [parse_rs hL h1] at h
  cases h
  exact ⟨hs, h1, h2⟩
 ·
  cases h
/-- A sound one lies where the level lies. -/
theorem RSn.of {W : World} {A : Nat → Prop} : ∀ {s : SL} {x : C3} {l : Lv}, RLn W A x l → RS W s x → RSn W A s x
 | .num m, (k, n, v), _, .mk hR hl hk _, h => h
 | .var m, (k, n, v), _, .mk hR hl hk _, h => h
 | .succ m a, (k, n, v), _, @RLn.mk _ _ _ _ _ xs ls hR hl hk _, ⟨h1, h2, y, h3, h4⟩ => by
  obtain ⟨e1, e2⟩ := hR.1.inj h3
  obtain ⟨z, rfl⟩ : ∃ z, xs = [z] := List.length_eq_one_iff.1 e1
  obtain ⟨l, rfl⟩ : ∃ l, ls = [l] := List.length_eq_one_iff.1 (hl ▸ e1)
  have e3 : z = y := lc_inj (by simpa using e2)
  subst e3
  exact ⟨h1, h2, z, h3, fun j hj => hR.2 (by simp) j hj, RSn.of (hk 0 z l rfl rfl) h4⟩
 | .mx a b, (k, n, v), _, @RLn.mk _ _ _ _ _ xs ls hR hl hk _, ⟨h1, y, z, h3, h4, h5⟩ => by
  obtain ⟨e1, e2⟩ := hR.1.inj h3
  obtain ⟨y', z', rfl⟩ := len2 e1
  obtain ⟨la, lb, rfl⟩ := len2 (hl ▸ e1)
  have e2 : lc y' ++ lc z' = lc y ++ lc z := by simpa using e2
  obtain ⟨e3, e4⟩ := List.append_inj e2 rfl
  have e3 := lc_inj e3
  have e4 := lc_inj e4
  subst e3 e4
  exact ⟨h1, y', z', h3, fun j hj => hR.2 (by simp) j hj, RSn.of (hk 0 y' la rfl rfl) h4, RSn.of (hk 1 z' lb rfl rfl) h5⟩
/-- A sound one, as one of whatever form, where it lies. -/
theorem RSn.rln {W : World} {A : Nat → Prop} : ∀ {s : SL} {x : C3}, RSn W A s x → ∃ l, RLn W A x l
 | .num m, (k, n, v), ⟨h1, h2, h3⟩ => ⟨.mk k n [], .mk (xs := []) ⟨h3, fun h => by simp at h⟩ rfl (fun i x l h => by simp at h)⟩
 | .var m, (k, n, v), ⟨h1, h2, h3⟩ => ⟨.mk k n [], .mk (xs := []) ⟨h3, fun h => by simp at h⟩ rfl (fun i x l h => by simp at h)⟩
 | .succ m a, (k, n, v), ⟨h1, h2, y, h3, ha, h4⟩ => by
  obtain ⟨l, g1⟩ := RSn.rln h4
  refine ⟨.mk k n [l], .mk (xs := [y]) ⟨by simpa using h3, fun _ b hb => ha b hb⟩ rfl (fun i x l' e1 e2 => ?_)⟩
  cases i
  ·
   simp at e1 e2; subst e1 e2; exact g1
  ·
   simp at e1
 | .mx a b, (k, n, v), ⟨h1, y, z, h3, ha, h4, h5⟩ => by
  obtain ⟨la, g1⟩ := RSn.rln h4
  obtain ⟨lb, g3⟩ := RSn.rln h5
  refine ⟨.mk k n [la, lb], .mk (xs := [y, z]) ⟨by simpa using h3, fun _ b hb => ha b hb⟩ rfl (fun i x l' e1 e2 => ?_)⟩
  rcases i with _ | _ | i
  ·
   simp at e1 e2; subst e1 e2; exact g1
  ·
   simp at e1 e2; subst e1 e2; exact g3
  ·
   simp at e1
/-- x reads as a level that says o. -/
def RO (W : World) (A : Nat → Prop) (o : Option SL) (x : C3) : Prop := ∃ l, RLn W A x l ∧ slO l = o
theorem RO.of {W : World} {A : Nat → Prop} {s : SL} {x : C3} (h : RSn W A s x) (hg : s.good) : RO W A (some s) x := by
 obtain ⟨l, hl⟩ := h.rln
 exact ⟨l, hl, slO_of hl.rl h.rs hg⟩
/-! ### Copies of levels -/
mutual
def cpy : Lv → Lv
 | .mk k n ls => if k = 1 ∨ k = 2 ∨ k = 3 then .mk k n (cpys ls) else if k = 4 then .mk 4 0 (cpys ls) else .mk k 0 []
def cpys : List Lv → List Lv
 | [] => []
 | l :: ls => cpy l :: cpys ls
end
theorem cpys_len : ∀ ls : List Lv, (cpys ls).length = ls.length
 | [] => rfl
 | l :: ls => by simp [cpys, cpys_len ls]
theorem nodeE_n4 {D top vars d n m : Int} {r : Nat} {len : Nat} : nodeE D top vars d r 4 n len = nodeE D top vars d r 4 m len := by simp [nodeE, numB]
theorem nodeE_odd {D top vars d n m : Int} {r : Nat} {k : Int} {len len' : Nat} (h : ¬ (k = 1 ∨ k = 2 ∨ k = 3) ∧ k ≠ 4) : nodeE D top vars d r k n len = nodeE D top vars d r k m len' ∧ nodeE D top vars d r k n len ≠ 0 := by
 have e : ∀ l, kidsB k l = false := by intro l; simp [kidsB]; omega
 simp only [nodeE, e, true_or, if_true]
 refine ⟨trivial, ?_⟩
 split <;> simp
mutual
theorem chk_cpy (D top vars : Int) (d : Int) (r : Nat) : ∀ l, chk D top vars d r (cpy l) = chk D top vars d r l
 | .mk k n ls => by
  unfold cpy
  split
  ·
   unfold chk
   rw [cpys_len, chks_cpy D top vars (d + 1) (r - 1) ls]
  ·
   next h1 =>
   split
   ·
    next h2 =>
    subst h2
    unfold chk
    rw [cpys_len, chks_cpy D top vars (d + 1) (r - 1) ls, nodeE_n4 (n := 0) (m := n)]
   ·
    next h2 =>
    obtain ⟨e1, e2⟩ := nodeE_odd (D := D) (top := top) (vars := vars) (d := d) (n := n) (m := 0) (r := r) (k := k) (len := ls.length) (len' := 0) ⟨h1, h2⟩
    unfold chk
    rw [List.length_nil, ← e1, if_pos e2, if_pos e2]
theorem chks_cpy (D top vars : Int) (d : Int) (r : Nat) : ∀ ls, chks D top vars d r (cpys ls) = chks D top vars d r ls
 | [] => rfl
 | l :: ls => by
  unfold cpys chks
  rw [chk_cpy D top vars d r l, chks_cpy D top vars d _ ls]
end
theorem snd_cpy (l : Lv) : sndL (cpy l) ↔ sndL l := by unfold sndL; rw [chk_cpy]
theorem parse_cpy {W : World} {A : Nat → Prop} : ∀ {s : SL} {x : C3} {l : Lv}, RL W x l → RS W s x → parse (cpy l) = some s
 | .num m, (k, n, v), _, .mk hR hl hk _, ⟨h1, h2, h3⟩ => by
  simp only at h1 h2; subst h1 h2; simp [parse, cpy]
 | .var m, (k, n, v), _, .mk hR hl hk _, ⟨h1, h2, h3⟩ => by
  simp only at h1 h2; subst h1 h2; simp [parse, cpy]
 | .succ m a, (k, n, v), _, @RL.mk _ _ _ _ xs ls hR hl hk _, ⟨h1, h2, y, h3, h4⟩ => by
  simp only at h1 h2 h3; subst h1 h2
  obtain ⟨e1, e2⟩ := hR.inj h3
  obtain ⟨z, rfl⟩ : ∃ z, xs = [z] := List.length_eq_one_iff.1 e1
  obtain ⟨l, rfl⟩ : ∃ l, ls = [l] := List.length_eq_one_iff.1 (hl ▸ e1)
  have e3 : z = y := lc_inj (by simpa using e2)
  subst e3
  have := parse_cpy (A := A) (hk 0 z l rfl rfl) h4
  simp [parse, parses, cpy, cpys, this]
 | .mx a b, (k, n, v), _, @RL.mk _ _ _ _ xs ls hR hl hk _, ⟨h1, y, z, h3, h4, h5⟩ => by
  simp only at h1 h3; subst h1
  obtain ⟨e1, e2⟩ := hR.inj h3
  obtain ⟨y', z', rfl⟩ := len2 e1
  obtain ⟨la, lb, rfl⟩ := len2 (hl ▸ e1)
  have e2 : lc y' ++ lc z' = lc y ++ lc z := by simpa using e2
  obtain ⟨e3, e4⟩ := List.append_inj e2 rfl
  have e3 := lc_inj e3
  have e4 := lc_inj e4
  subst e3 e4
  have h6 := parse_cpy (A := A) (hk 0 y' la rfl rfl) h4
  have h7 := parse_cpy (A := A) (hk 1 z' lb rfl rfl) h5
  simp [parse, parses, cpy, cpys, h6, h7]
theorem slO_cpy {W : World} {x : C3} {l : Lv} (hL : RL W x l) : slO (cpy l) = slO l := by
 by_cases h : sndL l
 ·
  obtain ⟨s, h1, h2⟩ := sound_sl hL h
  rw [slO_of hL h1 h2]
  unfold slO
  rw [if_pos ((snd_cpy l).2 h), parse_cpy (A := fun _ => True) hL h1]
 ·
  unfold slO
  rw [if_neg h, if_neg (fun h' => h ((snd_cpy l).1 h'))]
/-! ### Terms -/
inductive PT where
 | var (n : Int)
 | sort (o : Option SL)
 | cst (s : ByteArray) (os : List (Option SL))
 | odd (k : Int)
 | two (k : Int) (a b : PT)
 | lt (a b c : PT)
def CT.ess : CT → PT
 | .var n _ => .var n
 | .sort l _ => .sort (slO l)
 | .cst s ls _ => .cst s (ls.map slO)
 | .odd k _ => .odd k
 | .two k a b _ => .two k a.ess b.ess
 | .lt a b c _ => .lt a.ess b.ess c.ess
def PT.size : PT → Nat
 | .two _ a b => a.size + b.size + 1
 | .lt a b c => a.size + b.size + c.size + 1
 | _ => 1
def PT.dep : PT → Nat
 | .two _ a b => max a.dep b.dep + 1
 | .lt a b c => max a.dep (max b.dep c.dep) + 1
 | _ => 1
def PT.kids : PT → List PT
 | .two _ a b => [a, b]
 | .lt a b c => [a, b, c]
 | _ => []
theorem CT.ess_size : ∀ c : CT, c.ess.size = c.size
 | .two _ a b _ => by simp [CT.ess, PT.size, CT.size, a.ess_size, b.ess_size]
 | .lt a b c _ => by simp [CT.ess, PT.size, CT.size, a.ess_size, b.ess_size, c.ess_size]
 | .var .. => rfl
 | .sort .. => rfl
 | .cst .. => rfl
 | .odd .. => rfl
theorem CT.ess_dep : ∀ c : CT, c.ess.dep = c.dep
 | .two _ a b _ => by simp [CT.ess, PT.dep, CT.dep, a.ess_dep, b.ess_dep]
 | .lt a b c _ => by simp [CT.ess, PT.dep, CT.dep, a.ess_dep, b.ess_dep, c.ess_dep]
 | .var .. => rfl
 | .sort .. => rfl
 | .cst .. => rfl
 | .odd .. => rfl
/-- x reads as a term that says p. -/
def RE (W : World) (A : Nat → Prop) (p : PT) (x : C8) : Prop := ∃ c, RC W A c x ∧ c.ess = p
section
variable {W W' : World} {A B : Nat → Prop} {p : PT} {x : C8}
theorem RE.keep (hs : W.heap.size ≤ W'.heap.size) (hk : ∀ k, A k → k < W.heap.size → W'.heap[k]? = W.heap[k]?) (h : RE W A p x) : RE W' A p x := let ⟨c, h1, h2⟩ := h; ⟨c, h1.keep hs hk, h2⟩
theorem RE.mono (hAB : ∀ k, A k → B k) (h : RE W A p x) : RE W B p x := let ⟨c, h1, h2⟩ := h; ⟨c, h1.mono hAB, h2⟩
theorem RE.below (h : RE W A p x) (hB : Below W.heap.size W W') : RE W' A p x := h.keep hB.size (fun k _ hk => hB.block k hk)
theorem RE.only {b : Nat} (h : RE W A p x) (o : Only b W W') (hb : ¬ A b) : RE W' A p x := h.keep (Nat.le_of_eq o.size.symm) (fun k ha _ => o.block k (fun e => hb (e ▸ ha)))
theorem RE.k2 {a b : Nat} (h : RE W A p x) (hK : Ktw a b W W') (ha : ¬ A a) (hb : ¬ A b) : RE W' A p x := h.keep hK.size (fun k hA hk => hK.block k hk ⟨fun e => ha (e ▸ hA), fun e => hb (e ▸ hA)⟩)
theorem RE.one (h : RE W A p x) : ∀ u ∈ tc x, u.oneCell' = true := let ⟨_, h1, _⟩ := h; h1.one
theorem RC.re {c : CT} (h : RC W A c x) : RE W A c.ess x := ⟨c, h, rfl⟩
end
/-! ### Folds -/
section
variable {α : Type}
def CT.fold (G : CT → Int → List α → α) : CT → Int → α
 | .two k a b m, d => G (.two k a b m) d [a.fold G (d + (CT.two k a b m).bnd 0), b.fold G (d + (CT.two k a b m).bnd 1)]
 | .lt a b c m, d => G (.lt a b c m) d [a.fold G (d + (CT.lt a b c m).bnd 0), b.fold G (d + (CT.lt a b c m).bnd 1), c.fold G (d + (CT.lt a b c m).bnd 2)]
 | .var n m, d => G (.var n m) d []
 | .sort l m, d => G (.sort l m) d []
 | .cst s ls m, d => G (.cst s ls m) d []
 | .odd k m, d => G (.odd k m) d []
/-- What is made of the kids. -/
def CT.folds (G : CT → Int → List α → α) (c : CT) (d : Int) : List α := c.kids.mapIdx fun i k => k.fold G (d + c.bnd i)
theorem CT.fold_eq (G : CT → Int → List α → α) (c : CT) (d : Int) : c.fold G d = G c d (c.folds G d) := by
 cases c <;> simp [CT.fold, CT.folds, CT.kids, List.mapIdx_cons]
theorem CT.folds_len (G : CT → Int → List α → α) (c : CT) (d : Int) : (c.folds G d).length = c.kids.length := by simp [CT.folds]
theorem CT.folds_get (G : CT → Int → List α → α) {c k : CT} {d : Int} {i : Nat} (h : c.kids[i]? = some k) : (c.folds G d)[i]? = some (k.fold G (d + c.bnd i)) := by
 simp [CT.folds, h]
end
end Go.Proofs.Ytmkjhdiepkpdoaa

namespace Go.Proofs.Ytmkjhdiepkpdoaa
open Go.RowKit Go.Shelf
set_option linter.unusedVariables false
set_option linter.unusedSimpArgs false
section
variable {P : Program} {n d : Nat} {l : List (Nat × Value)} {w : World} {a : Act} {ops : Array Oper} {Q : Exit → Act → World → Prop} {rest : List Oper} {ty : TypeId} {pos : String} {af : Array Edge} {x y : Operand}
/-- A slice is made. -/
theorem s_mkG {ds : List Deferred} {t e k kb : Nat} {kl kc : IntKind} {p q : Int} (m : Nat) (hE : Elem P t e k kb) (F : Fs n a l (ds := ds)) (hd : d < n) (hx : ov l x = some (.int kl p)) (hy : ov l y = some (.int kc q)) (hb : kb * m ≤ 281474976710656) (hm : m < 9223372036854775808) (hp : p = (m : Int)) (hq : q = (m : Int))
    (h : ∀ w' b a' cs, b = w.heap.size → cs.length = m * k → Blk w' b e cs → Below w.heap.size w w' → w'.heap.size = w.heap.size + 1 → Fs n a' ((d, .slice (some ⟨b, 0, none⟩) m m) :: l) (ds := ds) → wpList P ops Q rest a' w') :
    wpList P ops Q (⟨some d, .makeSlice t x y, ty, pos, af, none⟩ :: rest) a w := by
  obtain ⟨i, z, hi, hz, hs, hby, hzc⟩ := hE.info
  subst hp hq
  have hb' : (i.bytes : Int) * (m : Int) ≤ 281474976710656 := by
    have h : ((i.bytes * m : Nat) : Int) ≤ 281474976710656 := by rw [hby]; omega
    rwa [Int.natCast_mul] at h
  have hr := run_make (P := P) w t e i z hE.under hi hz kl kc m m (by omega) (by omega) hb' (by omega)
  simp only [Int.toNat_natCast] at hr
  refine s_new (w' := w.alloc (Obj.cells (madeCells z.cells (m * i.size)) e)) (v := .slice (some ⟨w.heap.size, 0, none⟩) m m) F (fun o ho => by simp [execOp, ho, F.ov hx, F.ov hy, hr]) hd fun a' F' => h _ _ a' (madeCells z.cells (m * i.size)).toList rfl ?_ ?_ (below_alloc _) (size_alloc _) F'
  · rw [Array.length_toList, size_madeCells, hs]
  · have := blk_alloc (w := w) e (madeCells z.cells (m * i.size)).toList
    rwa [Array.toArray_toList] at this
end
theorem take_put {α : Type} {cs vs : List α} {o : Nat} (h : o ≤ cs.length) : (cs.take o ++ vs ++ cs.drop (o + vs.length)).take (o + vs.length) = cs.take o ++ vs := by
 rw [List.take_append_of_le_length (by simp; omega), List.take_of_length_le (by simp; omega)]
theorem put_len {α : Type} {cs vs : List α} {o : Nat} (h : o + vs.length ≤ cs.length) : (cs.take o ++ vs ++ cs.drop (o + vs.length)).length = cs.length := by
 simp; omega
section
variable {W : World} {A : Nat → Prop}
theorem RLn.valid {x : C3} {l : Lv} (h : RLn W A x l) : RLn W (fun k => A k ∧ k < W.heap.size) x l := by
 induction h with
 | mk hR hl hk hbd9 ih => exact .mk hR.lt hl ih hbd9
theorem RVn.valid {v : Value} {ls : List Lv} : RVn W A v ls → RVn W (fun k => A k ∧ k < W.heap.size) v ls := fun ⟨xs, h1, h2, h3⟩ => ⟨xs, h1.lt, h2, fun i x l e1 e2 => (h3 i x l e1 e2).valid⟩
theorem Ok.valid {x : C8} : Ok W A x → Ok W (fun k => A k ∧ k < W.heap.size) x := fun ⟨⟨l, h1⟩, ls, h2⟩ => ⟨⟨l, h1.valid⟩, ls, h2.valid⟩
theorem RC.valid : ∀ {c : CT} {x : C8}, RC W A c x → RC W (fun k => A k ∧ k < W.heap.size) c x
 | .var .., x, ⟨h1, h2, h3, ⟨cs, h4⟩, h5⟩ => ⟨h1, h2, h3, ⟨cs, h4.lt⟩, h5.valid⟩
 | .sort .., x, ⟨h1, h2, ⟨cs, h4⟩, h5⟩ => ⟨h1, h2.valid, ⟨cs, h4.lt⟩, h5.valid⟩
 | .cst .., x, ⟨h1, h2, h3, ⟨cs, h4⟩, h5⟩ => ⟨h1, h2, h3.valid, ⟨cs, h4.lt⟩, h5.valid⟩
 | .odd .., x, ⟨h1, h2, ⟨cs, h4⟩, h5⟩ => ⟨h1, h2, ⟨cs, h4.lt⟩, h5.valid⟩
 | .two .., x, ⟨h1, h2, ⟨y, z, cs, h3, h4, h5⟩, h6⟩ => ⟨h1, h2, ⟨y, z, cs, h3.lt, RC.valid h4, RC.valid h5⟩, h6.valid⟩
 | .lt .., x, ⟨h1, ⟨y, z, u, cs, h3, h4, h5, h7⟩, h6⟩ => ⟨h1, ⟨y, z, u, cs, h3.lt, RC.valid h4, RC.valid h5, RC.valid h7⟩, h6.valid⟩
theorem RE.valid {p : PT} {x : C8} (h : RE W A p x) : RE W (fun k => A k ∧ k < W.heap.size) p x := let ⟨c, h1, h2⟩ := h; ⟨c, h1.valid, h2⟩
end
/-- What is left of a room. -/
def Room (W : World) (br : Nat) : Prop := ∃ r : Int, Blk W br 102 [.int .i64 r] ∧ 0 ≤ r ∧ r ≤ 2147483647
theorem Room.below {W W' : World} {br : Nat} (h : Room W br) (hB : Below W.heap.size W W') : Room W' br := let ⟨r, h1, h2⟩ := h; ⟨r, h1.old hB, h2⟩
theorem Room.only {W W' : World} {br b : Nat} (h : Room W br) (hO : Only b W W') (hb : br ≠ b) : Room W' br := let ⟨r, h1, h2⟩ := h; ⟨r, h1.only hO hb, h2⟩
theorem Room.lt {W : World} {br : Nat} (h : Room W br) : br < W.heap.size := let ⟨_, h1, _⟩ := h; h1.lt
/-- Where what is handed in lies, and what has come about since a block. -/
def Ar (lo br s : Nat) : Nat → Prop := fun k => k ≠ br ∧ (k < lo ∨ s ≤ k)
def Ai (lo br : Nat) : Nat → Prop := fun k => k ≠ br ∧ k < lo
theorem Ar.mono {lo br s s' : Nat} (h : s' ≤ s) : ∀ k, Ar lo br s k → Ar lo br s' k := fun k ⟨h1, h2⟩ => ⟨h1, by omega⟩
theorem Ai.ar {lo br s : Nat} : ∀ k, Ai lo br k → Ar lo br s k := fun k ⟨h1, h2⟩ => ⟨h1, .inl h2⟩
theorem Ar.nbr {lo br s : Nat} : ¬ Ar lo br s br := fun h => h.1 rfl
theorem Ai.nbr {lo br : Nat} : ¬ Ai lo br br := fun h => h.1 rfl
theorem Ar.no {lo br s b : Nat} (h : lo ≤ b ∧ b < s) : ¬ Ar lo br s b := fun h' => by have := h'.2; omega
theorem Ai.no {lo br b : Nat} (h : lo ≤ b) : ¬ Ai lo br b := fun h' => by have := h'.2; omega
/-- What was handed in, and what has come about since a block. -/
def AS (A : Nat → Prop) (s : Nat) : Nat → Prop := fun k => A k ∨ s ≤ k
theorem AS.mono {A : Nat → Prop} {s s' : Nat} (h : s' ≤ s) : ∀ k, AS A s k → AS A s' k := fun k hk => hk.elim .inl (fun h' => .inr (by omega))
/-- A slice of terms that say ps. -/
def RKE (W : World) (A : Nat → Prop) (v : Value) (ps : List PT) : Prop := ∃ xs : List C8, Rn W A v 8 xs.length (xs.flatMap tc) ∧ xs.length = ps.length ∧ ∀ (i : Nat) x p, xs[i]? = some x → ps[i]? = some p → RE W A p x
section
variable {W W' : World} {A B : Nat → Prop} {v : Value} {ps : List PT}
theorem RKE.keep (hs : W.heap.size ≤ W'.heap.size) (hk : ∀ k, A k → k < W.heap.size → W'.heap[k]? = W.heap[k]?) : RKE W A v ps → RKE W' A v ps :=
 fun ⟨xs, h1, h2, h3⟩ => ⟨xs, h1.keep hs hk, h2, fun i x c e1 e2 => (h3 i x c e1 e2).keep hs hk⟩
theorem RKE.mono (hAB : ∀ k, A k → B k) : RKE W A v ps → RKE W B v ps := fun ⟨xs, h1, h2, h3⟩ => ⟨xs, h1.mono hAB, h2, fun i x c e1 e2 => (h3 i x c e1 e2).mono hAB⟩
theorem RKE.below (h : RKE W A v ps) (hB : Below W.heap.size W W') : RKE W' A v ps := h.keep hB.size (fun k _ hk => hB.block k hk)
theorem RKE.only {b : Nat} (h : RKE W A v ps) (o : Only b W W') (hb : ¬ A b) : RKE W' A v ps := h.keep (Nat.le_of_eq o.size.symm) (fun k ha _ => o.block k (fun e => hb (e ▸ ha)))
theorem RKE.k2 {a b : Nat} (h : RKE W A v ps) (hK : Ktw a b W W') (ha : ¬ A a) (hb : ¬ A b) : RKE W' A v ps := h.keep hK.size (fun k hA hk => hK.block k hk ⟨fun e => ha (e ▸ hA), fun e => hb (e ▸ hA)⟩)
theorem RKE.nil (W : World) (A : Nat → Prop) : RKE W A nilS [] := ⟨[], Rn.nil W A 8, rfl, fun i x c h => by simp at h⟩
theorem RKE.form (h : RKE W A v ps) : ∃ a c, v = .slice a ps.length c ∧ ps.length ≤ c ∧ (a = none → c = 0) := by
 obtain ⟨xs, h1, h2, _⟩ := h
 rw [← h2]
 exact h1.1.form
theorem RKE.one (h : RKE W A v ps) : v.oneCell' = true := by
 obtain ⟨a, c, rfl, _⟩ := h.form
 rfl
/-- Exact ones that say so. -/
theorem RKE.ck (h : RKE W A v ps) : ∃ cs, RK W A v cs ∧ cs.map CT.ess = ps := by
 obtain ⟨xs, h1, h2, h3⟩ := h
 have : ∀ i : Nat, ∃ c : CT, ∀ x p, xs[i]? = some x → ps[i]? = some p → RC W A c x ∧ c.ess = p := by
  intro i
  by_cases hi : i < xs.length
  ·
   obtain ⟨c, hc⟩ := h3 i xs[i] (ps[i]'(by omega)) (List.getElem?_eq_getElem hi) (List.getElem?_eq_getElem (by omega))
   refine ⟨c, fun x p e1 e2 => ?_⟩
   rw [List.getElem?_eq_getElem hi] at e1
   rw [List.getElem?_eq_getElem (by omega)] at e2
   cases e1; cases e2
   exact hc
  ·
   exact ⟨.odd 0 0, fun x p e1 => by rw [List.getElem?_eq_none (by omega)] at e1; cases e1⟩
 obtain ⟨f, hf⟩ := Classical.axiomOfChoice this
 refine ⟨(List.range xs.length).map f, ⟨xs, h1, by simp, ?_⟩, ?_⟩
 ·
  intro i x c e1 e2
  have hi := (List.getElem?_eq_some_iff.1 e1).1
  rw [List.getElem?_map, List.getElem?_range hi] at e2
  cases e2
  exact (hf i x (ps[i]'(by omega)) e1 (List.getElem?_eq_getElem (by omega))).1
 ·
  apply List.ext_getElem?
  intro i
  by_cases hi : i < xs.length
  ·
   rw [List.getElem?_map, List.getElem?_map, List.getElem?_range hi, List.getElem?_eq_getElem (by omega : i < ps.length)]
   exact congrArg some (hf i xs[i] (ps[i]'(by omega)) (List.getElem?_eq_getElem hi) (List.getElem?_eq_getElem (by omega))).2
  ·
   rw [List.getElem?_eq_none (by simp; omega), List.getElem?_eq_none (by omega)]
end
/-- The first of the cells read as terms that say ps. -/
def MkT (W : World) (A : Nat → Prop) (cs : List Value) (ps : List PT) : Prop := ∃ ys : List C8, cs.take (ps.length * 8) = ys.flatMap tc ∧ ys.length = ps.length ∧ ∀ (j : Nat) y p, ys[j]? = some y → ps[j]? = some p → RE W A p y
section
variable {W W' : World} {A B : Nat → Prop} {cs : List Value} {ps : List PT}
theorem MkT.start (W : World) (A : Nat → Prop) (cs : List Value) : MkT W A cs [] := ⟨[], by simp, rfl, fun j y p h => by simp at h⟩
theorem MkT.valid : MkT W A cs ps → MkT W (fun k => A k ∧ k < W.heap.size) cs ps := fun ⟨xs, h1, h2, h3⟩ => ⟨xs, h1, h2, fun i x c e1 e2 => (h3 i x c e1 e2).valid⟩
theorem MkT.mono (hAB : ∀ k, A k → B k) : MkT W A cs ps → MkT W B cs ps := fun ⟨xs, h1, h2, h3⟩ => ⟨xs, h1, h2, fun i x c e1 e2 => (h3 i x c e1 e2).mono hAB⟩
theorem MkT.keep (hs : W.heap.size ≤ W'.heap.size) (hk : ∀ k, A k → k < W.heap.size → W'.heap[k]? = W.heap[k]?) : MkT W A cs ps → MkT W' A cs ps :=
 fun ⟨xs, h1, h2, h3⟩ => ⟨xs, h1, h2, fun i x c e1 e2 => (h3 i x c e1 e2).keep hs hk⟩
theorem MkT.below (h : MkT W A cs ps) (hB : Below W.heap.size W W') : MkT W' A cs ps := h.keep hB.size (fun k _ hk => hB.block k hk)
theorem MkT.only {b : Nat} (h : MkT W A cs ps) (o : Only b W W') (hb : ¬ A b) : MkT W' A cs ps := h.keep (Nat.le_of_eq o.size.symm) (fun k ha _ => o.block k (fun e => hb (e ▸ ha)))
theorem MkT.k2 {a b : Nat} (h : MkT W A cs ps) (hK : Ktw a b W W') (ha : ¬ A a) (hb : ¬ A b) : MkT W' A cs ps := h.keep hK.size (fun k hA hk => hK.block k hk ⟨fun e => ha (e ▸ hA), fun e => hb (e ▸ hA)⟩)
theorem MkT.snoc {p : PT} {y : C8} {o : Nat} (h : MkT W A cs ps) (hy : RE W A p y) (ho : o = ps.length * 8) (hl : ps.length * 8 + 8 ≤ cs.length) : MkT W A (cs.take o ++ tc y ++ cs.drop (o + (tc y).length)) (ps ++ [p]) := by
 subst ho
 obtain ⟨ys, h1, h2, h3⟩ := h
 refine ⟨ys ++ [y], ?_, by simp [h2], fun j z q e1 e2 => ?_⟩
 ·
  rw [show (ps ++ [p]).length * 8 = ps.length * 8 + (tc y).length by simp [tc]; omega, take_put (by omega), h1]
  simp
 ·
  rcases Nat.lt_trichotomy j ys.length with hj | hj | hj
  ·
   rw [List.getElem?_append_left hj] at e1
   rw [List.getElem?_append_left (by omega)] at e2
   exact h3 j z q e1 e2
  ·
   subst hj
   rw [List.getElem?_append_right (Nat.le_refl _)] at e1
   rw [h2, List.getElem?_append_right (Nat.le_refl _)] at e2
   simp at e1 e2
   subst e1 e2
   exact hy
  ·
   rw [List.getElem?_eq_none (by simp; omega)] at e1
   cases e1
theorem MkT.rke {b n : Nat} (h : MkT W A cs ps) (hB : Blk W b 27 cs) (hl : cs.length = ps.length * 8) (hAB : ∀ k, A k → B k) (hb : B b) (hn : n = ps.length) : RKE W B (.slice (some ⟨b, 0, none⟩) n n) ps := by
 subst hn
 obtain ⟨ys, h1, h2, h3⟩ := h
 refine ⟨ys, ⟨?_, fun _ k hk => ?_⟩, h2, fun j y p e1 e2 => (h3 j y p e1 e2).mono hAB⟩
 ·
  rw [List.take_of_length_le (by omega)] at h1
  rw [← h1, h2]
  exact Rd.blk hB hl
 ·
  simp [Value.ownBlock] at hk
  subst hk
  exact hb
end
end Go.Proofs.Ytmkjhdiepkpdoaa

namespace Go.Proofs.Ytmkjhdiepkpdoaa
set_option maxRecDepth 100000
set_option maxHeartbeats 1600000
open Go.RowKit Go.Shelf
set_option linter.unusedVariables false
set_option linter.unusedSimpArgs false
/-- Its kids' list holds just so many. -/
def Tn (n : Nat) (y : C8) : Prop := ∃ a cp, y.ts = .slice a n cp
def Tt (c : CT) (y : C8) : Prop := 0 < c.kids.length → Tn c.kids.length y
theorem tt_var {n : Int} {m : Nat} {y : C8} : Tt (.var n m) y := fun h => by simp [CT.kids] at h
theorem tt_of {W : World} {A : Nat → Prop} {c : CT} {y : C8} {kv : Value} {ps : List PT} (hl : ps.length = c.kids.length) (h : RKE W A kv ps) (hy : y.ts = kv) : Tt c y := fun _ => by
 obtain ⟨a, cp, he, _⟩ := h.form
 exact ⟨a, cp, by rw [hy, he, hl]⟩
theorem take_snoc {α : Type} {l : List α} {i : Nat} {p : α} (h : l[i]? = some p) : l.take (i + 1) = l.take i ++ [p] := by
 rw [List.take_add_one, h]; rfl
theorem fold88 (wl : World) (br : Nat) (hbr : br < wl.heap.size) (A : Nat → Prop) (hA : ∀ k, A k → k ≠ br ∧ k < wl.heap.size) (g : FuncId) (lb : List Value) (hg : Enters Try.prog g) (D : Int) (hD : D ≤ 4611686018427387904) (G : CT → Int → List PT → PT) (Pc : CT → Prop) (hPc : ∀ (c k : CT) (i : Nat), Pc c → c.kids[i]? = some k → Pc k)
    (HJ : ∀ (W : World) (c : CT) (x : C8) (d : Int) (kv : Value) (ps : List PT) (s : Nat), Ktw br br wl W → Room W br → RC wl A c x → 0 ≤ d → d ≤ D → wl.heap.size ≤ s → s ≤ W.heap.size → RKE W (AS A s) kv ps → ps.length = c.kids.length → Pc c →
      Calls Try.prog g ([tv x, .int .i64 d, kv] ++ lb).toArray W fun e w' => ∃ v, e = .returned v ∧ ((∃ y, v = tv y ∧ RE w' (AS A s) (G c d ps) y ∧ Tt c y) ∧ Room w' br) ∧ Ktw br br W w') :
    ∀ (N : Nat) (c : CT) (x : C8) (d : Int) (W : World), c.size < N → RC wl A c x → Pc c → 0 ≤ d → d + c.dep ≤ D → Ktw br br wl W → Room W br →
      Calls Try.prog 60 #[tv x, .int .i64 d, .func (.func g) #[] lb.toArray] W fun e w' => ∃ v, e = .returned v ∧ ((∃ y, v = tv y ∧ RE w' (AS A W.heap.size) (c.fold G d) y ∧ Tt c y) ∧ Room w' br) ∧ Ktw br br W w' := by
  intro N
  induction N with
  | zero => intro c x d W h; omega
  | succ N ih =>
  intro c x d W hN hx hPx hd0 hdD hK hR
  have h3 := c.kids_le
  have hdp := c.dep_pos
  have hQ := Ktw.refl br br W
  have sQ := hQ.size
  have sK := hK.size
  refine calls_fs 43 [(0, tv x), (1, .int .i64 d), (2, .func (.func g) #[] lb.toArray)] Try.func60 rfl rfl rfl rfl rfl fun a F => ?_
  refine wp_rs fun _ K1 => ?_
  refine s_box (tc x) F (by decide) rfl rfl fun w2 b3 a eb3 m3 B3 zb3 F => ?_
  have sB3 := B3.size
  have hK := hK.below B3
  have hQ := hQ.below B3
  have hR := hR.below B3
  refine s_alloc F (by decide) zero27 fun w4 b6 a eb6 m6 B5 zb6 F => ?_
  have sB5 := B5.size
  have hK := hK.below B5
  have hQ := hQ.below B5
  have m3 := m3.old B5
  have hR := hR.below B5
  refine s_end (K1 _ _ ?_)
  refine wp_rs fun _ K2 => F.sg rfl fun a F => ?_
  refine s_end (K2 _ _ ?_)
  refine wp_seq_k fun _ K3 => ?_
  refine wp_rs fun _ K4 => F.vl (x_ldW wide27 m3 rfl rfl) fun a F => ?_
  refine s_callR (R := fun v w' => RK wl A v c.kids) [_] F E84 rfl (by decide) (kidsOf101 c x A wl w4 hx) ?_
  rintro v12 w6 a hv12 B7 F
  have sB7 := B7.size
  have hK := hK.below B7
  have hQ := hQ.below B7
  have m3 := m3.old B7
  have m6 := m6.old B7
  have hR := hR.below B7
  obtain ⟨a12, c12, hve, _⟩ := hv12.form
  subst hve
  refine F.sg rfl fun a F => ?_
  refine s_end (K4 _ _ ?_)
  rcases (show 0 < c.kids.length ∨ c.kids.length = 0 by omega) with hk | hk
  · skip
    refine wp_rs fun _ K6 => F.mv rfl fun a F => F.vl (x_len Try.underlying25 rfl) fun a F => F.vl (gtrT (by omega) rfl rfl) fun a F => ?_
    refine s_end (K6 _ _ ?_)
    refine wp_if F rfl ?_
    refine wp_rs fun _ K7 => F.mv rfl fun a F => F.vl (x_len Try.underlying25 rfl) fun a F => ?_
    refine s_mkG c.kids.length el25 F (by decide) rfl rfl (by omega) (by omega) rfl rfl fun w18 bm a cs18 eb18 hl18 mm B18 z18 F => ?_
    have sB18 := B18.size
    have hK := hK.below B18
    have hQ := hQ.below B18
    have m3 := m3.old B18
    have m6 := m6.old B18
    have hR := hR.below B18
    refine F.sg rfl fun a F => ?_
    refine s_end (K7 _ _ ?_)
    refine wp_rs fun _ K8 => F.mv rfl fun a F => F.vl (x_len Try.underlying25 rfl) fun a F => F.mv rfl fun a F => ?_
    refine s_end (K8 _ _ ?_)
    refine wp_block ?_
    refine wp_up c.kids.length (fun i a w => ∃ cs, cs.length = c.kids.length * 8 ∧ Blk w bm 27 cs ∧ MkT w (AS A (bm + 1)) cs ((c.folds G d).take i) ∧ Room w br ∧ Blk w b3 27 (tc x) ∧ Blk w b6 27 z8 ∧ Ktw br br wl w ∧ Ktw br br W w ∧ Fs 43 a [(1, .int .i64 d), (2, .func (.func g) #[] lb.toArray), (3, .pointer (some ⟨b3, 0, none⟩)), (6, .pointer (some ⟨b6, 0, none⟩)), (7, .slice (some ⟨bm, 0, none⟩) c.kids.length c.kids.length), (19, .slice a12 c.kids.length c12), (20, .int .i64 (c.kids.length : Int)), (21, .int .i64 (i : Int))]) ⟨cs18, hl18, mm, by rw [List.take_zero]; exact MkT.start _ _ _, hR, m3, m6, hK, hQ, F.sub _ rfl⟩ ?_
    clear F hR mm m3 m6 hK hQ
    rintro i a w hi ⟨cs, hl, mm, hM, hR, m3, m6, hK, hQ, F⟩ K' hK'
    have sK := hK.size
    have sQ := hQ.size
    have hbmw := mm.lt
    have hb3w := m3.lt
    have hb6w := m6.lt
    have hM := hM.valid
    refine wp_rs fun _ K9 => F.vl (x_lss (b := decide (i < c.kids.length)) (decide_eq_decide.2 (by omega)) rfl rfl) fun a F => ?_
    refine s_end (K9 _ _ ?_)
    refine wp_seq_k fun _ K10 => ?_
    refine wp_iff F rfl (fun hc22 => ?_) (fun hc22 => ?_)
    · obtain ⟨b9, off9, c9, y, kd, hve, hyk, hry, hAb, hbl, hrow⟩ := hv12.row (i := i) (by omega)
      cases hve
      have hks := CT.kid_size hyk
      have hbd := c.bnd_is i
      have htk := take_snoc (CT.folds_get G (d := d) hyk)
      have hti : ((c.folds G d).take i).length = i := by rw [List.length_take, CT.folds_len]; omega
      refine wp_skip (K10 _ _ ?_)
      refine wp_seq_k fun _ K11 => ?_
      refine wp_block ?_
      refine wp_rs fun _ K12 => F.mv rfl fun a F => F.vl (x_ixa rfl rfl (m_ixsK i Try.underlying25 el25.size rfl (by omega))) fun a F => F.vl (x_ldA wide27 (hrow _ (hK.block _ hbl ⟨(hA _ hAb).1, (hA _ hAb).1⟩)) rfl rfl) fun a F => ?_
      refine s_alloc F (by decide) zero27 fun w8 b10 a eb10 m10 B9 zb10 F => ?_
      have sB9 := B9.size
      have hK := hK.below B9
      have hQ := hQ.below B9
      have mm := mm.old B9
      have m3 := m3.old B9
      have m6 := m6.old B9
      have hR := hR.below B9
      have hM := hM.below B9
      refine F.sg rfl fun a F => ?_
      refine s_putW F rfl rfl (size_wide wide27) m10 rfl hry.one fun w12 m10 o13 => ?_
      have so13 := o13.size
      have hK := hK.only o13 (by omega)
      have hQ := hQ.only o13 (by omega)
      have mm := mm.only o13 (by omega)
      have m3 := m3.only o13 (by omega)
      have m6 := m6.only o13 (by omega)
      have hR := hR.only o13 (by omega)
      have hM := hM.only o13 (by first | (intro h; have h2 := h.2; omega) | (intro h; rcases h.1 with h1 | h1; (have := hA _ h1; omega); (have := h.2; omega)) | (intro h; rcases h.1 with h1 | h1; (have := h1.2; omega); (have := h.2; omega)) | (intro h; rcases h.1 with h1 | h1; (exact hAS _ h1.1 rfl); (have := h.2; omega)) | (intro h; rcases h with h | h; (have := hA _ h; omega); omega) | (intro h; have := hA _ h; omega) | (intro h; rcases h with h | h; (have := h.2; omega); omega) | exact Ar.nbr | exact Ai.nbr | exact Ar.no (by omega) | exact Ai.no (by omega))
      refine s_end (K12 _ _ ?_)
      refine dk2_one (br) (bm) (ops := regOps Try.f60 8) (N := 12) (by kernel_rfl) wide_orders (by kernel_rfl) fun w14 hw14 B15 hS K13 hK13 => ?_
      have zw14 : w14.heap.size = w12.heap.size := by rw [hw14]
      have sB15 := B15.size
      have hK := hK.below B15
      have hQ := hQ.below B15
      have mm := mm.old B15
      have m3 := m3.old B15
      have m6 := m6.old B15
      have m10 := m10.old B15
      have hR := hR.below B15
      have hM := hM.below B15
      have hR_d := hR
      have mm_d := mm
      have m3_d := m3
      have m6_d := m6
      have hM_d := hM
      have m10_d := m10
      have hK_d := hK
      have hQ_d := hQ
      refine F.dv 0 26 (.move (.tmp 7)) hS (fun W hW => x_move rfl) fun a F => F.dv 1 27 (.move (.tmp 9)) hS (fun W hW => x_move rfl) fun a F => F.dv 2 28 (.load 27 (.tmp 10)) hS (fun W hW => x_ldW wide27 (m10_d.k2 hW (by omega)) rfl rfl) fun a F => F.dv 3 29 (.move (.tmp 1)) hS (fun W hW => x_move rfl) fun a F => F.dv 4 30 (.load 27 (.tmp 3)) hS (fun W hW => x_ldW wide27 (m3_d.k2 hW (by omega)) rfl rfl) fun a F => F.dv 5 31 (.move (.tmp 9)) hS (fun W hW => x_move rfl) fun a F => F.dv 8 34 (.move (.tmp 2)) hS (fun W hW => x_move rfl) fun a F => ?_
      refine d1 6 (some 32) (.call (.mk (.value (.func 101)) #[(.tmp 30), (.tmp 31)] #[27, 3])) fun ty pos af => ?_
      refine s_callB [_, _] F E101 rfl (by decide) (binds112 c x A i wl w14 hx (by omega)) fun w16 a B17 F => ?_
      have sB17 := B17.size
      have hK := hK.below B17
      have hQ := hQ.below B17
      have mm := mm.old B17
      have m3 := m3.old B17
      have m6 := m6.old B17
      have hS := hS.below B17
      have hR := hR.below B17
      have hM := hM.below B17
      refine s_end ⟨hS, ?_⟩
      refine F.dv 7 33 (.binOp .add 3 (.tmp 29) (.tmp 32) 3) hS (fun W hW => x_add (by omega) (by omega) rfl rfl) fun a F => ?_
      refine d1 9 (some 35) (.call (.mk (.value (.func 60)) #[(.tmp 28), (.tmp 33), (.tmp 34)] #[27, 3, 87])) fun ty pos af => ?_
      refine s_call (R := fun u w' => ((∃ y, u = tv y ∧ RE w' (AS A w16.heap.size) (kd.fold G (d + c.bnd i)) y ∧ Tt kd y) ∧ Room w' br) ∧ Ktw br br w16 w') F [_, _, _] E60 rfl (by decide) (ih kd y (d + c.bnd i) w16 (by omega) hry (hPc _ _ _ hPx hyk) (by omega) (by omega) hK hR) ?_
      rintro _ w18 a ⟨⟨⟨z35, rfl, hz35, _⟩, hR⟩, k19⟩ F
      have sk19 := k19.size
      have hK := hK.trans k19 (by omega)
      have hQ := hQ.trans k19 (by omega)
      have mm := mm.k2 k19 (by omega)
      have m3 := m3.k2 k19 (by omega)
      have m6 := m6.k2 k19 (by omega)
      have hS := hS.trans k19 (by omega)
      have hM := hM.k2 k19 (by first | (intro h; have h2 := h.2; omega) | (intro h; rcases h.1 with h1 | h1; (have := hA _ h1; omega); (have := h.2; omega)) | (intro h; rcases h.1 with h1 | h1; (have := h1.2; omega); (have := h.2; omega)) | (intro h; rcases h.1 with h1 | h1; (exact hAS _ h1.1 rfl); (have := h.2; omega)) | (intro h; rcases h with h | h; (have := hA _ h; omega); omega) | (intro h; have := hA _ h; omega) | (intro h; rcases h with h | h; (have := h.2; omega); omega) | exact Ar.nbr | exact Ai.nbr | exact Ar.no (by omega) | exact Ai.no (by omega)) (by first | (intro h; have h2 := h.2; omega) | (intro h; rcases h.1 with h1 | h1; (have := hA _ h1; omega); (have := h.2; omega)) | (intro h; rcases h.1 with h1 | h1; (have := h1.2; omega); (have := h.2; omega)) | (intro h; rcases h.1 with h1 | h1; (exact hAS _ h1.1 rfl); (have := h.2; omega)) | (intro h; rcases h with h | h; (have := hA _ h; omega); omega) | (intro h; have := hA _ h; omega) | (intro h; rcases h with h | h; (have := h.2; omega); omega) | exact Ar.nbr | exact Ai.nbr | exact Ar.no (by omega) | exact Ai.no (by omega))
      have hz35 := hz35.mono (AS.mono (s' := bm + 1) (by omega))
      refine s_end ⟨hS, ?_⟩
      refine F.dv 10 36 (.indexAddr 25 (.tmp 26) (.tmp 27)) hS (fun W hW => x_ixa rfl rfl (m_ixsK i Try.underlying25 el25.size rfl (by omega))) fun a F => ?_
      refine d1 11 none (.store 27 (.tmp 36) (.tmp 35)) fun ty pos af => ?_
      refine s_putP F rfl rfl (size_wide wide27) mm (by rw [hl]; simp only [tc_len]; omega) hz35.one fun w40 mm o40 => ?_
      have so40 := o40.size
      have hK := hK.only o40 (by omega)
      have hQ := hQ.only o40 (by omega)
      have m3 := m3.only o40 (by omega)
      have m6 := m6.only o40 (by omega)
      have hS := hS.only o40 (by omega)
      have hR := hR.only o40 (by omega)
      have hM := hM.only o40 (by first | (intro h; have h2 := h.2; omega) | (intro h; rcases h.1 with h1 | h1; (have := hA _ h1; omega); (have := h.2; omega)) | (intro h; rcases h.1 with h1 | h1; (have := h1.2; omega); (have := h.2; omega)) | (intro h; rcases h.1 with h1 | h1; (exact hAS _ h1.1 rfl); (have := h.2; omega)) | (intro h; rcases h with h | h; (have := hA _ h; omega); omega) | (intro h; have := hA _ h; omega) | (intro h; rcases h with h | h; (have := h.2; omega); omega) | exact Ar.nbr | exact Ai.nbr | exact Ar.no (by omega) | exact Ai.no (by omega))
      have hz35 := hz35.only o40 (by first | (intro h; have h2 := h.2; omega) | (intro h; rcases h.1 with h1 | h1; (have := hA _ h1; omega); (have := h.2; omega)) | (intro h; rcases h.1 with h1 | h1; (have := h1.2; omega); (have := h.2; omega)) | (intro h; rcases h.1 with h1 | h1; (exact hAS _ h1.1 rfl); (have := h.2; omega)) | (intro h; rcases h with h | h; (have := hA _ h; omega); omega) | (intro h; have := hA _ h; omega) | (intro h; rcases h with h | h; (have := h.2; omega); omega) | exact Ar.nbr | exact Ai.nbr | exact Ar.no (by omega) | exact Ai.no (by omega))
      refine s_end ⟨hS, ?_⟩
      refine d_end (by kernel_rfl) (hK13 _ _ ?_)
      refine K11 _ _ ?_
      refine wp_region_lit ?_
      refine F.vl (x_add (by omega) (by omega) rfl rfl) fun a F => F.mv rfl fun a F => ?_
      refine s_end (hK' _ _ (by omega) ⟨_, by rw [put_len (by rw [hl]; simp only [tc_len]; omega), hl], mm, by rw [htk]; exact (hM.mono fun k h => h.1).snoc hz35 (by rw [hti]; omega) (by rw [hti, hl]; omega), hR, m3, m6, hK, hQ, F.sub _ rfl⟩)
    · obtain rfl : i = c.kids.length := by omega
      rw [List.take_of_length_le (by rw [CT.folds_len]; exact Nat.le_refl _)] at hM
      have hkv : RKE w (AS A (b6 + 1)) _ (c.folds G d) := (hM.mono fun k h => h.1).rke mm (by rw [hl, CT.folds_len]) (AS.mono (by omega)) (.inr (by omega)) (CT.folds_len G c d).symm
      refine wp_exit (K3 _ _ ?_)
      refine wp_rs fun _ K14 => F.mv rfl fun a F => F.vl (x_ldW wide27 m3 rfl rfl) fun a F => F.mv rfl fun a F => F.mv rfl fun a F => ?_
      refine s_callC (R := fun v w' => ((∃ y, v = tv y ∧ RE w' (AS A (b6 + 1)) (G c d (c.folds G d)) y ∧ Tt c y) ∧ Room w' br) ∧ Ktw br br w w') F [_, _, _] rfl hg rfl (by decide) (HJ _ c x d _ _ _ hK hR hx (by omega) (by omega) (by omega) (by omega) hkv (CT.folds_len G c d) hPx) ?_
      rintro _ w42 a ⟨⟨⟨y42, rfl, hy42, hT42⟩, hR⟩, k42⟩ F
      have sk42 := k42.size
      have hQ := hQ.trans k42 (by omega)
      have m6 := m6.k2 k42 (by omega)
      refine s_putW F rfl rfl (size_wide wide27) m6 rfl hy42.one fun w22 m6 o23 => ?_
      have so23 := o23.size
      have hQ := hQ.only o23 (by omega)
      have hR := hR.only o23 (by omega)
      have hy42 := hy42.only o23 (by first | (intro h; have h2 := h.2; omega) | (intro h; rcases h.1 with h1 | h1; (have := hA _ h1; omega); (have := h.2; omega)) | (intro h; rcases h.1 with h1 | h1; (have := h1.2; omega); (have := h.2; omega)) | (intro h; rcases h.1 with h1 | h1; (exact hAS _ h1.1 rfl); (have := h.2; omega)) | (intro h; rcases h with h | h; (have := hA _ h; omega); omega) | (intro h; have := hA _ h; omega) | (intro h; rcases h with h | h; (have := h.2; omega); omega) | exact Ar.nbr | exact Ai.nbr | exact Ar.no (by omega) | exact Ai.no (by omega))
      refine s_end (K14 _ _ ?_)
      refine wp_ret (res_cell F rfl rfl m6 wide27 ⟨_, rfl, ⟨⟨y42, rfl, by rw [CT.fold_eq]; exact hy42.mono (AS.mono (by omega)), hT42⟩, hR⟩, hQ⟩)
  · have hkv : RKE w6 (AS A (b6 + 1)) nilS (c.folds G d) := by have e0 : c.folds G d = [] := List.eq_nil_of_length_eq_zero (by rw [CT.folds_len]; omega); rw [e0]; exact RKE.nil w6 _
    refine wp_rs fun _ K15 => F.mv rfl fun a F => F.vl (x_len Try.underlying25 rfl) fun a F => F.vl (gtrF (by omega) rfl rfl) fun a F => ?_
    refine s_end (K15 _ _ ?_)
    refine wp_if F rfl ?_
    refine wp_skip (K3 _ _ ?_)
    refine wp_rs fun _ K16 => F.mv rfl fun a F => F.vl (x_ldW wide27 m3 rfl rfl) fun a F => F.mv rfl fun a F => F.mv rfl fun a F => ?_
    refine s_callC (R := fun v w' => ((∃ y, v = tv y ∧ RE w' (AS A (b6 + 1)) (G c d (c.folds G d)) y ∧ Tt c y) ∧ Room w' br) ∧ Ktw br br w6 w') F [_, _, _] rfl hg rfl (by decide) (HJ _ c x d _ _ _ hK hR hx (by omega) (by omega) (by omega) (by omega) hkv (CT.folds_len G c d) hPx) ?_
    rintro _ w42 a ⟨⟨⟨y42, rfl, hy42, hT42⟩, hR⟩, k42⟩ F
    have sk42 := k42.size
    have hQ := hQ.trans k42 (by omega)
    have m6 := m6.k2 k42 (by omega)
    refine s_putW F rfl rfl (size_wide wide27) m6 rfl hy42.one fun w26 m6 o27 => ?_
    have so27 := o27.size
    have hQ := hQ.only o27 (by omega)
    have hR := hR.only o27 (by omega)
    have hy42 := hy42.only o27 (by first | (intro h; have h2 := h.2; omega) | (intro h; rcases h.1 with h1 | h1; (have := hA _ h1; omega); (have := h.2; omega)) | (intro h; rcases h.1 with h1 | h1; (have := h1.2; omega); (have := h.2; omega)) | (intro h; rcases h.1 with h1 | h1; (exact hAS _ h1.1 rfl); (have := h.2; omega)) | (intro h; rcases h with h | h; (have := hA _ h; omega); omega) | (intro h; have := hA _ h; omega) | (intro h; rcases h with h | h; (have := h.2; omega); omega) | exact Ar.nbr | exact Ai.nbr | exact Ar.no (by omega) | exact Ai.no (by omega))
    refine s_end (K16 _ _ ?_)
    refine wp_ret (res_cell F rfl rfl m6 wide27 ⟨_, rfl, ⟨⟨y42, rfl, by rw [CT.fold_eq]; exact hy42.mono (AS.mono (by omega)), hT42⟩, hR⟩, hQ⟩)
end Go.Proofs.Ytmkjhdiepkpdoaa

namespace Go.Proofs.Ytmkjhdiepkpdoaa
set_option maxRecDepth 100000
set_option maxHeartbeats 1600000
open Go.RowKit Go.Shelf
set_option linter.unusedVariables false
set_option linter.unusedSimpArgs false
def enc2 (p : Int × Int) : List Value := [.int .i64 p.1, .int .i64 p.2]
def enc1 (z : Int) : List Value := [.int .i64 z]
theorem fold119 (wl : World) (g : FuncId) (lb : List Value) (hg : Enters Try.prog g) (D : Int) (hD : D ≤ 4611686018427387904) (Sz : Nat) (G : CT → Int → List (Int × Int) → (Int × Int)) (gv : Value) (hgv : gv = .func (.func g) #[] lb.toArray)
    (HJ : ∀ (W : World) (c : CT) (x : C8) (d : Int) (kv : Value), Below wl.heap.size wl W → RC wl (fun k => k < wl.heap.size) c x → c.size ≤ Sz → 0 ≤ d → d + c.dep ≤ D → Rd W kv 2 c.kids.length ((c.folds G d).flatMap enc2) →
      Calls Try.prog g ([tv x, .int .i64 d, kv] ++ lb).toArray W fun e w' => e = .returned (.agg (enc2 (G c d (c.folds G d))).toArray) ∧ Below W.heap.size W w') :
    ∀ (N : Nat) (c : CT) (x : C8) (d : Int) (W : World), c.size < N → c.size ≤ Sz → RC wl (fun k => k < wl.heap.size) c x → 0 ≤ d → d + c.dep ≤ D → Below wl.heap.size wl W →
      Calls Try.prog 92 #[tv x, .int .i64 d, gv] W fun e w' => e = .returned (.agg (enc2 (c.fold G d)).toArray) ∧ Below W.heap.size W w' := by
  subst hgv
  intro N
  induction N with
  | zero => intro c x d W h; omega
  | succ N ih =>
  intro c x d W hN hSz hx hd0 hdD hK
  have h3 := c.kids_le
  have hdp := c.dep_pos
  have hB := Below.refl W.heap.size W
  have sB := hB.size
  have sK := hK.size
  refine calls_fs 43 [(0, tv x), (1, .int .i64 d), (2, .func (.func g) #[] lb.toArray)] Try.func92 rfl rfl rfl rfl rfl fun a F => ?_
  refine wp_rs fun _ K1 => ?_
  refine s_box (tc x) F (by decide) rfl rfl fun w2 b3 a eb3 m3 B3 zb3 F => ?_
  have sB3 := B3.size
  have hK := bt hK B3
  have hB := bt hB B3
  refine s_alloc F (by decide) zero93 fun w4 b6 a eb6 m6 B5 zb6 F => ?_
  have sB5 := B5.size
  have hK := bt hK B5
  have hB := bt hB B5
  have m3 := m3.old B5
  refine s_end (K1 _ _ ?_)
  refine wp_rs fun _ K2 => F.sg rfl fun a F => ?_
  refine s_end (K2 _ _ ?_)
  refine wp_seq_k fun _ K3 => ?_
  refine wp_rs fun _ K4 => F.vl (x_ldW wide27 m3 rfl rfl) fun a F => ?_
  refine s_callR (R := fun v w' => RK wl (fun k => k < wl.heap.size) v c.kids) [_] F E84 rfl (by decide) (kidsOf101 c x (fun k => k < wl.heap.size) wl w4 hx) ?_
  rintro v12 w6 a hv12 B7 F
  have sB7 := B7.size
  have hK := bt hK B7
  have hB := bt hB B7
  have m3 := m3.old B7
  have m6 := m6.old B7
  obtain ⟨a12, c12, hve, _⟩ := hv12.form
  subst hve
  refine F.sg rfl fun a F => ?_
  refine s_end (K4 _ _ ?_)
  rcases (show 0 < c.kids.length ∨ c.kids.length = 0 by omega) with hk | hk
  · skip
    refine wp_rs fun _ K6 => F.mv rfl fun a F => F.vl (x_len Try.underlying25 rfl) fun a F => F.vl (gtrT (by omega) rfl rfl) fun a F => ?_
    refine s_end (K6 _ _ ?_)
    refine wp_if F rfl ?_
    refine wp_rs fun _ K7 => F.mv rfl fun a F => F.vl (x_len Try.underlying25 rfl) fun a F => ?_
    refine s_mkG c.kids.length el122 F (by decide) rfl rfl (by omega) (by omega) rfl rfl fun w18 bm a cs18 eb18 hl18 mm B18 z18 F => ?_
    have sB18 := B18.size
    have hK := bt hK B18
    have hB := bt hB B18
    have m3 := m3.old B18
    have m6 := m6.old B18
    refine F.sg rfl fun a F => ?_
    refine s_end (K7 _ _ ?_)
    refine wp_rs fun _ K8 => F.mv rfl fun a F => F.vl (x_len Try.underlying25 rfl) fun a F => F.mv rfl fun a F => ?_
    refine s_end (K8 _ _ ?_)
    refine wp_block ?_
    refine wp_up c.kids.length (fun i a w => ∃ cs, cs.length = c.kids.length * 2 ∧ Blk w bm 78 cs ∧ cs.take (i * 2) = ((c.folds G d).take i).flatMap enc2 ∧ Blk w b3 27 (tc x) ∧ Blk w b6 78 [.int .i64 0, .int .i64 0] ∧ Below wl.heap.size wl w ∧ Below W.heap.size W w ∧ Fs 43 a [(1, .int .i64 d), (2, .func (.func g) #[] lb.toArray), (3, .pointer (some ⟨b3, 0, none⟩)), (6, .pointer (some ⟨b6, 0, none⟩)), (7, .slice (some ⟨bm, 0, none⟩) c.kids.length c.kids.length), (19, .slice a12 c.kids.length c12), (20, .int .i64 (c.kids.length : Int)), (21, .int .i64 (i : Int))]) ⟨cs18, hl18, mm, by simp, m3, m6, hK, hB, F.sub _ rfl⟩ ?_
    clear F mm m3 m6 hK hB
    rintro i a w hi ⟨cs, hl, mm, hM, m3, m6, hK, hB, F⟩ K' hK'
    have sK := hK.size
    have sB := hB.size
    have hbmw := mm.lt
    have hb3w := m3.lt
    have hb6w := m6.lt
    refine wp_rs fun _ K9 => F.vl (x_lss (b := decide (i < c.kids.length)) (decide_eq_decide.2 (by omega)) rfl rfl) fun a F => ?_
    refine s_end (K9 _ _ ?_)
    refine wp_seq_k fun _ K10 => ?_
    refine wp_iff F rfl (fun hc22 => ?_) (fun hc22 => ?_)
    · obtain ⟨b9, off9, c9, y, kd, hve, hyk, hry, hAb, hbl, hrow⟩ := hv12.row (i := i) (by omega)
      cases hve
      have hks := CT.kid_size hyk
      have hbd := c.bnd_is i
      have htk := take_snoc (CT.folds_get G (d := d) hyk)
      have hti : ((c.folds G d).take i).length = i := by rw [List.length_take, CT.folds_len]; omega
      refine wp_skip (K10 _ _ ?_)
      refine wp_seq_k fun _ K11 => ?_
      refine wp_block ?_
      refine wp_rs fun _ K12 => F.mv rfl fun a F => F.vl (x_ixa rfl rfl (m_ixsK i Try.underlying25 el25.size rfl (by omega))) fun a F => F.vl (x_ldA wide27 (hrow _ (hK.block _ hbl)) rfl rfl) fun a F => ?_
      refine s_alloc F (by decide) zero27 fun w8 b10 a eb10 m10 B9 zb10 F => ?_
      have sB9 := B9.size
      have hK := bt hK B9
      have hB := bt hB B9
      have mm := mm.old B9
      have m3 := m3.old B9
      have m6 := m6.old B9
      refine F.sg rfl fun a F => ?_
      refine s_putW F rfl rfl (size_wide wide27) m10 rfl hry.one fun w12 m10 o13 => ?_
      have so13 := o13.size
      have hK := hK.trans (o13.below (by omega))
      have hB := hB.trans (o13.below (by omega))
      have mm := mm.only o13 (by omega)
      have m3 := m3.only o13 (by omega)
      have m6 := m6.only o13 (by omega)
      refine s_end (K12 _ _ ?_)
      refine dk2_one (bm) (bm) (ops := regOps Try.f92 8) (N := 12) (by kernel_rfl) wide_orders (by kernel_rfl) fun w14 hw14 B15 hS K13 hK13 => ?_
      have zw14 : w14.heap.size = w12.heap.size := by rw [hw14]
      have sB15 := B15.size
      have hK := bt hK B15
      have hB := bt hB B15
      have mm := mm.old B15
      have m3 := m3.old B15
      have m6 := m6.old B15
      have m10 := m10.old B15
      have mm_d := mm
      have m3_d := m3
      have m6_d := m6
      have m10_d := m10
      have hK_d := hK
      have hB_d := hB
      refine F.dv 0 26 (.move (.tmp 7)) hS (fun W hW => x_move rfl) fun a F => F.dv 1 27 (.move (.tmp 9)) hS (fun W hW => x_move rfl) fun a F => F.dv 2 28 (.load 27 (.tmp 10)) hS (fun W hW => x_ldW wide27 (m10_d.k2 hW (by omega)) rfl rfl) fun a F => F.dv 3 29 (.move (.tmp 1)) hS (fun W hW => x_move rfl) fun a F => F.dv 4 30 (.load 27 (.tmp 3)) hS (fun W hW => x_ldW wide27 (m3_d.k2 hW (by omega)) rfl rfl) fun a F => F.dv 5 31 (.move (.tmp 9)) hS (fun W hW => x_move rfl) fun a F => F.dv 8 34 (.move (.tmp 2)) hS (fun W hW => x_move rfl) fun a F => ?_
      refine d1 6 (some 32) (.call (.mk (.value (.func 101)) #[(.tmp 30), (.tmp 31)] #[27, 3])) fun ty pos af => ?_
      refine s_callB [_, _] F E101 rfl (by decide) (binds112 c x (fun k => k < wl.heap.size) i wl w14 hx (by omega)) fun w16 a B17 F => ?_
      have sB17 := B17.size
      have hK := bt hK B17
      have hB := bt hB B17
      have mm := mm.old B17
      have m3 := m3.old B17
      have m6 := m6.old B17
      have hS := hS.below B17
      refine s_end ⟨hS, ?_⟩
      refine F.dv 7 33 (.binOp .add 3 (.tmp 29) (.tmp 32) 3) hS (fun W hW => x_add (by omega) (by omega) rfl rfl) fun a F => ?_
      refine d1 9 (some 35) (.call (.mk (.value (.func 92)) #[(.tmp 28), (.tmp 33), (.tmp 34)] #[27, 3, 113])) fun ty pos af => ?_
      refine s_callB [_, _, _] F E92 rfl (by decide) (ih kd y (d + c.bnd i) w16 (by omega) (by omega) hry (by omega) (by omega) hK) fun w18 a B19 F => ?_
      have sB19 := B19.size
      have hK := bt hK B19
      have hB := bt hB B19
      have mm := mm.old B19
      have m3 := m3.old B19
      have m6 := m6.old B19
      have hS := hS.below B19
      refine s_end ⟨hS, ?_⟩
      refine F.dv 10 36 (.indexAddr 111 (.tmp 26) (.tmp 27)) hS (fun W hW => x_ixa rfl rfl (m_ixsK i Try.underlying111 el122.size rfl (by omega))) fun a F => ?_
      refine d1 11 none (.store 78 (.tmp 36) (.tmp 35)) fun ty pos af => ?_
      refine s_putP (vs := enc2 _) F rfl rfl (size_wide wide93) mm (by rw [hl]; simp only [enc2, List.length_cons, List.length_nil]; omega) (oneII _ _) fun w40 mm o40 => ?_
      have so40 := o40.size
      have hK := hK.trans (o40.below (by omega))
      have hB := hB.trans (o40.below (by omega))
      have m3 := m3.only o40 (by omega)
      have m6 := m6.only o40 (by omega)
      have hS := hS.only o40 (by omega)
      refine s_end ⟨hS, ?_⟩
      refine d_end (by kernel_rfl) (hK13 _ _ ?_)
      refine K11 _ _ ?_
      refine wp_region_lit ?_
      refine F.vl (x_add (by omega) (by omega) rfl rfl) fun a F => F.mv rfl fun a F => ?_
      refine s_end (hK' _ _ (by omega) ⟨_, by rw [put_len (by rw [hl]; simp only [enc2, List.length_cons, List.length_nil]; omega), hl], mm, by rw [htk, List.flatMap_append, ← hM, show (i + 1) * 2 = (0 + i * 2) + (enc2 (kd.fold G (d + c.bnd i))).length by simp only [enc2, List.length_cons, List.length_nil]; omega, take_put (by rw [hl]; omega), Nat.zero_add]; simp, m3, m6, hK, hB, F.sub _ rfl⟩)
    · obtain rfl : i = c.kids.length := by omega
      rw [List.take_of_length_le (by rw [hl]; exact Nat.le_refl _), List.take_of_length_le (by rw [CT.folds_len]; exact Nat.le_refl _)] at hM
      have hkv : Rd w (.slice (some ⟨bm, 0, none⟩) c.kids.length c.kids.length) 2 c.kids.length ((c.folds G d).flatMap enc2) := by rw [← hM]; exact Rd.blk mm hl
      refine wp_exit (K3 _ _ ?_)
      refine wp_rs fun _ K14 => F.mv rfl fun a F => F.vl (x_ldW wide27 m3 rfl rfl) fun a F => F.mv rfl fun a F => F.mv rfl fun a F => ?_
      refine s_callC (R := fun v w' => v = .agg (enc2 (G c d (c.folds G d))).toArray ∧ Below w.heap.size w w') F [_, _, _] rfl hg rfl (by decide) ((HJ _ c x d _ hK hx hSz (by omega) (by omega) hkv).mono fun e w' h => ⟨_, h.1, rfl, h.2⟩) ?_
      rintro _ w42 a ⟨rfl, B42⟩ F
      have sB42 := B42.size
      have hB := bt hB B42
      have m6 := m6.old B42
      refine s_putW F rfl rfl (size_wide wide93) m6 rfl (oneII _ _) fun w22 m6 o23 => ?_
      have so23 := o23.size
      have hB := hB.trans (o23.below (by omega))
      refine s_end (K14 _ _ ?_)
      refine wp_ret (res_cell (cs := enc2 _) F rfl rfl m6 wide93 ⟨by rw [CT.fold_eq], hB⟩)
  · have hkv : Rd w6 nilS 2 c.kids.length ((c.folds G d).flatMap enc2) := by have e0 : c.folds G d = [] := List.eq_nil_of_length_eq_zero (by rw [CT.folds_len]; omega); rw [e0, hk]; exact Rd.nil w6 2
    refine wp_rs fun _ K15 => F.mv rfl fun a F => F.vl (x_len Try.underlying25 rfl) fun a F => F.vl (gtrF (by omega) rfl rfl) fun a F => ?_
    refine s_end (K15 _ _ ?_)
    refine wp_if F rfl ?_
    refine wp_skip (K3 _ _ ?_)
    refine wp_rs fun _ K16 => F.mv rfl fun a F => F.vl (x_ldW wide27 m3 rfl rfl) fun a F => F.mv rfl fun a F => F.mv rfl fun a F => ?_
    refine s_callC (R := fun v w' => v = .agg (enc2 (G c d (c.folds G d))).toArray ∧ Below w6.heap.size w6 w') F [_, _, _] rfl hg rfl (by decide) ((HJ _ c x d _ hK hx hSz (by omega) (by omega) hkv).mono fun e w' h => ⟨_, h.1, rfl, h.2⟩) ?_
    rintro _ w42 a ⟨rfl, B42⟩ F
    have sB42 := B42.size
    have hB := bt hB B42
    have m6 := m6.old B42
    refine s_putW F rfl rfl (size_wide wide93) m6 rfl (oneII _ _) fun w26 m6 o27 => ?_
    have so27 := o27.size
    have hB := hB.trans (o27.below (by omega))
    refine s_end (K16 _ _ ?_)
    refine wp_ret (res_cell (cs := enc2 _) F rfl rfl m6 wide93 ⟨by rw [CT.fold_eq], hB⟩)
end Go.Proofs.Ytmkjhdiepkpdoaa
