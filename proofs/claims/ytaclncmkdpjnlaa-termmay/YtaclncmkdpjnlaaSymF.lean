/- Function values, closures, yields, and loops over functions, in Sym's walk. No program is named here. -/
import Derived.Test.YtaclncmkdpjnlaaSymT
import Derived.RangeFuncNested
import Derived.RangeFuncBound
import Derived.RangeFuncCalls
import Derived.RangeFuncLeaves
import Derived.TacticsInMore
namespace Go.Proofs.Ytaclncmkdpjnlaa
open Go.RowKit Go.Shelf
set_option linter.unusedVariables false
set_option linter.unusedSimpArgs false

/-- Of what lay, no block below lo and none from hi on has turned. -/
structure Mid (lo hi : Nat) (w w' : World) : Prop where
  os : w'.os = w.os
  tape : w'.tape = w.tape
  output : w'.output = w.output
  size : w.heap.size ≤ w'.heap.size
  block : ∀ k, k < w.heap.size → (k < lo ∨ hi ≤ k) → w'.heap[k]? = w.heap[k]?
section
variable {lo hi : Nat} {w w' w'' : World}
theorem Mid.refl (lo hi : Nat) (w : World) : Mid lo hi w w := ⟨rfl, rfl, rfl, Nat.le_refl _, fun _ _ _ => rfl⟩
theorem Mid.trans (h : Mid lo hi w w') (k : Mid lo hi w' w'') : Mid lo hi w w'' :=
  ⟨k.os.trans h.os, k.tape.trans h.tape, k.output.trans h.output, Nat.le_trans h.size k.size, fun i hi hn => (k.block i (Nat.lt_of_lt_of_le hi h.size) hn).trans (h.block i hi hn)⟩
theorem Mid.mono {lo' hi' : Nat} (h : Mid lo hi w w') (h1 : lo' ≤ lo) (h2 : hi ≤ hi') : Mid lo' hi' w w' := ⟨h.os, h.tape, h.output, h.size, fun i hi hn => h.block i hi (by omega)⟩
theorem Mid.of_below {B : Nat} (h : Below B w w') (hB : lo ≤ B) (hs : w.heap.size ≤ hi) : Mid lo hi w w' := ⟨h.os, h.tape, h.output, h.size, fun i hi hn => h.block i (by omega)⟩
theorem Mid.of_old (h : Below w.heap.size w w') : Mid lo hi w w' := ⟨h.os, h.tape, h.output, h.size, fun i hi hn => h.block i hi⟩
theorem Mid.below (h : Mid lo hi w w') (hl : lo ≤ w.heap.size) : Below lo w w' := ⟨h.os, h.tape, h.output, h.size, fun i hi => h.block i (by omega) (.inl hi)⟩
/-- Behind a step of one's own, in a block that did not lie. -/
theorem Mid.only {b : Nat} (h : Mid lo hi w w') (o : Only b w' w'') (hb : (lo ≤ b ∧ b < hi) ∨ w.heap.size ≤ b) : Mid lo hi w w'' :=
  ⟨o.os.trans h.os, o.tape.trans h.tape, o.output.trans h.output, by rw [o.size]; exact h.size, fun i hi hn => (o.block i (by omega)).trans (h.block i hi hn)⟩
theorem Mid.old (h : Mid lo hi w w') (o : Below w'.heap.size w' w'') : Mid lo hi w w'' := h.trans (Mid.of_old o)
theorem Blk.mid {b t : Nat} {cs : List Value} (m : Blk w b t cs) (h : Mid lo hi w w') (hb : b < lo ∨ hi ≤ b) : Blk w' b t cs := (h.block b m.lt hb).trans m
end

/-! ### Operations -/
section
variable {P : Program} {n d : Nat} {l : List (Nat × Value)} {w : World}
/-- A closure. -/
theorem x_mkf {f : FuncId} {xs : List Operand} (vals : List Value) (hx : xs.map (ov l) = vals.map some) : Runs P n l w (.makeFunc (.func f) #[] xs.toArray) (.func (.func f) #[] vals.toArray) := fun ds a hF o ho => by
  have hv : xs.toArray.map a.eval = vals.toArray := by
    rw [← ov_args hF xs vals hx]
    simp
  simp [execOp, ho, hv, Instr.makeFunc]
end

section
variable {P : Program} {n d : Nat} {l : List (Nat × Value)} {w : World} {a : Act} {ops : Array Oper} {Q : Exit → Act → World → Prop} {rest : List Oper} {ty : TypeId} {pos : String} {af : Array Edge} {ds : List Deferred}
theorem run_callV (hF : Fs n a l (ds := ds)) {g : Operand} {fn : Fn} {lb : Array Value} {xs : List Operand} {ts : Array TypeId} {vals : List Value} (hg : ov l g = some (.func fn #[] lb)) (hargs : xs.map (ov l) = vals.map some) (o : Oper) (ho : o.op = .call { callee := .value g, args := xs.toArray, argTypes := ts }) :
    (execOp a.eval o).run P w = (invoke (.fn fn lb) vals.toArray).run P w := by
  have hv : xs.toArray.map a.eval = vals.toArray := by
    rw [← ov_args hF xs vals hargs]
    simp
  obtain ⟨dst, op, type, pos, after, guard⟩ := o
  simp only at ho
  subst ho
  have h1 : execOp a.eval { dst, op := .call { callee := .value g, args := xs.toArray, argTypes := ts }, type, pos, after, guard } =
    (do let d ← Deferred.ofValue (a.eval g) (xs.toArray.map a.eval); invoke d.target d.args) := rfl
  rw [h1, hF.ov hg, hv]
  have h2 : Deferred.ofValue (.func fn #[] lb) vals.toArray = pure { target := .fn fn lb, args := #[] ++ vals.toArray } := rfl
  rw [h2]
  simp only [Sem.run_bind, Sem.run_pure, Result.andThen, Array.empty_append]
/-- A call of a closure. -/
theorem s_callC (hF : Fs n a l (ds := ds)) {g : Operand} {f : FuncId} {lb : List Value} {xs : List Operand} {ts : Array TypeId} (vals : List Value) {R : Value → World → Prop} (hg : ov l g = some (.func (.func f) #[] lb.toArray)) (hent : Enters P f) (hargs : xs.map (ov l) = vals.map some) (hd : d < n)
    (hC : Calls P f (vals ++ lb).toArray w fun e w' => ∃ v, e = .returned v ∧ R v w')
    (h : ∀ v w' a', R v w' → Fs n a' ((d, v) :: l) (ds := ds) → wpList P ops Q rest a' w') : wpList P ops Q (⟨some d, .call { callee := .value g, args := xs.toArray, argTypes := ts }, ty, pos, af, none⟩ :: rest) a w := by
  unfold wpList
  rw [if_pos (wanted_none _ rfl _)]
  refine .inl ?_
  unfold Oper.wp
  rw [run_callV hF hg hargs _ rfl]
  have := hent (vals.toArray ++ lb.toArray) w
  simp only [invoke] at this ⊢
  rw [this]
  rw [List.append_toArray]
  refine Calls.mono hC ?_
  rintro e w' ⟨v, rfl, hR⟩
  exact h v w' _ hR (hF.put d hd v)
end

/-- The fence that lets everything in, in a round or not. -/
def Fw (r : Option Nat) : Fence := { fn := fun _ => True, depth := none, alive := false, round := r }
def noDefer (o : Oper) : Bool := match o.op with | .defer _ => false | _ => true
theorem callsIn_Fw {r : Option Nat} {m : Nat} {P : Program} {f : FuncId} {args : Array Value} {w : World} {R : Ending → World → Prop} (h : Calls P f args w R) : CallsIn (Fw r) m P f args w R := (callsIn_wide (n := m)).2 h

/-- A walk of a list holds within a round, too. -/
theorem listIn {r : Option Nat} {m : Nat} {P : Program} {ops : Array Oper} {Q : Exit → Act → World → Prop} (hQ : ∀ c a w, ¬ Q (.panic c) a w) (hO : ∀ a w, ¬ Q .outgrown a w) : ∀ (l : List Oper) (a : Act) (w : World), (l.all noDefer) = true → wpList P ops Q l a w → wpListIn (Fw r) m P ops Q l a w
  | [], a, w, _, h => h
  | o :: rest, a, w, hn, h => by
    simp only [List.all_cons, Bool.and_eq_true] at hn
    obtain ⟨hn1, hn2⟩ := hn
    have hnd : ∀ c, o.op ≠ .defer c := by
      intro c e
      simp [noDefer, e] at hn1
    unfold wpList at h
    unfold wpListIn
    split
    · next hw =>
      rw [if_pos hw] at h
      rcases h with h | ⟨_, a', w', h⟩
      · refine ⟨fun _ _ => trivial, ?_⟩
        rw [Oper.semAt_eq _ _ _ hnd]
        unfold Oper.wp at h
        cases hr : (execOp a.eval o).run P w with
        | ok x w' =>
          rw [hr] at h
          cases x with
          | value v => exact listIn hQ hO rest _ _ hn2 h
          | skip => exact listIn hQ hO rest _ _ hn2 h
          | defer d => exact listIn hQ hO rest _ _ hn2 h
          | enter f args =>
            refine ⟨fun h => absurd h (by simp [Fw]), callsIn_Fw (h.mono ?_)⟩
            intro e w'' he
            cases e with
            | returned v => exact listIn hQ hO rest _ _ hn2 he
            | panicked c => exact he
            | outgrown => exact he
          | row nm args =>
            refine ⟨fun h => absurd h (by simp [Fw]), ?_⟩
            exact fun c cs _ => let ⟨v, w', q, st⟩ := Rows.mono h (fun v w'' he => listIn hQ hO rest _ _ hn2 he) c cs; ⟨v, w', q, stepsIn_wide.2 st⟩
          | _ => exact (h : False).elim
        | halt x w' =>
          rw [hr] at h
          cases x with
          | panic v => exact h
          | _ => exact (h : False).elim
      · exact absurd h (hO _ _)
    · next hw =>
      rw [if_neg hw] at h
      exact ⟨fun _ _ => trivial, listIn hQ hO rest _ _ hn2 h⟩

/-! ### Code, in a round or not -/
section
variable {r : Option Nat} {m : Nat} {P : Program} {Q : Exit → Act → World → Prop} {a : Act} {w : World} {x y : Code} {n : Nat} {l : List (Nat × Value)} {ds : List Deferred}
/-- A way out that is a panic, or none at all, is not asked for. -/
structure Calm (Q : Exit → Act → World → Prop) : Prop where
  panic : ∀ c a w, ¬ Q (.panic c) a w
  outgrown : ∀ a w, ¬ Q .outgrown a w
theorem Calm.then (h : Calm Q) (K : Act → World → Prop) : Calm (Exit.then K Q) := ⟨h.panic, h.outgrown⟩
theorem Calm.block (h : Calm Q) (id : Nat) : Calm (Exit.inBlock id Q) := ⟨h.panic, h.outgrown⟩
theorem wpI_rs {id : Nat} {l : List Oper} (hQ : Calm Q) (hn : (l.all noDefer) = true) (h : ∀ K : Act → World → Prop, (∀ a w, y.wpIn (Fw r) m P Q a w → K a w) → wpList P l.toArray (Exit.then K Q) l a w) : (Code.seq (.region id l.toArray false) y).wpIn (Fw r) m P Q a w :=
  wpIn_seq_k fun K hK => wpIn_region_lit (listIn (hQ.then K).panic (hQ.then K).outgrown _ _ _ hn (h K hK))
theorem wpI_r {id : Nat} {l : List Oper} (hQ : Calm Q) (hn : (l.all noDefer) = true) (h : wpList P l.toArray Q l a w) : (Code.region id l.toArray false).wpIn (Fw r) m P Q a w :=
  wpIn_region_lit (listIn hQ.panic hQ.outgrown _ _ _ hn h)
theorem wpI_if {c : Operand} {b : Bool} (hF : Fs n a l (ds := ds)) (hc : ov l c = some (.bool b)) (h : (bif b then x else y).wpIn (Fw r) m P Q a w) : (Code.cond c x y).wpIn (Fw r) m P Q a w := by
  refine wpIn_cond (hF.ov hc) ?_
  cases b <;> exact h
theorem wpI_iff {c : Operand} {p : Prop} [Decidable p] (hF : Fs n a l (ds := ds)) (hc : ov l c = some (.bool (decide p))) (h1 : p → x.wpIn (Fw r) m P Q a w) (h2 : ¬ p → y.wpIn (Fw r) m P Q a w) : (Code.cond c x y).wpIn (Fw r) m P Q a w := by
  refine wpIn_cond (hF.ov hc) ?_
  by_cases hp : p
  · simpa [hp] using h1 hp
  · simpa [hp] using h2 hp
/-- A region that is walked within the fence. -/
theorem wp_rsI {id : Nat} {l : List Oper} (h : ∀ K : Act → World → Prop, (∀ a w, y.wp P Q a w → K a w) → wpListIn (Fw none) 0 P l.toArray (Exit.then K Q) l a w) : (Code.seq (.region id l.toArray false) y).wp P Q a w :=
  wp_seq_k fun K hK => (wpIn_wide (n := 0)).1 (wpIn_region_lit (h K hK))
end

/-! ### Yields -/
section
variable {P : Program} {n d : Nat} {l : List (Nat × Value)} {w : World} {a : Act} {ops : Array Oper} {Q : Exit → Act → World → Prop} {rest : List Oper} {ty : TypeId} {pos : String} {af : Array Edge} {ds : List Deferred} {op : Op} {v : Value} {r : Option Nat} {m : Nat}
theorem roundIn_wide' {n m : Nat} {P : Program} {l : Nat} {f : FuncId} {tmps : Array Value} {assign body : Code} {w : World} {R : Ending → World → Prop}
    (h : RoundIn Fence.wide n P l f tmps assign body w R) : RoundIn Fence.wide m P l f tmps assign body w R :=
  ⟨h.1, fun c cs _ => h.2 c cs (room_wide _)⟩
theorem i_val (hF : Fs n a l (ds := ds)) (hr : Runs P n l w op v) (hnd : noDefer ⟨some d, op, ty, pos, af, none⟩ = true) (hd : d < n) (h : ∀ a', Fs n a' ((d, v) :: l) (ds := ds) → wpListIn (Fw r) m P ops Q rest a' w) : wpListIn (Fw r) m P ops Q (⟨some d, op, ty, pos, af, none⟩ :: rest) a w := by
  unfold wpListIn
  rw [if_pos (wanted_none _ rfl _)]
  refine ⟨fun _ _ => trivial, ?_⟩
  rw [Oper.semAt_eq _ _ _ (by intro c e; simp only at e; subst e; cases hnd), hr _ a hF _ rfl]
  exact h _ (hF.put d hd v)
/-- The yield of a loop is called. -/
theorem i_yield (hF : Fs n a l (ds := ds)) {g : Operand} {L : Nat} {xs : List Operand} {ts : Array TypeId} (vals : List Value) {R : Value → World → Prop} (hg : ov l g = some (.func (.yield L) #[] #[])) (hargs : xs.map (ov l) = vals.map some) (hd : d < n)
    (hC : YieldAt Fence.wide 0 P L vals.toArray w fun e w' => ∃ v, e = .returned v ∧ R v w')
    (h : ∀ v w' a', R v w' → Fs n a' ((d, v) :: l) (ds := ds) → wpListIn (Fw r) m P ops Q rest a' w') : wpListIn (Fw r) m P ops Q (⟨some d, .call { callee := .value g, args := xs.toArray, argTypes := ts }, ty, pos, af, none⟩ :: rest) a w := by
  unfold wpListIn
  rw [if_pos (wanted_none _ rfl _)]
  refine ⟨fun _ _ => trivial, ?_⟩
  rw [Oper.semAt_eq _ _ _ (by intro c; simp), run_callV hF hg hargs _ rfl]
  obtain ⟨fn, tmps, assign, body, hy, hc⟩ := hC
  have hrun : (invoke (.fn (.yield L) #[]) vals.toArray).run P w = .ok (.round L fn tmps assign body) w := hy
  rw [hrun]
  refine ⟨fun h => absurd h (by simp [Fw]), ?_⟩
  refine RoundIn.mono (F := Fence.wide) (roundIn_wide' hc) ?_
  rintro e w' ⟨v, rfl, hR⟩
  exact h v w' _ hR (hF.put d hd v)
theorem i_end (h : Q .normal a w) : wpListIn (Fw r) m P ops Q [] a w := h
end

/-! ### 'for .. := range f' -/
/-- THE FUNCTION g (with what it holds, lb) HANDS evs ON, one by one, till it is told no. -/
def Hands (P : Program) (g : FuncId) (lb : Array Value) (lo hi : Nat) (w0 : World) (S : World → Prop) {E : Type} (Bd : E → Prop) (enc : E → List Value → Prop) (evs : List E) : Prop :=
  ∀ (L : Nat) (J Jx : List E → World → Prop), (∀ p W W', J p W → Below hi W W' → J p W') → (∀ p W W', Jx p W → Below hi W W' → Jx p W') → (∀ p e W, J (p ++ [e]) W → Bd e) →
    (∀ p e rest W vs, evs = p ++ e :: rest → enc e vs → J p W → hi ≤ W.heap.size → Below lo w0 W → YieldAt Fence.wide 0 P L vs.toArray W fun en W' => Mid lo hi W W' ∧ ((en = .returned (.bool true) ∧ J (p ++ [e]) W') ∨ (en = .returned (.bool false) ∧ Jx (p ++ [e]) W'))) →
    ∀ W, S W → J [] W → hi ≤ W.heap.size → Below lo w0 W → Calls P g (#[.func (.yield L) #[] #[]] ++ lb) W fun en W' => (∃ v, en = .returned v) ∧ Mid lo hi W W' ∧ (J evs W' ∨ ∃ p, p <+: evs ∧ Jx p W')

theorem only_putObj {l : Nat} {w : World} (o : Obj) : Only l w (w.putObj l o) := ⟨rfl, rfl, rfl, by simp, fun k hk => World.putObj_heap_other hk⟩

/-- How a round's body may be left. -/
def rndPost {E : Type} (lo hi : Nat) (I : List E → World → Prop) (Ix : Code → List E → World → Prop) (q : List E) (W : World) : Exit → Act → World → Prop
  | .normal, _, W' => Mid lo hi W W' ∧ I q W'
  | .ret, _, W' => Mid lo hi W W' ∧ Ix .ret q W'
  | .exit id, _, W' => Mid lo hi W W' ∧ Ix (.exit id) q W'
  | .goto t, _, W' => Mid lo hi W W' ∧ Ix (.goto t) q W'
  | .panic _, _, _ => False
  | .outgrown, _, _ => False
theorem rndPost.calm {E : Type} {lo hi : Nat} {I : List E → World → Prop} {Ix : Code → List E → World → Prop} {q : List E} {W : World} : Calm (rndPost lo hi I Ix q W) := ⟨fun _ _ _ h => h, fun _ _ h => h⟩
theorem false.calm : Calm (fun _ _ _ => False) := ⟨fun _ _ _ h => h, fun _ _ h => h⟩

theorem fold_put {n : Nat} {a : Act} {l : List (Nat × Value)} {ds : List Deferred} (hF : Fs n a l (ds := ds)) : ∀ (ps : List Nat) (vs : List Value), (∀ p ∈ ps, p < n) →
    Fs n { tmps := (ps.zip vs).foldl (fun t (p : Nat × Value) => t.setIfInBounds p.1 p.2) a.tmps, defers := [] } ((ps.zip vs).reverse ++ l) := by
  intro ps
  suffices H : ∀ (ps : List Nat) (vs : List Value) (a : Act) (l : List (Nat × Value)), Fs n a l → (∀ p ∈ ps, p < n) →
      Fs n { tmps := (ps.zip vs).foldl (fun t (p : Nat × Value) => t.setIfInBounds p.1 p.2) a.tmps, defers := [] } ((ps.zip vs).reverse ++ l) from
    fun vs hp => H ps vs { tmps := a.tmps, defers := [] } l ⟨hF.size, rfl, hF.slot⟩ hp
  intro ps
  induction ps with
  | nil => intro vs a l hF _; exact ⟨hF.size, rfl, hF.slot⟩
  | cons p ps ih =>
    intro vs a l hF hp
    cases vs with
    | nil => exact ⟨hF.size, rfl, hF.slot⟩
    | cons v vs =>
      have h1 := hF.put p (hp p (by simp)) v
      have h2 := ih vs _ _ h1 (fun q hq => hp q (by simp [hq]))
      simp only [List.zip_cons_cons, List.foldl_cons, List.reverse_cons, List.append_assoc, List.singleton_append]
      exact h2

/-- **'for p, .. := range g { .. }'**, outside every other such loop. -/
theorem wp_range {E : Type} {P : Program} {n : Nat} {g : Operand} {ps : List Nat} {assign body : Code} {Q : Exit → Act → World → Prop} {a : Act} {w w0 : World} {l : List (Nat × Value)}
    {gf : FuncId} {lb : Array Value} {enc : E → List Value → Prop} {evs : List E} (hF : Fs n a l) (hg : ov l g = some (.func (.func gf) #[] lb)) (hent : Enters P gf)
    (hi : Nat) (hhi : hi = w.heap.size) (h0w : Below w0.heap.size w0 w) {S : World → Prop} {Bd : E → Prop} (hH : Hands P gf lb w0.heap.size (w.heap.size + 2) w0 S Bd enc evs) (hS : ∀ W', Below w.heap.size w W' → S W') (hps : ∀ p ∈ ps, p < n) (hlen : ∀ e vs, enc e vs → vs.length = ps.length)
    (I : List E → World → Prop) (Ix : Code → List E → World → Prop) (hI : ∀ p W W', I p W → Below w.heap.size W W' → I p W') (hIx : ∀ c p W W', Ix c p W → Below w.heap.size W W' → Ix c p W') (hBd : ∀ p e W, I (p ++ [e]) W → Bd e) (h0 : I [] w)
    (round : ∀ (L : Nat) p e rest W a₁ vs, L = w.heap.size + 1 → evs = p ++ e :: rest → enc e vs → I p W → w.heap.size + 2 ≤ W.heap.size → Below w0.heap.size w0 W → Fs n a₁ ((ps.zip vs).reverse ++ l) →
      ∀ K : Act → World → Prop, (∀ a₂ W₂, Mid w0.heap.size w.heap.size W W₂ → (∀ W₃, Only L W₂ W₃ → body.wpIn (Fw (some L)) 0 P (rndPost w0.heap.size w.heap.size I Ix (p ++ [e]) W₃) a₂ W₃) → K a₂ W₂) →
      assign.wpIn (Fw (some L)) 0 P (Exit.then K (fun _ _ _ => False)) a₁ W)
    (done : ∀ a' W, I evs W → Mid w0.heap.size (w.heap.size + 2) w W → W.heap[w.heap.size]? = some (.deferred (some [])) → Fs n a' l (ds := [{ target := .collected w.heap.size, args := #[] }]) → Q .normal a' W)
    (stop : ∀ a' c p W, p <+: evs → Ix c p W → Mid w0.heap.size (w.heap.size + 2) w W → W.heap[w.heap.size]? = some (.deferred (some [])) → Fs n a' l (ds := [{ target := .collected w.heap.size, args := #[] }]) → c.wp P Q a' W) :
    (Code.rangeFunc g ps.toArray assign body).wp P Q a w := by
  refine (wpIn_wide (n := 0)).1 (wpIn_rangeFunc ?_)
  intro fn hfn
  obtain ⟨rec, hrec⟩ : ∃ rec : LoopState → Option Code → Loop, rec = fun st pe => { state := st, pending := pe, fn, tmps := a.tmps, params := ps.toArray, assign, body, defers := w.heap.size } := ⟨_, rfl⟩
  obtain ⟨W1, hW1⟩ : ∃ W1, (w.alloc (.deferred (some []))).alloc (.loop (rec .ready none)) = W1 := ⟨_, rfl⟩
  have hL1 : W1.heap[w.heap.size + 1]? = some (.loop (rec .ready none)) := by
    rw [← hW1]; have := World.alloc_heap_new (w.alloc (.deferred (some []))) (.loop (rec .ready none)); rwa [World.size_alloc] at this
  have hK1 : W1.heap[w.heap.size]? = some (.deferred (some [])) := by
    rw [← hW1]; exact (Below.heap_alloc _ _ _ (by simp)).trans (World.alloc_heap_new w _)
  have hsz : W1.heap.size = w.heap.size + 2 := by rw [← hW1]; simp
  have hB1 : Below w.heap.size w W1 := by rw [← hW1]; exact ((Below.refl _ _).alloc (Nat.le_refl _) _).alloc (by simp) _
  have hlo : w0.heap.size ≤ w.heap.size := h0w.size
  -- what holds between rounds
  let J : List E → World → Prop := fun p W => I p W ∧ W.heap[w.heap.size + 1]? = some (.loop (rec .ready none)) ∧ W.heap[w.heap.size]? = some (.deferred (some []))
  let Jx : List E → World → Prop := fun p W => ∃ c, Ix c p W ∧ W.heap[w.heap.size + 1]? = some (.loop (rec .done (some c))) ∧ W.heap[w.heap.size]? = some (.deferred (some []))
  have hJ : ∀ p W W', J p W → Below (w.heap.size + 2) W W' → J p W' := fun p W W' h hB => ⟨hI p W W' h.1 (hB.mono (by omega)), (hB.block _ (by omega)).trans h.2.1, (hB.block _ (by omega)).trans h.2.2⟩
  have hJx : ∀ p W W', Jx p W → Below (w.heap.size + 2) W W' → Jx p W' := fun p W W' ⟨c, h⟩ hB => ⟨c, hIx c p W W' h.1 (hB.mono (by omega)), (hB.block _ (by omega)).trans h.2.1, (hB.block _ (by omega)).trans h.2.2⟩
  have hc := hH (w.heap.size + 1) J Jx hJ hJx (fun p e W h => hBd p e W h.1) (by
    rintro p e rest W vs he hvs ⟨hi1, hl1, hd1⟩ hWs hW0
    have hlt : w.heap.size + 1 < W.heap.size := by omega
    have hy := run_yield (P := P) (args := vs.toArray) hl1 (by rw [hrec]; simp [hlen e vs hvs])
    rw [hrec] at hy
    refine ⟨fn, _, assign, body, hy, roundIn_wide' (n := 0) (roundIn_of_wpIn trivial ?_)⟩
    have hFa := fold_put hF ps vs hps
    have hz : (ps.toArray.zip vs.toArray) = (ps.zip vs).toArray := by simp
    rw [hz]
    simp only [List.foldl_toArray]
    refine round (w.heap.size + 1) p e rest W _ vs rfl he hvs hi1 hWs hW0 hFa _ ?_
    intro a₂ W₂ hM hb
    have hl2 : W₂.heap[w.heap.size + 1]? = some (.loop (rec .ready none)) := (hM.block _ (by omega) (.inr (by omega))).trans hl1
    have hd2 : W₂.heap[w.heap.size]? = some (.deferred (some [])) := (hM.block _ (by omega) (.inr (by omega))).trans hd1
    have hlt2 : w.heap.size + 1 < W₂.heap.size := Nat.lt_of_lt_of_le hlt hM.size
    refine ⟨_, run_beginRound hl2 (by rw [hrec]), ?_⟩
    have ho3 := only_putObj (l := w.heap.size + 1) (w := W₂) (.loop { rec .ready none with state := .busy })
    have hl3 : (W₂.putObj (w.heap.size + 1) (.loop { rec .ready none with state := .busy })).heap[w.heap.size + 1]? = some (.loop { rec .ready none with state := .busy }) := World.putObj_heap_same hlt2
    refine wpIn_mono (hb _ ho3) ?_
    have fin : ∀ (jump : Option Code) (W4 : World), Mid w0.heap.size w.heap.size (W₂.putObj (w.heap.size + 1) (.loop { rec .ready none with state := .busy })) W4 →
        (Instr.endRound (w.heap.size + 1) jump).run P W4 = .ok (.bool jump.isNone) (W4.putObj (w.heap.size + 1) (.loop (rec (if jump.isNone then .ready else .done) jump))) ∧
        (W4.putObj (w.heap.size + 1) (.loop (rec (if jump.isNone then .ready else .done) jump))).heap[w.heap.size + 1]? = some (.loop (rec (if jump.isNone then .ready else .done) jump)) ∧
        (W4.putObj (w.heap.size + 1) (.loop (rec (if jump.isNone then .ready else .done) jump))).heap[w.heap.size]? = some (.deferred (some [])) ∧
        Mid w0.heap.size (w.heap.size + 2) W (W4.putObj (w.heap.size + 1) (.loop (rec (if jump.isNone then .ready else .done) jump))) := by
      intro jump W4 h4
      have hsz3 := ho3.size
      have hl4 := (h4.block (w.heap.size + 1) (by omega) (.inr (by omega))).trans hl3
      have hd4 := (h4.block w.heap.size (by omega) (.inr (by omega))).trans ((ho3.block w.heap.size (by omega)).trans hd2)
      have hr := run_endRound (P := P) jump hl4
      refine ⟨?_, World.putObj_heap_same (Array.getElem?_eq_some_iff.1 hl4).1, (World.putObj_heap_other (by omega)).trans hd4, ?_⟩
      · rw [hrec] at hr ⊢; exact hr
      · have m1 := hM.mono (lo' := w0.heap.size) (hi' := w.heap.size + 2) (Nat.le_refl _) (by omega)
        have m2 := m1.only ho3 (.inl ⟨by omega, by omega⟩)
        have m3 := m2.trans (h4.mono (lo' := w0.heap.size) (hi' := w.heap.size + 2) (Nat.le_refl _) (by omega))
        exact m3.only (only_putObj _) (.inl ⟨by omega, by omega⟩)
    have keepI : ∀ q W4 o, I q W4 → I q (W4.putObj (w.heap.size + 1) o) := fun q W4 o h => hI _ _ _ h ((only_putObj o).below (by omega))
    have keepIx : ∀ c q W4 o, Ix c q W4 → Ix c q (W4.putObj (w.heap.size + 1) o) := fun c q W4 o h => hIx _ _ _ _ h ((only_putObj o).below (by omega))
    rintro ex a3 W4 hp
    cases ex with
    | normal =>
      obtain ⟨h4, hi4⟩ := hp
      obtain ⟨hr, e1, e2, e3⟩ := fin none W4 h4
      exact ⟨_, _, hr, e3, .inl ⟨rfl, keepI _ _ _ hi4, e1, e2⟩⟩
    | ret =>
      obtain ⟨h4, hi4⟩ := hp
      obtain ⟨hr, e1, e2, e3⟩ := fin (some .ret) W4 h4
      exact ⟨_, _, hr, e3, .inr ⟨rfl, .ret, keepIx _ _ _ _ hi4, e1, e2⟩⟩
    | exit id =>
      obtain ⟨h4, hi4⟩ := hp
      obtain ⟨hr, e1, e2, e3⟩ := fin (some (.exit id)) W4 h4
      exact ⟨_, _, hr, e3, .inr ⟨rfl, .exit id, keepIx _ _ _ _ hi4, e1, e2⟩⟩
    | goto t =>
      obtain ⟨h4, hi4⟩ := hp
      obtain ⟨hr, e1, e2, e3⟩ := fin (some (.goto t)) W4 h4
      exact ⟨_, _, hr, e3, .inr ⟨rfl, .goto t, keepIx _ _ _ _ hi4, e1, e2⟩⟩
    | panic ch => exact hp.elim
    | outgrown => exact hp.elim) W1 (hS W1 hB1) ⟨hI _ _ _ h0 hB1, hL1, hK1⟩ (by omega) (h0w.trans (hB1.mono hlo))
  have hpost : ∀ en W2, ((∃ v, en = .returned v) ∧ Mid w0.heap.size (w.heap.size + 2) W1 W2 ∧ (J evs W2 ∨ ∃ p, p <+: evs ∧ Jx p W2)) →
      rangePost Fence.wide 0 P (w.heap.size + 1) Q { a with defers := [{ target := .collected w.heap.size, args := #[] }] ++ a.defers } en W2 := by
    rintro en W2 ⟨⟨v, rfl⟩, hM, hend⟩
    have hM0 : Mid w0.heap.size (w.heap.size + 2) w W2 := (Mid.of_below (hi := w.heap.size + 2) hB1 hlo (by omega)).trans hM
    have hFs : Fs n { a with defers := [{ target := .collected w.heap.size, args := #[] }] ++ a.defers } l (ds := [{ target := .collected w.heap.size, args := #[] }]) := ⟨hF.size, by simp [hF.defers], hF.slot⟩
    rcases hend with ⟨hi2, hl2, hd2⟩ | ⟨p, hp, c, hi2, hl2, hd2⟩
    · refine ⟨none, _, by have := run_endLoop (P := P) hl2 (by rw [hrec]; simp); rw [hrec] at this; exact this, ?_⟩
      exact done _ _ (hI _ _ _ hi2 ((only_putObj _).below (by omega))) (hM0.only (only_putObj _) (.inl ⟨by omega, by omega⟩)) ((World.putObj_heap_other (by omega)).trans hd2) hFs
    · refine ⟨some c, _, by have := run_endLoop (P := P) hl2 (by rw [hrec]; simp); rw [hrec] at this; exact this, ?_⟩
      exact (wpIn_wide (n := 0)).2 (stop _ c p _ hp (hIx _ _ _ _ hi2 ((only_putObj _).below (by omega))) (hM0.only (only_putObj _) (.inl ⟨by omega, by omega⟩)) ((World.putObj_heap_other (by omega)).trans hd2) hFs)
  refine ⟨w.heap.size + 1, [{ target := .collected w.heap.size, args := #[] }], W1, { target := .fn (.func gf) lb, args := #[.func (.yield (w.heap.size + 1)) #[] #[]] }, W1, gf,
    #[.func (.yield (w.heap.size + 1)) #[] #[]] ++ lb, W1, ?_, ?_, fun _ _ => trivial, ?_, (fun h => by simp [Fence.wide] at h), ?_⟩
  · rw [← hW1, hrec]; exact run_enterLoop_outer _ _ _ _ _
  · simp only [resolve, hF.ov hg]
    simp [go_sem]
  · simp [invoke, go_sem, hent _ _]
  · exact ((callsIn_wide (n := 0 - 1)).2 hc).mono hpost

/-! ### A function that holds such a loop -/
theorem calls_fsM {P : Program} {f : FuncId} {fn : Func} {c : Code} {w : World} {R : Ending → World → Prop} (n : Nat) (L : List (Nat × Value)) {vs : List Value}
    (hf : P.funcs[f]? = some fn) (hb : fn.body = some c) (hn : fn.ntmps = n) (hl : L.map (·.2) = vs) (hi : L.map (·.1) = List.range L.length) (hm : Nat.ble L.length n = true)
    (h : ∀ a, Fs n a L → c.wp P (bodyPostM Fence.wide 0 P fn R) a w) : Calls P f vs.toArray w R := by
  refine (callsIn_wide (n := 0)).1 (callsIn_of_wp_marks hf hb trivial ((wpIn_wide (n := 0)).2 (h _ ?_)) rfl)
  have hlen : vs.length = L.length := by rw [← hl]; simp
  have hm := Nat.le_of_ble_eq_true hm
  have hL : (vs.zipIdx 0 |>.map fun p => (p.2, p.1)) = L := by
    rw [← hl]
    apply List.ext_getElem?
    intro j
    simp only [List.getElem?_map, List.getElem?_zipIdx, Option.map_map]
    have := congrArg (·[j]?) hi
    simp only [List.getElem?_map] at this
    cases hj : L[j]? with
    | none => simp
    | some p =>
      have hlt : j < L.length := by
        rcases Nat.lt_or_ge j L.length with h | h
        · exact h
        · rw [List.getElem?_eq_none h] at hj; cases hj
      rw [hj, List.getElem?_range hlt] at this
      simp at this
      simp [← this]
  rw [hn]
  have := Fs.start vs (n - vs.length)
  rw [hL, show vs.length + (n - vs.length) = n by omega] at this
  simpa using this
section
variable {P : Program} {n : Nat} {l : List (Nat × Value)} {w : World} {a : Act} {fn : Func} {R : Ending → World → Prop}
/-- It returns, behind the loop. -/
theorem resM {D : Nat} {v : Value} (hF : Fs n a l (ds := [{ target := .collected D, args := #[] }])) (hD : w.heap[D]? = some (.deferred (some []))) (h : ∀ w', Only D w w' → (results fn a.tmps).run P w' = .ok v w' ∧ R (.returned v) w') : bodyPostM Fence.wide 0 P fn R .ret a w := by
  show LeavesInM Fence.wide 0 P fn a.tmps R a.defers .returning w
  rw [hF.defers]
  refine ⟨by simp, .inl ⟨_, _, rfl, run_takeDeferred hD, ?_⟩⟩
  exact ⟨v, h _ (only_putObj _)⟩
variable {ds : List Deferred}
theorem run_cell {t r b t0 : Nat} {cs : List Value} {v : Value} (hF : Fs n a l (ds := ds)) (hr : fn.results = #[.cell r t]) (hl : lk l r = some (.pointer (some ⟨b, 0, none⟩))) (hL : (Instr.loadAt t (.pointer (some ⟨b, 0, none⟩))).run P w = .ok v w) : (results fn a.tmps).run P w = .ok v w := by
  have h1 := hF.slot r _ hl
  simp [Instr.loadAt, Instr.sureAddr] at hL
  simp [results, hr, h1, asAddr, hL]
theorem run_cell2 {t r b t' r' b' : Nat} {v v' : Value} (hF : Fs n a l (ds := ds)) (hr : fn.results = #[.cell r t, .cell r' t']) (hl : lk l r = some (.pointer (some ⟨b, 0, none⟩))) (hl' : lk l r' = some (.pointer (some ⟨b', 0, none⟩))) (hL : (Instr.loadAt t (.pointer (some ⟨b, 0, none⟩))).run P w = .ok v w) (hL' : (Instr.loadAt t' (.pointer (some ⟨b', 0, none⟩))).run P w = .ok v' w) : (results fn a.tmps).run P w = .ok (.tuple #[v, v']) w := by
  have h1 := hF.slot r _ hl
  have h2 := hF.slot r' _ hl'
  simp [Instr.loadAt, Instr.sureAddr] at hL hL'
  simp [results, hr, h1, h2, asAddr, hL, hL']
end
end Go.Proofs.Ytaclncmkdpjnlaa
