/- Regions that draw their order, walked with the frame known by its slots alone. No program is named here. -/
import Derived.Deep.RegionHeld
import Derived.Shelf.Abstract
import Derived.WalkKit
import Derived.KernelRfl
namespace Go.Proofs.Ytikomlcghplchaa
open Go.RowKit Go.Shelf
set_option linter.unusedVariables false
set_option linter.unusedSimpArgs false

/-- The frame has n slots, defers nothing, and holds what the list says (the newest first). -/
structure Fr (n : Nat) (a : Act) (l : List (Nat × Value)) : Prop where
  size : a.tmps.size = n
  defers : a.defers = []
  slot : ∀ t u, l.lookup t = some u → a.tmps[t]? = some u

/-- What an operand holds, by what is known. -/
def ev (l : List (Nat × Value)) : Operand → Option Value
  | .tmp t => l.lookup t
  | .const v => some v
  | .func f => some (.func (.func f) #[] #[])
  | _ => none

theorem Fr.ev {n : Nat} {a : Act} {l : List (Nat × Value)} (h : Fr n a l) {x : Operand} {v : Value} (e : ev l x = some v) : a.eval x = v := by
  cases x with
  | tmp t =>
    have := h.slot t v e
    simp [Act.eval, this]
  | const u => simpa [Ytikomlcghplchaa.ev, Act.eval] using e
  | global g => cases e
  | func f => simpa [Ytikomlcghplchaa.ev, Act.eval] using e

theorem Fr.put {n : Nat} {a : Act} {l : List (Nat × Value)} (h : Fr n a l) (d : Nat) (hd : d < n) (v : Value) : Fr n (a.put (some d) v) ((d, v) :: l) := by
  refine ⟨by simp [Act.put, h.size], h.defers, fun t u e => ?_⟩
  simp only [List.lookup] at e
  split at e
  · next ht =>
    have ht : t = d := by simpa using ht
    cases e
    subst ht
    simp [Act.put, h.size, hd]
  · next ht =>
    have ht : t ≠ d := by simpa using ht
    simp only [Act.put]
    rw [Array.getElem?_setIfInBounds_ne (Ne.symm ht)]
    exact h.slot t u e

/-- An operation's slot, kind, guard. -/
def look (ops : Array Oper) (i : Nat) : Option (Option Tmp × Op × Option (Nat × Bool)) := (ops[i]?).map fun o => (o.dst, o.op, o.guard)

theorem look_some {ops : Array Oper} {i : Nat} {d : Option Tmp} {op : Op} {g : Option (Nat × Bool)} (h : look ops i = some (d, op, g)) : ∃ o, ops[i]? = some o ∧ o.dst = d ∧ o.op = op ∧ o.guard = g := by
  unfold look at h
  cases ho : ops[i]? with
  | none => rw [ho] at h; cases h
  | some o =>
    rw [ho] at h
    simp at h
    exact ⟨o, rfl, h.1, h.2.1, h.2.2⟩

/-- Is it wanted? By what is known of its guard. -/
def gw (ops : Array Oper) (l : List (Nat × Value)) : Option (Nat × Bool) → Option Bool
  | none => some true
  | some (j, want) => match (ops[j]?).bind (·.dst) with
    | some d => match l.lookup d with
      | some (.bool b) => some (b == want)
      | _ => none
    | none => none

theorem gw_wanted {n : Nat} {a : Act} {l : List (Nat × Value)} {ops : Array Oper} {o : Oper} {r : Bool} (h : Fr n a l) (hg : gw ops l o.guard = some r) : Region.wanted o (yielded ops a.tmps) = r := by
  unfold Region.wanted
  cases hgu : o.guard with
  | none => rw [hgu] at hg; simpa [gw] using hg
  | some p =>
    obtain ⟨j, want⟩ := p
    rw [hgu] at hg
    simp only [gw] at hg
    cases hd : (ops[j]?).bind (·.dst) with
    | none => rw [hd] at hg; cases hg
    | some d =>
      rw [hd] at hg
      simp only at hg
      cases hl : l.lookup d with
      | none => rw [hl] at hg; cases hg
      | some u =>
        rw [hl] at hg
        cases u <;> simp at hg
        rename_i b
        have := h.slot d _ hl
        simp [yielded, hd, this, ← hg]

/-- Which have come up, the newest first. -/
def lst (N : Nat) : List Nat → Array Bool
  | [] => Array.replicate N false
  | i :: d => (lst N d).setIfInBounds i true

def okTake (ops : Array Oper) (listed : Array Bool) (i : Nat) : Bool := Region.noSelect ops && Region.free .any ops listed i && (Region.ready .any ops listed).contains i

/-- Behind the region K holds; it does not end otherwise. -/
def QN (K : Act → World → Prop) : Exit → Act → World → Prop
  | .normal, a, w => K a w
  | _, _, _ => False

/-- A region's operations, out of a function's body. -/
def opsOf (k : Nat) : Code → Option (Array Oper)
  | .region id ops _ => if id = k then some ops else none
  | .seq a b => match opsOf k a with
    | some x => some x
    | none => opsOf k b
  | .cond _ a b => match opsOf k a with
    | some x => some x
    | none => opsOf k b
  | .block _ a => opsOf k a
  | .loop a => opsOf k a
  | .scope a => opsOf k a
  | .rangeFunc _ _ a b => match opsOf k a with
    | some x => some x
    | none => opsOf k b
  | _ => none
def regOps (f : Func) (k : Nat) : Array Oper := ((f.body.bind (opsOf k)).getD #[])

theorem Fr.sub {n : Nat} {a : Act} {l : List (Nat × Value)} (h : Fr n a l) (L : List (Nat × Value)) (e : L.map (fun p => l.lookup p.1) = L.map (fun p => some p.2)) : Fr n a L := by
  refine ⟨h.size, h.defers, fun t u ht => h.slot t u ?_⟩
  induction L with
  | nil => cases ht
  | cons p L ih =>
    obtain ⟨d, v⟩ := p
    simp only [List.map_cons, List.cons.injEq] at e
    simp only [List.lookup] at ht
    split at ht
    · next hd =>
      have hd : t = d := by simpa using hd
      cases ht
      subst hd
      exact e.1
    · exact ih e.2 ht

section
variable {P : Program} {ops : Array Oper} {K : Act → World → Prop} {S : World → Prop} {N n : Nat} {done : List Nat} {fuel : Nat} {a : Act} {w : World} {l : List (Nat × Value)}

theorem draw_start {id : Nat} {Q : Exit → Act → World → Prop} (hm : P.follows .mixedOrders = true) (hN : ops.size = N) (hK : ∀ a w, K a w → Q .normal a w)
    (h : wpAnyH P .any ops (QN K) S N (lst N []) a w.drew) : (Code.region id ops true).wp P Q a w := by
  subst hN
  refine Code.wp_mono (fun e a w h => ?_) (wp_region_held hm h)
  cases e <;> first | exact hK _ _ h | exact (h : False).elim

theorem draw_take {i d : Nat} {op : Op} {g : Option (Nat × Bool)} {v : Value} (hop : look ops i = some (some d, op, g)) (hok : okTake ops (lst N done) i = true) (hd : d < n) (hF : Fr n a l) (hg : gw ops l g = some true) (hS : S w)
    (hy : ∀ o : Oper, o.op = op → ∀ W, S W → (execOp a.eval o).run P W = .ok (.value v) W)
    (h : ∀ a', Fr n a' ((d, v) :: l) → wpAnyH P .any ops (QN K) S fuel (lst N (i :: done)) a' w) : wpAnyH P .any ops (QN K) S (fuel + 1) (lst N done) a w := by
  obtain ⟨o, ho, hdst, hopp, hgu⟩ := look_some hop
  simp only [okTake, Bool.and_eq_true] at hok
  refine wpAnyH_take ho hok.1.1 hok.1.2 hok.2 (fun _ _ _ h => h) (.inl ⟨gw_wanted hF (by rw [hgu]; exact hg), hy o hopp⟩) hS ?_
  rw [hdst]
  exact h _ (hF.put d hd v)

theorem draw_skip {i d : Nat} {op : Op} {g : Option (Nat × Bool)} (hop : look ops i = some (some d, op, g)) (hok : okTake ops (lst N done) i = true) (hd : d < n) (hF : Fr n a l) (hg : gw ops l g = some false) (hS : S w)
    (h : ∀ a', Fr n a' ((d, undef) :: l) → wpAnyH P .any ops (QN K) S fuel (lst N (i :: done)) a' w) : wpAnyH P .any ops (QN K) S (fuel + 1) (lst N done) a w := by
  obtain ⟨o, ho, hdst, hopp, hgu⟩ := look_some hop
  simp only [okTake, Bool.and_eq_true] at hok
  refine wpAnyH_take (v := undef) ho hok.1.1 hok.1.2 hok.2 (fun _ _ _ h => h) (.inr ⟨gw_wanted hF (by rw [hgu]; exact hg), rfl⟩) hS ?_
  rw [hdst]
  exact h _ (hF.put d hd _)

theorem take_move (i d : Nat) (x : Operand) (v : Value) {g : Option (Nat × Bool)} (hF : Fr n a l) (hS : S w) (hop : look ops i = some (some d, .move x, g)) (hok : okTake ops (lst N done) i = true) (hd : d < n) (hg : gw ops l g = some true) (hx : ev l x = some v)
    (h : ∀ a', Fr n a' ((d, v) :: l) → wpAnyH P .any ops (QN K) S fuel (lst N (i :: done)) a' w) : wpAnyH P .any ops (QN K) S (fuel + 1) (lst N done) a w :=
  draw_take hop hok hd hF hg hS (fun o ho W _ => by simp [execOp, ho, hF.ev hx]) h

theorem take_assign (i d : Nat) (x : Operand) (v : Value) {g : Option (Nat × Bool)} (hF : Fr n a l) (hS : S w) (hop : look ops i = some (some d, .assign x, g)) (hok : okTake ops (lst N done) i = true) (hd : d < n) (hg : gw ops l g = some true) (hx : ev l x = some v)
    (h : ∀ a', Fr n a' ((d, v) :: l) → wpAnyH P .any ops (QN K) S fuel (lst N (i :: done)) a' w) : wpAnyH P .any ops (QN K) S (fuel + 1) (lst N done) a w :=
  draw_take hop hok hd hF hg hS (fun o ho W _ => by simp [execOp, ho, hF.ev hx]) h

theorem take_pick (i d : Nat) (c x y : Operand) (b : Bool) (v : Value) {g : Option (Nat × Bool)} (hF : Fr n a l) (hS : S w) (hop : look ops i = some (some d, .pick c x y, g)) (hok : okTake ops (lst N done) i = true) (hd : d < n) (hg : gw ops l g = some true) (hc : ev l c = some (.bool b)) (hx : ev l (if b then x else y) = some v)
    (h : ∀ a', Fr n a' ((d, v) :: l) → wpAnyH P .any ops (QN K) S fuel (lst N (i :: done)) a' w) : wpAnyH P .any ops (QN K) S (fuel + 1) (lst N done) a w :=
  draw_take hop hok hd hF hg hS (fun o ho W _ => by
    have := hF.ev hx
    cases b <;> simp at this <;> simp [execOp, ho, hF.ev hc, asBool, this]) h

theorem take_bin (i d : Nat) (bop : BinOp) (t t' : TypeId) (x y : Operand) (u1 u2 v : Value) {g : Option (Nat × Bool)} (hF : Fr n a l) (hS : S w) (hop : look ops i = some (some d, .binOp bop t x y t', g)) (hok : okTake ops (lst N done) i = true) (hd : d < n) (hg : gw ops l g = some true) (hx : ev l x = some u1) (hy : ev l y = some u2)
    (hr : ∀ W, (eqGuard bop t x y u1 u2).run P W = .ok () W ∧ (binOp bop t u1 u2).run P W = .ok v W)
    (h : ∀ a', Fr n a' ((d, v) :: l) → wpAnyH P .any ops (QN K) S fuel (lst N (i :: done)) a' w) : wpAnyH P .any ops (QN K) S (fuel + 1) (lst N done) a w :=
  draw_take hop hok hd hF hg hS (fun o ho W _ => by simp [execOp, ho, hF.ev hx, hF.ev hy, (hr W).1, (hr W).2]) h

/-- What a comparison gives, its guard passed. -/
def Binds (P : Program) (bop : BinOp) (t : TypeId) (x y : Operand) (u1 u2 v : Value) : Prop := ∀ W, (eqGuard bop t x y u1 u2).run P W = .ok () W ∧ (binOp bop t u1 u2).run P W = .ok v W

theorem bin_int {bop : BinOp} {t : TypeId} {x y : Operand} {k : IntKind} {p q : Int} {v : Value} (hr : ∀ W, (binOp bop t (.int k p) (.int k q)).run P W = .ok v W) : Binds P bop t x y (.int k p) (.int k q) v :=
  fun W => ⟨by cases bop <;> simp [eqGuard], hr W⟩
theorem eql_int {t : TypeId} {x y : Operand} {k : IntKind} {p q : Int} {b : Bool} (h : (p == q) = b) : Binds P .eql t x y (.int k p) (.int k q) (.bool b) := by
  subst h
  exact bin_int fun W => by simp [binOp, Op.intCmp]
theorem neq_int {t : TypeId} {x y : Operand} {k : IntKind} {p q : Int} {b : Bool} (h : (p != q) = b) : Binds P .neq t x y (.int k p) (.int k q) (.bool b) := by
  subst h
  exact bin_int fun W => by simp [binOp, Op.intCmp]
theorem geq_int {t : TypeId} {x y : Operand} {k : IntKind} {p q : Int} {b : Bool} (h : decide (q ≤ p) = b) : Binds P .geq t x y (.int k p) (.int k q) (.bool b) := by
  subst h
  exact bin_int fun W => by simp [binOp, Op.intCmp]
theorem leq_int {t : TypeId} {x y : Operand} {k : IntKind} {p q : Int} {b : Bool} (h : decide (p ≤ q) = b) : Binds P .leq t x y (.int k p) (.int k q) (.bool b) := by
  subst h
  exact bin_int fun W => by simp [binOp, Op.intCmp]
theorem eql_str {t : TypeId} {x y : Operand} {p q : ByteArray} (h : p = q) : Binds P .eql t x y (.string p) (.string q) (.bool true) := by
  subst h
  exact fun W => ⟨by simp [eqGuard], by simp [binOp, Op.stringOp]⟩
theorem run_equalIn_bool (w : World) (d : Nat) (t : TypeId) (h : P.underlying t = some .bool) (p q : Bool) : (Op.equalIn (d + 1) t (.bool p) (.bool q)).run P w = .ok (p == q) w := by simp [Op.equalIn, run_underlying h]
theorem eql_bool {t : TypeId} {x y : Operand} {p q b : Bool} (ht : P.underlying t = some .bool) (h : (p == q) = b) : Binds P .eql t x y (.bool p) (.bool q) (.bool b) := by
  subst h
  exact fun W => ⟨by simp [eqGuard], by simp only [binOp]; simp [Op.equal, Op.maxDepth, run_equalIn_bool W 9999 t ht]⟩

/-- 'string(b)', in every world that meets S. -/
theorem take_conv (i d : Nat) (src dst : TypeId) (x : Operand) (u v : Value) {g : Option (Nat × Bool)} (hF : Fr n a l) (hS : S w) (hop : look ops i = some (some d, .convert src dst x, g)) (hok : okTake ops (lst N done) i = true) (hd : d < n) (hg : gw ops l g = some true) (hx : ev l x = some u)
    (hr : ∀ W, S W → (convert src dst u).run P W = .ok v W)
    (h : ∀ a', Fr n a' ((d, v) :: l) → wpAnyH P .any ops (QN K) S fuel (lst N (i :: done)) a' w) : wpAnyH P .any ops (QN K) S (fuel + 1) (lst N done) a w :=
  draw_take hop hok hd hF hg hS (fun o ho W hSW => by simp [execOp, ho, hF.ev hx, hr W hSW]) h

/-- A load that tells the same in every world that meets S. -/
theorem take_load (i d : Nat) (ty : TypeId) (x : Operand) (u v : Value) {g : Option (Nat × Bool)} (hF : Fr n a l) (hS : S w) (hop : look ops i = some (some d, .load ty x, g)) (hok : okTake ops (lst N done) i = true) (hd : d < n) (hg : gw ops l g = some true) (hx : ev l x = some u)
    (hr : ∀ W, S W → (Instr.loadAt ty u).run P W = .ok v W)
    (h : ∀ a', Fr n a' ((d, v) :: l) → wpAnyH P .any ops (QN K) S fuel (lst N (i :: done)) a' w) : wpAnyH P .any ops (QN K) S (fuel + 1) (lst N done) a w :=
  draw_take hop hok hd hF hg hS (fun o ho W hSW => by simp [execOp, ho, hF.ev hx, hr W hSW]) h

theorem take_len (i d : Nat) (ty : TypeId) (x : Operand) (ad : Option Addr) (m c : Nat) {e : TypeId} (ht : P.underlying ty = some (.slice e)) {g : Option (Nat × Bool)} (hF : Fr n a l) (hS : S w) (hop : look ops i = some (some d, .call { callee := .builtin .len, args := #[x], argTypes := #[ty] }, g)) (hok : okTake ops (lst N done) i = true) (hd : d < n) (hg : gw ops l g = some true) (hx : ev l x = some (.slice ad m c))
    (h : ∀ a', Fr n a' ((d, .int .i64 (m : Int)) :: l) → wpAnyH P .any ops (QN K) S fuel (lst N (i :: done)) a' w) : wpAnyH P .any ops (QN K) S (fuel + 1) (lst N done) a w :=
  draw_take hop hok hd hF hg hS (fun o ho W hSW => by
    simp [execOp, ho, resolve, invoke, builtin, hF.ev hx]
    go_simp) h

theorem draw_only {i : Nat} (hr : Region.ready .any ops (lst N done) = [i]) (h : wpOp P ops (QN K) i (fun a' w' => S w' ∧ wpAnyH P .any ops (QN K) S fuel (lst N (i :: done)) a' w') a w) : wpAnyH P .any ops (QN K) S (fuel + 1) (lst N done) a w :=
  wpAnyH_all hr (by simp) (fun j hj => by simp at hj; subst hj; exact h)

theorem draw_either {i j : Nat} (hr : Region.ready .any ops (lst N done) = [i, j]) (h1 : wpOp P ops (QN K) i (fun a' w' => S w' ∧ wpAnyH P .any ops (QN K) S fuel (lst N (i :: done)) a' w') a w) (h2 : wpOp P ops (QN K) j (fun a' w' => S w' ∧ wpAnyH P .any ops (QN K) S fuel (lst N (j :: done)) a' w') a w) :
    wpAnyH P .any ops (QN K) S (fuel + 1) (lst N done) a w :=
  wpAnyH_all hr (by simp) (fun m hm => by
    simp at hm
    rcases hm with rfl | rfl
    · exact h1
    · exact h2)

theorem step_of {i d : Nat} {op : Op} {g : Option (Nat × Bool)} {R : Act → World → Prop} (hop : look ops i = some (some d, op, g)) (hF : Fr n a l) (hg : gw ops l g = some true) (h : ∀ o : Oper, o.op = op → o.dst = some d → Oper.wp P o a w R (QN K)) : wpOp P ops (QN K) i R a w := by
  obtain ⟨o, ho, hdst, hopp, hgu⟩ := look_some hop
  unfold wpOp
  simp only [ho]
  rw [if_pos (gw_wanted hF (by rw [hgu]; exact hg))]
  exact .inl (h o hopp hdst)

theorem step_call (i d f : Nat) (xs : Array Operand) {ts : Array TypeId} (vals : List Value) {g : Option (Nat × Bool)} {R : Act → World → Prop} (hF : Fr n a l) (hop : look ops i = some (some d, .call { callee := .value (.func f), args := xs, argTypes := ts }, g)) (hd : d < n) (hg : gw ops l g = some true)
    (hargs : xs.toList.map (ev l) = vals.map some) (hent : Enters P f)
    (hC : Calls P f vals.toArray w fun e w' => ∃ v, e = .returned v ∧ ∀ a', Fr n a' ((d, v) :: l) → R a' w') : wpOp P ops (QN K) i R a w := by
  refine step_of hop hF hg fun o ho hdst => ?_
  have hv : xs.map a.eval = vals.toArray := by
    apply Array.ext'
    simp only [Array.toList_map]
    clear hop hC
    generalize xs.toList = ys at hargs
    induction ys generalizing vals with
    | nil =>
      cases vals with
      | nil => rfl
      | cons v vs => simp at hargs
    | cons y ys ih =>
      cases vals with
      | nil => simp at hargs
      | cons v vs =>
        simp only [List.map_cons, List.cons.injEq] at hargs
        simp only [List.map_cons, hF.ev hargs.1]
        congr 1
        exact ih vs hargs.2
  have hrun : (execOp a.eval o).run P w = .ok (.enter f vals.toArray) w := by
    have := hent vals.toArray w
    simp [execOp, ho, resolve, Deferred.ofValue, invoke, Act.eval, hv, this]
  unfold Oper.wp
  rw [hrun]
  refine Calls.mono hC ?_
  rintro e w' ⟨v, rfl, h⟩
  show R (a.put o.dst v) w'
  rw [hdst]
  exact h _ (hF.put d hd v)

theorem draw_relist {done' : List Nat} {fuel' : Nat} (h : lst N done = lst N done') (hf : fuel = fuel') (k : wpAnyH P .any ops (QN K) S fuel' (lst N done') a w) : wpAnyH P .any ops (QN K) S fuel (lst N done) a w := by
  rw [h, hf]; exact k

theorem draw_done (hr : Region.ready .any ops (lst N done) = []) (h : K a w) : wpAnyH P .any ops (QN K) S fuel (lst N done) a w := wpAnyH_done hr h _

/-- The region as the walk meets it, its operations out of the function's body. -/
theorem draw_as {id : Nat} {ops' : Array Oper} {Q : Exit → Act → World → Prop} (h : ops' = ops) (k : (Code.region id ops true).wp P Q a w) : (Code.region id ops' true).wp P Q a w := by
  rw [h]; exact k

theorem step_conv (i d : Nat) (src dst : TypeId) (x : Operand) (u v : Value) {g : Option (Nat × Bool)} {R : Act → World → Prop} (hF : Fr n a l) (hop : look ops i = some (some d, .convert src dst x, g)) (hd : d < n) (hg : gw ops l g = some true) (hx : ev l x = some u)
    (hr : (convert src dst u).run P w = .ok v w) (h : ∀ a', Fr n a' ((d, v) :: l) → R a' w) : wpOp P ops (QN K) i R a w := by
  refine step_of hop hF hg fun o ho hdst => ?_
  unfold Oper.wp
  simp [execOp, ho, hF.ev hx, hr, Oper.upon]
  rw [hdst]
  exact h _ (hF.put d hd v)

theorem Fr.of_list (hs : a.tmps.size = n) (hd : a.defers = []) (h : l.map (fun p => a.tmps[p.1]?) = l.map (fun p => some p.2)) : Fr n a l := by
  refine ⟨hs, hd, fun t u ht => ?_⟩
  induction l with
  | nil => cases ht
  | cons p L ih =>
    obtain ⟨d, v⟩ := p
    simp only [List.map_cons, List.cons.injEq] at h
    simp only [List.lookup] at ht
    split at ht
    · next hd =>
      have hd : t = d := by simpa using hd
      cases ht
      subst hd
      exact h.1
    · exact ih h.2 ht

/-- A stronger condition on the world serves too. -/
theorem draw_stronger {S' : World → Prop} (hS : ∀ W, S' W → S W) : ∀ (fuel : Nat) (listed : Array Bool) (a : Act) (w : World), wpAnyH P .any ops (QN K) S' fuel listed a w → wpAnyH P .any ops (QN K) S fuel listed a w
  | 0, _, _, _, h => h
  | fuel + 1, _, _, _, h => ⟨h.1, fun i hi => wpOp_mono (fun a' w' h' => ⟨hS w' h'.1, draw_stronger hS fuel _ a' w' h'.2⟩) (h.2 i hi)⟩
end
end Go.Proofs.Ytikomlcghplchaa
