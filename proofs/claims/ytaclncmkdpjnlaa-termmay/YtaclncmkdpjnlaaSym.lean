/- A walk of code with the frame known by its slots and memory by its blocks. No program is named here. -/
import Derived.WalkKit
import Derived.Below
import Derived.Shelf.Abstract
import Derived.Still
import Derived.StillTail
import Derived.Deep.Quiet
import Derived.KernelRfl
namespace Go.Proofs.Ytaclncmkdpjnlaa
open Go.RowKit Go.Shelf
set_option linter.unusedVariables false
set_option linter.unusedSimpArgs false

/-- What a slot holds, by what is known (the newest first). -/
def lk : List (Nat × Value) → Nat → Option Value
  | [], _ => none
  | (d, v) :: l, t => bif Nat.beq d t then some v else lk l t

/-- The frame has n slots, defers ds, and holds what the list says. -/
structure Fs (n : Nat) (a : Act) (l : List (Nat × Value)) (ds : List Deferred := []) : Prop where
  size : a.tmps.size = n
  defers : a.defers = ds
  slot : ∀ t u, lk l t = some u → a.tmps[t]? = some u

def ov (l : List (Nat × Value)) : Operand → Option Value
  | .tmp t => lk l t
  | .const v => some v
  | .func f => some (.func (.func f) #[] #[])
  | .global g => some (.pointer (some ⟨g, 0, none⟩))

theorem Fs.ov {ds : List Deferred} {n : Nat} {a : Act} {l : List (Nat × Value)} (h : Fs n a l (ds := ds)) {x : Operand} {v : Value} (e : ov l x = some v) : a.eval x = v := by
  cases x with
  | tmp t =>
    have := h.slot t v e
    simp [Act.eval, this]
  | const u => simpa [Ytaclncmkdpjnlaa.ov, Act.eval] using e
  | global g => simpa [Ytaclncmkdpjnlaa.ov, Act.eval] using e
  | func f => simpa [Ytaclncmkdpjnlaa.ov, Act.eval] using e

theorem Fs.put {ds : List Deferred} {n : Nat} {a : Act} {l : List (Nat × Value)} (h : Fs n a l (ds := ds)) (d : Nat) (hd : d < n) (v : Value) : Fs n (a.put (some d) v) ((d, v) :: l) (ds := ds) := by
  refine ⟨by simp [Act.put, h.size], h.defers, fun t u e => ?_⟩
  simp only [lk] at e
  cases hb : Nat.beq d t with
  | true =>
    rw [hb] at e
    cases e
    have := Nat.eq_of_beq_eq_true hb
    subst this
    simp [Act.put, h.size, hd]
  | false =>
    rw [hb] at e
    have hne : d ≠ t := Nat.ne_of_beq_eq_false hb
    simp only [Act.put]
    rw [Array.getElem?_setIfInBounds_ne hne]
    exact h.slot t u e

/-- Fewer slots known. -/
theorem Fs.sub {ds : List Deferred} {n : Nat} {a : Act} {l : List (Nat × Value)} (h : Fs n a l (ds := ds)) (L : List (Nat × Value)) (e : L.map (fun p => lk l p.1) = L.map (fun p => some p.2)) : Fs n a L (ds := ds) := by
  refine ⟨h.size, h.defers, fun t u ht => h.slot t u ?_⟩
  induction L with
  | nil => cases ht
  | cons p L ih =>
    obtain ⟨d, v⟩ := p
    simp only [List.map_cons, List.cons.injEq] at e
    simp only [lk] at ht
    cases hb : Nat.beq d t with
    | true =>
      rw [hb] at ht
      cases ht
      have := Nat.eq_of_beq_eq_true hb
      subst this
      exact e.1
    | false =>
      rw [hb] at ht
      exact ih e.2 ht

theorem lk_args : ∀ (vs : List Value) (k t : Nat) (u : Value), lk (vs.zipIdx k |>.map fun p => (p.2, p.1)) t = some u → ∃ j, t = k + j ∧ vs[j]? = some u
  | [], _, _, _, h => by cases h
  | v :: vs, k, t, u, h => by
    simp only [List.zipIdx_cons, List.map_cons, lk] at h
    cases hb : Nat.beq k t with
    | true =>
      rw [hb] at h
      cases h
      exact ⟨0, by have := Nat.eq_of_beq_eq_true hb; omega, rfl⟩
    | false =>
      rw [hb] at h
      obtain ⟨j, h1, h2⟩ := lk_args vs (k + 1) t u h
      exact ⟨j + 1, by omega, by simpa using h2⟩

/-- A function's frame as it begins. -/
theorem Fs.start (vs : List Value) (m : Nat) : Fs (vs.length + m) { tmps := vs.toArray ++ Array.replicate m undef, defers := [] } (vs.zipIdx 0 |>.map fun p => (p.2, p.1)) := by
  refine ⟨by simp, rfl, fun t u h => ?_⟩
  obtain ⟨j, h1, h2⟩ := lk_args vs 0 t u h
  have : t = j := by omega
  subst this
  have hlt : t < vs.length := by
    rcases Nat.lt_or_ge t vs.length with h | h
    · exact h
    · rw [List.getElem?_eq_none h] at h2; cases h2
  simp only [Array.getElem?_append, List.size_toArray, hlt, if_true]
  simpa using h2

/-- A call, out of its body's walk. -/
theorem calls_fs {P : Program} {f : FuncId} {fn : Func} {c : Code} {w : World} {R : Ending → World → Prop} (n : Nat) (L : List (Nat × Value)) {vs : List Value}
    (hf : P.funcs[f]? = some fn) (hb : fn.body = some c) (hn : fn.ntmps = n) (hl : L.map (·.2) = vs) (hi : L.map (·.1) = List.range L.length) (hm : Nat.ble L.length n = true)
    (h : ∀ a, Fs n a L → c.wp P (bodyPost P fn R) a w) : Calls P f vs.toArray w R := by
  refine calls_of_wp hf hb (h _ ?_)
  have hlen : vs.length = L.length := by rw [← hl]; simp
  have hm := Nat.le_of_ble_eq_true hm
  have hL : (vs.zipIdx 0 |>.map fun p => (p.2, p.1)) = L := by
    rw [← hl]
    apply List.ext_getElem?
    intro j
    simp only [List.getElem?_map, List.getElem?_zipIdx, Option.map_map]
    have := congrArg (·[j]?) hi
    simp only [List.getElem?_map] at this
    cases hj : L[j]? with
    | none => simp
    | some p =>
      have hlt : j < L.length := by
        rcases Nat.lt_or_ge j L.length with h | h
        · exact h
        · rw [List.getElem?_eq_none h] at hj; cases hj
      rw [hj, List.getElem?_range hlt] at this
      simp at this
      simp [← this]
  rw [hn]
  have := Fs.start vs (n - vs.length)
  rw [hL, show vs.length + (n - vs.length) = n by omega] at this
  simpa using this

/-! ### Operations that leave the world alone -/

def Runs (P : Program) (n : Nat) (l : List (Nat × Value)) (w : World) (op : Op) (v : Value) : Prop :=
  ∀ (ds : List Deferred) a, Fs n a l (ds := ds) → ∀ o : Oper, o.op = op → (execOp a.eval o).run P w = .ok (.value v) w

section
variable {P : Program} {n : Nat} {l : List (Nat × Value)} {w : World}

theorem x_move {x : Operand} {v : Value} (hx : ov l x = some v) : Runs P n l w (.move x) v := fun ds a hF o ho => by simp [execOp, ho, hF.ov hx]
theorem x_assign {x : Operand} {v : Value} (hx : ov l x = some v) : Runs P n l w (.assign x) v := fun ds a hF o ho => by simp [execOp, ho, hF.ov hx]
theorem x_pick {c x y : Operand} {b : Bool} {v : Value} (hc : ov l c = some (.bool b)) (hx : ov l (bif b then x else y) = some v) : Runs P n l w (.pick c x y) v := fun ds a hF o ho => by
  have := hF.ov hx
  cases b <;> simp at this <;> simp [execOp, ho, hF.ov hc, asBool, this]

/-- What a comparison or arithmetic gives. -/
def Bin (P : Program) (bop : BinOp) (t : TypeId) (x y : Operand) (u1 u2 v : Value) : Prop := ∀ W, (eqGuard bop t x y u1 u2).run P W = .ok () W ∧ (binOp bop t u1 u2).run P W = .ok v W

theorem x_bin {bop : BinOp} {t t' : TypeId} {x y : Operand} {u1 u2 v : Value} (hx : ov l x = some u1) (hy : ov l y = some u2) (hr : Bin P bop t x y u1 u2 v) : Runs P n l w (.binOp bop t x y t') v :=
  fun ds a hF o ho => by simp [execOp, ho, hF.ov hx, hF.ov hy, (hr w).1, (hr w).2]

theorem b_int {bop : BinOp} {t : TypeId} {x y : Operand} {k : IntKind} {p q : Int} {v : Value} (hr : ∀ W, (binOp bop t (.int k p) (.int k q)).run P W = .ok v W) : Bin P bop t x y (.int k p) (.int k q) v :=
  fun W => ⟨by cases bop <;> simp [eqGuard], hr W⟩
theorem x_lss {t t' : TypeId} {x y : Operand} {k : IntKind} {p q : Int} {b : Bool} (hb : decide (p < q) = b) (hx : ov l x = some (.int k p)) (hy : ov l y = some (.int k q)) : Runs P n l w (.binOp .lss t x y t') (.bool b) :=
  x_bin hx hy (b_int fun W => by subst hb; simp [binOp, Op.intCmp])
theorem x_leq {t t' : TypeId} {x y : Operand} {k : IntKind} {p q : Int} {b : Bool} (hb : decide (p ≤ q) = b) (hx : ov l x = some (.int k p)) (hy : ov l y = some (.int k q)) : Runs P n l w (.binOp .leq t x y t') (.bool b) :=
  x_bin hx hy (b_int fun W => by subst hb; simp [binOp, Op.intCmp])
theorem x_gtr {t t' : TypeId} {x y : Operand} {k : IntKind} {p q : Int} {b : Bool} (hb : decide (q < p) = b) (hx : ov l x = some (.int k p)) (hy : ov l y = some (.int k q)) : Runs P n l w (.binOp .gtr t x y t') (.bool b) :=
  x_bin hx hy (b_int fun W => by subst hb; simp [binOp, Op.intCmp])
theorem x_geq {t t' : TypeId} {x y : Operand} {k : IntKind} {p q : Int} {b : Bool} (hb : decide (q ≤ p) = b) (hx : ov l x = some (.int k p)) (hy : ov l y = some (.int k q)) : Runs P n l w (.binOp .geq t x y t') (.bool b) :=
  x_bin hx hy (b_int fun W => by subst hb; simp [binOp, Op.intCmp])
theorem x_eql {t t' : TypeId} {x y : Operand} {k : IntKind} {p q : Int} {b : Bool} (hb : decide (p = q) = b) (hx : ov l x = some (.int k p)) (hy : ov l y = some (.int k q)) : Runs P n l w (.binOp .eql t x y t') (.bool b) :=
  x_bin hx hy (b_int fun W => by subst hb; simp [binOp, Op.intCmp]; rw [Bool.eq_iff_iff]; simp)
theorem x_neq {t t' : TypeId} {x y : Operand} {k : IntKind} {p q : Int} {b : Bool} (hb : decide (p ≠ q) = b) (hx : ov l x = some (.int k p)) (hy : ov l y = some (.int k q)) : Runs P n l w (.binOp .neq t x y t') (.bool b) :=
  x_bin hx hy (b_int fun W => by subst hb; simp [binOp, Op.intCmp]; rw [Bool.eq_iff_iff]; simp)

theorem wrap_i64 {z : Int} (h1 : -9223372036854775808 ≤ z) (h2 : z < 9223372036854775808) : IntKind.i64.wrap z = z := by
  simp [IntKind.wrap, IntKind.bits, IntKind.signed]
  split <;> omega

/-- int and int64, where nothing is too great. -/
theorem x_add {t t' : TypeId} {x y : Operand} {p q : Int} (h1 : -9223372036854775808 ≤ p + q) (h2 : p + q < 9223372036854775808) (hx : ov l x = some (.int .i64 p)) (hy : ov l y = some (.int .i64 q)) : Runs P n l w (.binOp .add t x y t') (.int .i64 (p + q)) :=
  x_bin hx hy (b_int fun W => by simp [binOp, Op.intArith, wrap_i64 h1 h2])
theorem x_sub {t t' : TypeId} {x y : Operand} {p q : Int} (h1 : -9223372036854775808 ≤ p - q) (h2 : p - q < 9223372036854775808) (hx : ov l x = some (.int .i64 p)) (hy : ov l y = some (.int .i64 q)) : Runs P n l w (.binOp .sub t x y t') (.int .i64 (p - q)) :=
  x_bin hx hy (b_int fun W => by simp [binOp, Op.intArith, wrap_i64 h1 h2])
theorem x_mul {t t' : TypeId} {x y : Operand} {p q : Int} (h1 : -9223372036854775808 ≤ p * q) (h2 : p * q < 9223372036854775808) (hx : ov l x = some (.int .i64 p)) (hy : ov l y = some (.int .i64 q)) : Runs P n l w (.binOp .mul t x y t') (.int .i64 (p * q)) :=
  x_bin hx hy (b_int fun W => by simp [binOp, Op.intArith, wrap_i64 h1 h2])
/-- The same, told as a natural number r. -/
theorem x_addn {t t' : TypeId} {x y : Operand} {p q : Int} (r : Nat) (h1 : p + q = (r : Int)) (h2 : r < 9223372036854775808) (hx : ov l x = some (.int .i64 p)) (hy : ov l y = some (.int .i64 q)) : Runs P n l w (.binOp .add t x y t') (.int .i64 (r : Int)) := by
  have := x_add (P := P) (n := n) (w := w) (t := t) (t' := t') (by omega) (by omega) hx hy
  rwa [h1] at this
theorem x_subn {t t' : TypeId} {x y : Operand} {p q : Int} (r : Nat) (h1 : p - q = (r : Int)) (h2 : r < 9223372036854775808) (hx : ov l x = some (.int .i64 p)) (hy : ov l y = some (.int .i64 q)) : Runs P n l w (.binOp .sub t x y t') (.int .i64 (r : Int)) := by
  have := x_sub (P := P) (n := n) (w := w) (t := t) (t' := t') (by omega) (by omega) hx hy
  rwa [h1] at this
theorem x_un {uop : UnOp} {t : TypeId} {x : Operand} {u v : Value} (hx : ov l x = some u) (hr : (Op.unary uop u).run P w = .ok v w) : Runs P n l w (.unOp uop t x) v :=
  fun ds a hF o ho => by simp [execOp, ho, hF.ov hx, hr]
theorem x_nil {x : Operand} {ad : Addr} (hx : ov l x = some (.pointer (some ad))) : Runs P n l w (.nilCheck x) (.pointer (some ad)) :=
  fun ds a hF o ho => by simp [execOp, ho, hF.ov hx]
theorem x_load {t : TypeId} {x : Operand} {u v : Value} (hx : ov l x = some u) (hr : (Instr.loadAt t u).run P w = .ok v w) : Runs P n l w (.load t x) v :=
  fun ds a hF o ho => by simp [execOp, ho, hF.ov hx, hr]
theorem x_field {t : TypeId} {x : Operand} {f : Nat} {u v : Value} (hx : ov l x = some u) (hr : (Instr.fieldAt t u f).run P w = .ok v w) : Runs P n l w (.fieldAddr t x f) v :=
  fun ds a hF o ho => by simp [execOp, ho, hF.ov hx, hr]
theorem x_ixa {t : TypeId} {x y : Operand} {u1 u2 v : Value} (hx : ov l x = some u1) (hy : ov l y = some u2) (hr : (Instr.indexAt t u1 u2).run P w = .ok v w) : Runs P n l w (.indexAddr t x y) v :=
  fun ds a hF o ho => by simp [execOp, ho, hF.ov hx, hF.ov hy, hr]
theorem x_ix {t : TypeId} {x y : Operand} {u1 u2 v : Value} (hx : ov l x = some u1) (hy : ov l y = some u2) (hr : (Instr.index t u1 u2).run P w = .ok v w) : Runs P n l w (.index t x y) v :=
  fun ds a hF o ho => by simp [execOp, ho, hF.ov hx, hF.ov hy, hr]
theorem x_slice {t : TypeId} {x : Operand} {lo hi mx : Option Operand} {u v : Value} {vlo vhi vmx : Option Value} (hx : ov l x = some u) (hlo : lo.map (ov l) = vlo.map some) (hhi : hi.map (ov l) = vhi.map some) (hmx : mx.map (ov l) = vmx.map some) (hr : (Instr.sliceAt t u vlo vhi vmx).run P w = .ok v w) : Runs P n l w (.slice t x lo hi mx) v :=
  fun ds a hF o ho => by
    have key : ∀ {z : Option Operand} {vz : Option Value}, z.map (ov l) = vz.map some → z.map a.eval = vz := by
      intro z vz h
      cases z <;> cases vz <;> simp at h ⊢
      exact hF.ov h
    simp [execOp, ho, hF.ov hx, key hlo, key hhi, key hmx, hr]
theorem x_len {x : Operand} {ty : TypeId} {ad : Option Addr} {m c : Nat} {e : TypeId} (ht : P.underlying ty = some (.slice e)) (hx : ov l x = some (.slice ad m c)) : Runs P n l w (.call { callee := .builtin .len, args := #[x], argTypes := #[ty] }) (.int .i64 (m : Int)) :=
  fun ds a hF o ho => by
    simp [execOp, ho, resolve, invoke, builtin, hF.ov hx]
    go_simp
theorem ov_parts {ds : List Deferred} {a : Act} (hF : Fs n a l (ds := ds)) : ∀ (ys : List (Nat × Operand)) (vs : List (Nat × Value)), ys.map (fun p => (p.1, ov l p.2)) = vs.map (fun p => (p.1, some p.2)) → ys.map (fun p => (p.1, a.eval p.2)) = vs
  | [], [], _ => rfl
  | [], _ :: _, h => by simp at h
  | _ :: _, [], h => by simp at h
  | (i, y) :: ys, (j, v) :: vs, h => by
    simp only [List.map_cons, List.cons.injEq, Prod.mk.injEq] at h
    obtain ⟨⟨rfl, hy⟩, h⟩ := h
    simp only [List.map_cons, hF.ov hy, ov_parts hF ys vs h]
theorem ov_args {ds : List Deferred} {a : Act} (hF : Fs n a l (ds := ds)) : ∀ (ys : List Operand) (vs : List Value), ys.map (ov l) = vs.map some → ys.map a.eval = vs
  | [], [], _ => rfl
  | [], _ :: _, h => by simp at h
  | _ :: _, [], h => by simp at h
  | y :: ys, v :: vs, h => by
    simp only [List.map_cons, List.cons.injEq] at h
    simp only [List.map_cons, hF.ov h.1, ov_args hF ys vs h.2]
theorem x_build {t : TypeId} {parts : List (Nat × Operand)} {vs : List (Nat × Value)} {v : Value} (hx : parts.map (fun p => (p.1, ov l p.2)) = vs.map (fun p => (p.1, some p.2))) (hr : (Instr.build t vs.toArray).run P w = .ok v w) : Runs P n l w (.build t parts.toArray) v :=
  fun ds a hF o ho => by
    have hv : (parts.toArray.map fun (i, x) => (i, a.eval x)) = vs.toArray := by
      rw [← ov_parts hF parts vs hx]
      simp
    simp [execOp, ho, hv, hr]
end

/-! ### Steps -/
section
variable {P : Program} {n d : Nat} {l : List (Nat × Value)} {w : World} {a : Act} {ops : Array Oper} {Q : Exit → Act → World → Prop} {C : World → Prop} {K : Act → Prop} {rest : List Oper} {op : Op} {v : Value} {ty : TypeId} {pos : String} {af : Array Edge}

theorem wanted_none (o : Oper) (h : o.guard = none) (y) : Region.wanted o y = true := by simp [Region.wanted, h]

theorem s_val {ds : List Deferred} (hF : Fs n a l (ds := ds)) (hr : Runs P n l w op v) (hd : d < n) (h : ∀ a', Fs n a' ((d, v) :: l) (ds := ds) → wpList P ops Q rest a' w) : wpList P ops Q (⟨some d, op, ty, pos, af, none⟩ :: rest) a w := by
  unfold wpList
  rw [if_pos (wanted_none _ rfl _)]
  refine .inl ?_
  unfold Oper.wp
  rw [hr _ a hF _ rfl]
  exact h _ (hF.put d hd v)

/-- A call of a declared function: what it runs to. -/
theorem run_call {ds : List Deferred} (hF : Fs n a l (ds := ds)) {f : FuncId} {xs : List Operand} {ts : Array TypeId} {vals : List Value} (hent : Enters P f) (hargs : xs.map (ov l) = vals.map some) (o : Oper) (ho : o.op = .call { callee := .value (.func f), args := xs.toArray, argTypes := ts }) :
    (execOp a.eval o).run P w = .ok (.enter f vals.toArray) w := by
  have hv : xs.toArray.map a.eval = vals.toArray := by
    rw [← ov_args hF xs vals hargs]
    simp
  have := hent vals.toArray w
  simp [execOp, ho, resolve, Deferred.ofValue, invoke, Act.eval, hv, this]

theorem s_call {ds : List Deferred} (hF : Fs n a l (ds := ds)) {f : FuncId} {xs : List Operand} {ts : Array TypeId} (vals : List Value) {R : Value → World → Prop} (hent : Enters P f) (hargs : xs.map (ov l) = vals.map some) (hd : d < n)
    (hC : Calls P f vals.toArray w fun e w' => ∃ v, e = .returned v ∧ R v w')
    (h : ∀ v w' a', R v w' → Fs n a' ((d, v) :: l) (ds := ds) → wpList P ops Q rest a' w') : wpList P ops Q (⟨some d, .call { callee := .value (.func f), args := xs.toArray, argTypes := ts }, ty, pos, af, none⟩ :: rest) a w := by
  unfold wpList
  rw [if_pos (wanted_none _ rfl _)]
  refine .inl ?_
  unfold Oper.wp
  rw [run_call hF hent hargs _ rfl]
  refine Calls.mono hC ?_
  rintro e w' ⟨v, rfl, hR⟩
  exact h v w' _ hR (hF.put d hd v)

/-- Guards ('&&', '||'). -/
theorem wanted_some {ds : List Deferred} {o : Oper} {j : Nat} {want b : Bool} {dj : Nat} (hF : Fs n a l (ds := ds)) (hg : o.guard = some (j, want)) (hj : (ops[j]?).bind (·.dst) = some dj) (hb : lk l dj = some (.bool b)) : Region.wanted o (yielded ops a.tmps) = (b == want) := by
  have := hF.slot dj _ hb
  simp [Region.wanted, hg, yielded, hj, this]

/-- A step with a guard: it says yes. -/
theorem s_grd {ds : List Deferred} {o : Oper} {j : Nat} {want : Bool} (dj : Nat) (hF : Fs n a l (ds := ds)) (hg : o.guard = some (j, want)) (hj : (ops[j]?).bind (·.dst) = some dj) (hb : lk l dj = some (.bool want))
    (h : wpList P ops Q ({ o with guard := none } :: rest) a w) : wpList P ops Q (o :: rest) a w := by
  unfold wpList at h ⊢
  rw [if_pos (wanted_none _ rfl _)] at h
  rw [if_pos (by rw [wanted_some hF hg hj hb]; simp)]
  exact h
/-- It says no. -/
theorem s_grdn {ds : List Deferred} {j : Nat} {want : Bool} (dj : Nat) (hF : Fs n a l (ds := ds)) (hj : (ops[j]?).bind (·.dst) = some dj) (hb : lk l dj = some (.bool (!want))) (hd : d < n)
    (h : ∀ a', Fs n a' ((d, undef) :: l) (ds := ds) → wpList P ops Q rest a' w) : wpList P ops Q (⟨some d, op, ty, pos, af, some (j, want)⟩ :: rest) a w := by
  unfold wpList
  rw [if_neg (by rw [wanted_some hF rfl hj hb]; simp)]
  exact h _ (hF.put d hd _)

theorem s_end (h : Q .normal a w) : wpList P ops Q [] a w := h

/-- An operation that makes another world. -/
theorem s_new {ds : List Deferred} {w' : World} (hF : Fs n a l (ds := ds)) (hr : ∀ o : Oper, o.op = op → (execOp a.eval o).run P w = .ok (.value v) w') (hd : d < n) (h : ∀ a', Fs n a' ((d, v) :: l) (ds := ds) → wpList P ops Q rest a' w') : wpList P ops Q (⟨some d, op, ty, pos, af, none⟩ :: rest) a w := by
  unfold wpList
  rw [if_pos (wanted_none _ rfl _)]
  refine .inl ?_
  unfold Oper.wp
  rw [hr _ rfl]
  exact h _ (hF.put d hd v)
theorem s_sto {ds : List Deferred} {w' : World} {t : TypeId} {x y : Operand} {u1 u2 : Value} (hF : Fs n a l (ds := ds)) (hx : ov l x = some u1) (hy : ov l y = some u2) (hr : (Instr.storeAt t u1 u2).run P w = .ok () w') (h : wpList P ops Q rest a w') : wpList P ops Q (⟨none, .store t x y, ty, pos, af, none⟩ :: rest) a w := by
  unfold wpList
  rw [if_pos (wanted_none _ rfl _)]
  refine .inl ?_
  unfold Oper.wp
  rw [show (execOp a.eval ⟨none, .store t x y, ty, pos, af, none⟩).run P w = .ok .skip w' from by simp [execOp, hF.ov hx, hF.ov hy, hr]]
  exact h
end

/-! ### Memory -/

/-- Block b is a variable of type t with these cells. -/
def Blk (w : World) (b : Nat) (t : TypeId) (cs : List Value) : Prop := w.heap[b]? = some (.cells cs.toArray t (0, 0))

/-- No block but b has turned. -/
structure Only (b : Nat) (w w' : World) : Prop where
  os : w'.os = w.os
  tape : w'.tape = w.tape
  output : w'.output = w.output
  size : w'.heap.size = w.heap.size
  block : ∀ k, k ≠ b → w'.heap[k]? = w.heap[k]?

theorem Blk.lt {w : World} {b t : Nat} {cs : List Value} (h : Blk w b t cs) : b < w.heap.size := by
  rcases Nat.lt_or_ge b w.heap.size with h' | h'
  · exact h'
  · unfold Blk at h
    rw [Array.getElem?_eq_none h'] at h; cases h
theorem Blk.cell {w : World} {b t : Nat} {cs : List Value} (h : Blk w b t cs) {j : Nat} {v : Value} (hj : cs[j]? = some v) : w.cell? ⟨b, j, none⟩ = some v := by
  unfold Blk at h
  simp [World.cell?, h, hj]
theorem Blk.free {w : World} {b t : Nat} {cs : List Value} (h : Blk w b t cs) (j : Nat) : w.frozen? ⟨b, j, none⟩ = false := by
  unfold Blk at h
  simp [World.frozen?, h]
theorem Blk.below {B : Nat} {w w' : World} {b t : Nat} {cs : List Value} (h : Blk w b t cs) (hB : Below B w w') (hb : b < B) : Blk w' b t cs := (hB.block b hb).trans h
theorem Blk.old {w w' : World} {b t : Nat} {cs : List Value} (h : Blk w b t cs) (hB : Below w.heap.size w w') : Blk w' b t cs := h.below hB h.lt
theorem Blk.only {k : Nat} {w w' : World} {b t : Nat} {cs : List Value} (h : Blk w b t cs) (ho : Only k w w') (hb : b ≠ k) : Blk w' b t cs := (ho.block b hb).trans h
theorem Only.below {b B : Nat} {w w' : World} (h : Only b w w') (hB : B ≤ b) : Below B w w' := ⟨h.os, h.tape, h.output, Nat.le_of_eq h.size.symm, fun k hk => h.block k (by omega)⟩
theorem Only.trans {b : Nat} {w w' w'' : World} (h : Only b w w') (h' : Only b w' w'') : Only b w w'' := ⟨h'.os.trans h.os, h'.tape.trans h.tape, h'.output.trans h.output, h'.size.trans h.size, fun k hk => (h'.block k hk).trans (h.block k hk)⟩

theorem addr_add0 (b j : Nat) : (⟨b, 0, none⟩ : Addr).add j = ⟨b, j, none⟩ := by
  unfold Addr.add
  split
  · next h => subst h; rfl
  · simp
theorem addr_addn (b off j : Nat) : (⟨b, off, none⟩ : Addr).add j = ⟨b, off + j, none⟩ := by
  unfold Addr.add
  split
  · next h => subst h; rfl
  · rfl
end Go.Proofs.Ytaclncmkdpjnlaa
