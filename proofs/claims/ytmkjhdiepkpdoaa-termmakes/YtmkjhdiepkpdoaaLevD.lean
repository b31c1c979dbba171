/- A walk of code with the frame known by its slots and memory by its blocks. No program is named here. -/
import Derived.WalkKit
import Derived.Below
import Derived.Shelf.Abstract
import Derived.Still
import Derived.StillTail
import Derived.Deep.Quiet
import Derived.KernelRfl
import Derived.Laws.CopyRow
import Derived.Laws.IdiomCopy
import Derived.Laws.BitsAllLaws
import Derived.Deep.LoopGhost
import Derived.Deep.RegionHeld
import Derived.Laws.MakeOwn
import Derived.Laws.BytesArg
import Derived.Laws.IdiomStrings
import Derived.Laws.StructEq
import Derived.Great.BuildSlice
import Derived.Laws.AppendOwn
import Derived.Laws.AppendOwnNone
import Derived.Great.FillDense
import Derived.Test.YtmkjhdiepkpdoaaRows
namespace Go.Proofs.Ytmkjhdiepkpdoaa
open Go.RowKit Go.Shelf
set_option linter.unusedVariables false
set_option linter.unusedSimpArgs false
/-- What a slot holds, by what is known (the newest first). -/
def lk : List (Nat × Value) → Nat → Option Value
 | [], _ => none
 | (d, v) :: l, t => bif Nat.beq d t then some v else lk l t
/-- The frame has n slots, defers ds, and holds what the list says. -/
structure Fs (n : Nat) (a : Act) (l : List (Nat × Value)) (ds : List Deferred := []) : Prop where
 size : a.tmps.size = n
 defers : a.defers = ds
 slot : ∀ t u, lk l t = some u → a.tmps[t]? = some u
def ov (l : List (Nat × Value)) : Operand → Option Value
 | .tmp t => lk l t
 | .const v => some v
 | .func f => some (.func (.func f) #[] #[])
 | .global g => some (.pointer (some ⟨g, 0, none⟩))
theorem Fs.ov {ds : List Deferred} {n : Nat} {a : Act} {l : List (Nat × Value)} (h : Fs n a l (ds := ds)) {x : Operand} {v : Value} (e : ov l x = some v) : a.eval x = v := by
 cases x with
 | tmp t =>
  have := h.slot t v e
  simp [Act.eval, this]
 | const u => simpa [Ytmkjhdiepkpdoaa.ov, Act.eval] using e
 | global g => simpa [Ytmkjhdiepkpdoaa.ov, Act.eval] using e
 | func f => simpa [Ytmkjhdiepkpdoaa.ov, Act.eval] using e
theorem Fs.put {ds : List Deferred} {n : Nat} {a : Act} {l : List (Nat × Value)} (h : Fs n a l (ds := ds)) (d : Nat) (hd : d < n) (v : Value) : Fs n (a.put (some d) v) ((d, v) :: l) (ds := ds) := by
 refine ⟨by simp [Act.put, h.size], h.defers, fun t u e => ?_⟩
 simp only [lk] at e
 cases hb : Nat.beq d t with
 | true =>
  rw [hb] at e
  cases e
  have := Nat.eq_of_beq_eq_true hb
  subst this
  simp [Act.put, h.size, hd]
 | false =>
  rw [hb] at e
  have hne : d ≠ t := Nat.ne_of_beq_eq_false hb
  simp only [Act.put]
  rw [Array.getElem?_setIfInBounds_ne hne]
  exact h.slot t u e
/-- Fewer slots known. -/
theorem Fs.sub {ds : List Deferred} {n : Nat} {a : Act} {l : List (Nat × Value)} (h : Fs n a l (ds := ds)) (L : List (Nat × Value)) (e : L.map (fun p => lk l p.1) = L.map (fun p => some p.2)) : Fs n a L (ds := ds) := by
 refine ⟨h.size, h.defers, fun t u ht => h.slot t u ?_⟩
 induction L with
 | nil => cases ht
 | cons p L ih =>
  obtain ⟨d, v⟩ := p
  simp only [List.map_cons, List.cons.injEq] at e
  simp only [lk] at ht
  cases hb : Nat.beq d t with
  | true =>
   rw [hb] at ht
   cases ht
   have := Nat.eq_of_beq_eq_true hb
   subst this
   exact e.1
  | false =>
   rw [hb] at ht
   exact ih e.2 ht
theorem lk_args : ∀ (vs : List Value) (k t : Nat) (u : Value), lk (vs.zipIdx k |>.map fun p => (p.2, p.1)) t = some u → ∃ j, t = k + j ∧ vs[j]? = some u
 | [], _, _, _, h => by cases h
 | v :: vs, k, t, u, h => by
  simp only [List.zipIdx_cons, List.map_cons, lk] at h
  cases hb : Nat.beq k t with
  | true =>
   rw [hb] at h
   cases h
   exact ⟨0, by have := Nat.eq_of_beq_eq_true hb; omega, rfl⟩
  | false =>
   rw [hb] at h
   obtain ⟨j, h1, h2⟩ := lk_args vs (k + 1) t u h
   exact ⟨j + 1, by omega, by simpa using h2⟩
/-- A function's frame as it begins. -/
theorem Fs.start (vs : List Value) (m : Nat) : Fs (vs.length + m) { tmps := vs.toArray ++ Array.replicate m undef, defers := [] } (vs.zipIdx 0 |>.map fun p => (p.2, p.1)) := by
 refine ⟨by simp, rfl, fun t u h => ?_⟩
 obtain ⟨j, h1, h2⟩ := lk_args vs 0 t u h
 have : t = j := by omega
 subst this
 have hlt : t < vs.length := by
  rcases Nat.lt_or_ge t vs.length with h | h
  ·
   exact h
  ·
   rw [List.getElem?_eq_none h] at h2; cases h2
 simp only [Array.getElem?_append, List.size_toArray, hlt, if_true]
 simpa using h2
/-- A call, out of its body's walk. -/
theorem calls_fs {P : Program} {f : FuncId} {fn : Func} {c : Code} {w : World} {R : Ending → World → Prop} (n : Nat) (L : List (Nat × Value)) {vs : List Value}
    (hf : P.funcs[f]? = some fn) (hb : fn.body = some c) (hn : fn.ntmps = n) (hl : L.map (·.2) = vs) (hi : L.map (·.1) = List.range L.length) (hm : Nat.ble L.length n = true)
    (h : ∀ a, Fs n a L → c.wp P (bodyPost P fn R) a w) : Calls P f vs.toArray w R := by
  refine calls_of_wp hf hb (h _ ?_)
  have hlen : vs.length = L.length := by rw [← hl]; simp
  have hm := Nat.le_of_ble_eq_true hm
  have hL : (vs.zipIdx 0 |>.map fun p => (p.2, p.1)) = L := by
    rw [← hl]
    apply List.ext_getElem?
    intro j
    simp only [List.getElem?_map, List.getElem?_zipIdx, Option.map_map]
    have := congrArg (·[j]?) hi
    simp only [List.getElem?_map] at this
    cases hj : L[j]? with
    | none => simp
    | some p =>
      have hlt : j < L.length := by
        rcases Nat.lt_or_ge j L.length with h | h
        · exact h
        · rw [List.getElem?_eq_none h] at hj; cases hj
      rw [hj, List.getElem?_range hlt] at this
      simp at this
      simp [← this]
  rw [hn]
  have := Fs.start vs (n - vs.length)
  rw [hL, show vs.length + (n - vs.length) = n by omega] at this
  simpa using this
/-! ### Operations that leave the world alone -/
def Runs (P : Program) (n : Nat) (l : List (Nat × Value)) (w : World) (op : Op) (v : Value) : Prop :=
 ∀ (ds : List Deferred) a, Fs n a l (ds := ds) → ∀ o : Oper, o.op = op → (execOp a.eval o).run P w = .ok (.value v) w
section
variable {P : Program} {n : Nat} {l : List (Nat × Value)} {w : World}
theorem x_move {x : Operand} {v : Value} (hx : ov l x = some v) : Runs P n l w (.move x) v := fun ds a hF o ho => by simp [execOp, ho, hF.ov hx]
theorem x_assign {x : Operand} {v : Value} (hx : ov l x = some v) : Runs P n l w (.assign x) v := fun ds a hF o ho => by simp [execOp, ho, hF.ov hx]
theorem x_pick {c x y : Operand} {b : Bool} {v : Value} (hc : ov l c = some (.bool b)) (hx : ov l (bif b then x else y) = some v) : Runs P n l w (.pick c x y) v := fun ds a hF o ho => by
 have := hF.ov hx
 cases b <;> simp at this <;> simp [execOp, ho, hF.ov hc, asBool, this]
/-- What a comparison or arithmetic gives. -/
def Bin (P : Program) (bop : BinOp) (t : TypeId) (x y : Operand) (u1 u2 v : Value) : Prop := ∀ W, (eqGuard bop t x y u1 u2).run P W = .ok () W ∧ (binOp bop t u1 u2).run P W = .ok v W
theorem x_bin {bop : BinOp} {t t' : TypeId} {x y : Operand} {u1 u2 v : Value} (hx : ov l x = some u1) (hy : ov l y = some u2) (hr : Bin P bop t x y u1 u2 v) : Runs P n l w (.binOp bop t x y t') v :=
 fun ds a hF o ho => by simp [execOp, ho, hF.ov hx, hF.ov hy, (hr w).1, (hr w).2]
theorem b_int {bop : BinOp} {t : TypeId} {x y : Operand} {k : IntKind} {p q : Int} {v : Value} (hr : ∀ W, (binOp bop t (.int k p) (.int k q)).run P W = .ok v W) : Bin P bop t x y (.int k p) (.int k q) v :=
 fun W => ⟨by cases bop <;> simp [eqGuard], hr W⟩
theorem x_lss {t t' : TypeId} {x y : Operand} {k : IntKind} {p q : Int} {b : Bool} (hb : decide (p < q) = b) (hx : ov l x = some (.int k p)) (hy : ov l y = some (.int k q)) : Runs P n l w (.binOp .lss t x y t') (.bool b) :=
 x_bin hx hy (b_int fun W => by subst hb; simp [binOp, Op.intCmp])
theorem x_leq {t t' : TypeId} {x y : Operand} {k : IntKind} {p q : Int} {b : Bool} (hb : decide (p ≤ q) = b) (hx : ov l x = some (.int k p)) (hy : ov l y = some (.int k q)) : Runs P n l w (.binOp .leq t x y t') (.bool b) :=
 x_bin hx hy (b_int fun W => by subst hb; simp [binOp, Op.intCmp])
theorem x_gtr {t t' : TypeId} {x y : Operand} {k : IntKind} {p q : Int} {b : Bool} (hb : decide (q < p) = b) (hx : ov l x = some (.int k p)) (hy : ov l y = some (.int k q)) : Runs P n l w (.binOp .gtr t x y t') (.bool b) :=
 x_bin hx hy (b_int fun W => by subst hb; simp [binOp, Op.intCmp])
theorem x_geq {t t' : TypeId} {x y : Operand} {k : IntKind} {p q : Int} {b : Bool} (hb : decide (q ≤ p) = b) (hx : ov l x = some (.int k p)) (hy : ov l y = some (.int k q)) : Runs P n l w (.binOp .geq t x y t') (.bool b) :=
 x_bin hx hy (b_int fun W => by subst hb; simp [binOp, Op.intCmp])
theorem x_eql {t t' : TypeId} {x y : Operand} {k : IntKind} {p q : Int} {b : Bool} (hb : decide (p = q) = b) (hx : ov l x = some (.int k p)) (hy : ov l y = some (.int k q)) : Runs P n l w (.binOp .eql t x y t') (.bool b) :=
 x_bin hx hy (b_int fun W => by subst hb; simp [binOp, Op.intCmp]; rw [Bool.eq_iff_iff]; simp)
theorem x_neq {t t' : TypeId} {x y : Operand} {k : IntKind} {p q : Int} {b : Bool} (hb : decide (p ≠ q) = b) (hx : ov l x = some (.int k p)) (hy : ov l y = some (.int k q)) : Runs P n l w (.binOp .neq t x y t') (.bool b) :=
 x_bin hx hy (b_int fun W => by subst hb; simp [binOp, Op.intCmp]; rw [Bool.eq_iff_iff]; simp)
theorem wrap_i64 {z : Int} (h1 : -9223372036854775808 ≤ z) (h2 : z < 9223372036854775808) : IntKind.i64.wrap z = z := by
 simp [IntKind.wrap, IntKind.bits, IntKind.signed]
 split <;> omega
/-- int and int64, where nothing is too great. -/
theorem x_add {t t' : TypeId} {x y : Operand} {p q : Int} (h1 : -9223372036854775808 ≤ p + q) (h2 : p + q < 9223372036854775808) (hx : ov l x = some (.int .i64 p)) (hy : ov l y = some (.int .i64 q)) : Runs P n l w (.binOp .add t x y t') (.int .i64 (p + q)) :=
 x_bin hx hy (b_int fun W => by simp [binOp, Op.intArith, wrap_i64 h1 h2])
theorem x_sub {t t' : TypeId} {x y : Operand} {p q : Int} (h1 : -9223372036854775808 ≤ p - q) (h2 : p - q < 9223372036854775808) (hx : ov l x = some (.int .i64 p)) (hy : ov l y = some (.int .i64 q)) : Runs P n l w (.binOp .sub t x y t') (.int .i64 (p - q)) :=
 x_bin hx hy (b_int fun W => by simp [binOp, Op.intArith, wrap_i64 h1 h2])
theorem x_mul {t t' : TypeId} {x y : Operand} {p q : Int} (h1 : -9223372036854775808 ≤ p * q) (h2 : p * q < 9223372036854775808) (hx : ov l x = some (.int .i64 p)) (hy : ov l y = some (.int .i64 q)) : Runs P n l w (.binOp .mul t x y t') (.int .i64 (p * q)) :=
 x_bin hx hy (b_int fun W => by simp [binOp, Op.intArith, wrap_i64 h1 h2])
/-- The same, told as a natural number r. -/
theorem x_addn {t t' : TypeId} {x y : Operand} {p q : Int} (r : Nat) (h1 : p + q = (r : Int)) (h2 : r < 9223372036854775808) (hx : ov l x = some (.int .i64 p)) (hy : ov l y = some (.int .i64 q)) : Runs P n l w (.binOp .add t x y t') (.int .i64 (r : Int)) := by
 have := x_add (P := P) (n := n) (w := w) (t := t) (t' := t') (by omega) (by omega) hx hy
 rwa [h1] at this
theorem x_subn {t t' : TypeId} {x y : Operand} {p q : Int} (r : Nat) (h1 : p - q = (r : Int)) (h2 : r < 9223372036854775808) (hx : ov l x = some (.int .i64 p)) (hy : ov l y = some (.int .i64 q)) : Runs P n l w (.binOp .sub t x y t') (.int .i64 (r : Int)) := by
 have := x_sub (P := P) (n := n) (w := w) (t := t) (t' := t') (by omega) (by omega) hx hy
 rwa [h1] at this
theorem x_un {uop : UnOp} {t : TypeId} {x : Operand} {u v : Value} (hx : ov l x = some u) (hr : (Op.unary uop u).run P w = .ok v w) : Runs P n l w (.unOp uop t x) v :=
 fun ds a hF o ho => by simp [execOp, ho, hF.ov hx, hr]
theorem x_nil {x : Operand} {ad : Addr} (hx : ov l x = some (.pointer (some ad))) : Runs P n l w (.nilCheck x) (.pointer (some ad)) :=
 fun ds a hF o ho => by simp [execOp, ho, hF.ov hx]
theorem x_load {t : TypeId} {x : Operand} {u v : Value} (hx : ov l x = some u) (hr : (Instr.loadAt t u).run P w = .ok v w) : Runs P n l w (.load t x) v :=
 fun ds a hF o ho => by simp [execOp, ho, hF.ov hx, hr]
theorem x_field {t : TypeId} {x : Operand} {f : Nat} {u v : Value} (hx : ov l x = some u) (hr : (Instr.fieldAt t u f).run P w = .ok v w) : Runs P n l w (.fieldAddr t x f) v :=
 fun ds a hF o ho => by simp [execOp, ho, hF.ov hx, hr]
theorem x_ixa {t : TypeId} {x y : Operand} {u1 u2 v : Value} (hx : ov l x = some u1) (hy : ov l y = some u2) (hr : (Instr.indexAt t u1 u2).run P w = .ok v w) : Runs P n l w (.indexAddr t x y) v :=
 fun ds a hF o ho => by simp [execOp, ho, hF.ov hx, hF.ov hy, hr]
theorem x_slice {t : TypeId} {x : Operand} {lo hi mx : Option Operand} {u v : Value} {vlo vhi vmx : Option Value} (hx : ov l x = some u) (hlo : lo.map (ov l) = vlo.map some) (hhi : hi.map (ov l) = vhi.map some) (hmx : mx.map (ov l) = vmx.map some) (hr : (Instr.sliceAt t u vlo vhi vmx).run P w = .ok v w) : Runs P n l w (.slice t x lo hi mx) v :=
 fun ds a hF o ho => by
  have key : ∀ {z : Option Operand} {vz : Option Value}, z.map (ov l) = vz.map some → z.map a.eval = vz := by
   intro z vz h
   cases z <;> cases vz <;> simp at h ⊢
   exact hF.ov h
  simp [execOp, ho, hF.ov hx, key hlo, key hhi, key hmx, hr]
theorem x_len {x : Operand} {ty : TypeId} {ad : Option Addr} {m c : Nat} {e : TypeId} (ht : P.underlying ty = some (.slice e)) (hx : ov l x = some (.slice ad m c)) : Runs P n l w (.call { callee := .builtin .len, args := #[x], argTypes := #[ty] }) (.int .i64 (m : Int)) :=
 fun ds a hF o ho => by
  simp [execOp, ho, resolve, invoke, builtin, hF.ov hx]
  go_simp
theorem ov_parts {ds : List Deferred} {a : Act} (hF : Fs n a l (ds := ds)) : ∀ (ys : List (Nat × Operand)) (vs : List (Nat × Value)), ys.map (fun p => (p.1, ov l p.2)) = vs.map (fun p => (p.1, some p.2)) → ys.map (fun p => (p.1, a.eval p.2)) = vs
 | [], [], _ => rfl
 | [], _ :: _, h => by simp at h
 | _ :: _, [], h => by simp at h
 | (i, y) :: ys, (j, v) :: vs, h => by
  simp only [List.map_cons, List.cons.injEq, Prod.mk.injEq] at h
  obtain ⟨⟨rfl, hy⟩, h⟩ := h
  simp only [List.map_cons, hF.ov hy, ov_parts hF ys vs h]
theorem ov_args {ds : List Deferred} {a : Act} (hF : Fs n a l (ds := ds)) : ∀ (ys : List Operand) (vs : List Value), ys.map (ov l) = vs.map some → ys.map a.eval = vs
 | [], [], _ => rfl
 | [], _ :: _, h => by simp at h
 | _ :: _, [], h => by simp at h
 | y :: ys, v :: vs, h => by
  simp only [List.map_cons, List.cons.injEq] at h
  simp only [List.map_cons, hF.ov h.1, ov_args hF ys vs h.2]
theorem x_build {t : TypeId} {parts : List (Nat × Operand)} {vs : List (Nat × Value)} {v : Value} (hx : parts.map (fun p => (p.1, ov l p.2)) = vs.map (fun p => (p.1, some p.2))) (hr : (Instr.build t vs.toArray).run P w = .ok v w) : Runs P n l w (.build t parts.toArray) v :=
 fun ds a hF o ho => by
  have hv : (parts.toArray.map fun (i, x) => (i, a.eval x)) = vs.toArray := by
   rw [← ov_parts hF parts vs hx]
   simp
  simp [execOp, ho, hv, hr]
end
/-! ### Steps -/
section
variable {P : Program} {n d : Nat} {l : List (Nat × Value)} {w : World} {a : Act} {ops : Array Oper} {Q : Exit → Act → World → Prop} {C : World → Prop} {K : Act → Prop} {rest : List Oper} {op : Op} {v : Value} {ty : TypeId} {pos : String} {af : Array Edge}
theorem wanted_none (o : Oper) (h : o.guard = none) (y) : Region.wanted o y = true := by simp [Region.wanted, h]
theorem s_val {ds : List Deferred} (hF : Fs n a l (ds := ds)) (hr : Runs P n l w op v) (hd : d < n) (h : ∀ a', Fs n a' ((d, v) :: l) (ds := ds) → wpList P ops Q rest a' w) : wpList P ops Q (⟨some d, op, ty, pos, af, none⟩ :: rest) a w := by
 unfold wpList
 rw [if_pos (wanted_none _ rfl _)]
 refine .inl ?_
 unfold Oper.wp
 rw [hr _ a hF _ rfl]
 exact h _ (hF.put d hd v)
/-- A call of a declared function: what it runs to. -/
theorem run_call {ds : List Deferred} (hF : Fs n a l (ds := ds)) {f : FuncId} {xs : List Operand} {ts : Array TypeId} {vals : List Value} (hent : Enters P f) (hargs : xs.map (ov l) = vals.map some) (o : Oper) (ho : o.op = .call { callee := .value (.func f), args := xs.toArray, argTypes := ts }) :
    (execOp a.eval o).run P w = .ok (.enter f vals.toArray) w := by
  have hv : xs.toArray.map a.eval = vals.toArray := by
    rw [← ov_args hF xs vals hargs]
    simp
  have := hent vals.toArray w
  simp [execOp, ho, resolve, Deferred.ofValue, invoke, Act.eval, hv, this]
theorem s_call {ds : List Deferred} (hF : Fs n a l (ds := ds)) {f : FuncId} {xs : List Operand} {ts : Array TypeId} (vals : List Value) {R : Value → World → Prop} (hent : Enters P f) (hargs : xs.map (ov l) = vals.map some) (hd : d < n)
    (hC : Calls P f vals.toArray w fun e w' => ∃ v, e = .returned v ∧ R v w')
    (h : ∀ v w' a', R v w' → Fs n a' ((d, v) :: l) (ds := ds) → wpList P ops Q rest a' w') : wpList P ops Q (⟨some d, .call { callee := .value (.func f), args := xs.toArray, argTypes := ts }, ty, pos, af, none⟩ :: rest) a w := by
  unfold wpList
  rw [if_pos (wanted_none _ rfl _)]
  refine .inl ?_
  unfold Oper.wp
  rw [run_call hF hent hargs _ rfl]
  refine Calls.mono hC ?_
  rintro e w' ⟨v, rfl, hR⟩
  exact h v w' _ hR (hF.put d hd v)
/-- Guards ('&&', '||'). -/
theorem wanted_some {ds : List Deferred} {o : Oper} {j : Nat} {want b : Bool} {dj : Nat} (hF : Fs n a l (ds := ds)) (hg : o.guard = some (j, want)) (hj : (ops[j]?).bind (·.dst) = some dj) (hb : lk l dj = some (.bool b)) : Region.wanted o (yielded ops a.tmps) = (b == want) := by
 have := hF.slot dj _ hb
 simp [Region.wanted, hg, yielded, hj, this]
/-- A step with a guard: it says yes. -/
theorem s_grd {ds : List Deferred} {o : Oper} {j : Nat} {want : Bool} (dj : Nat) (hF : Fs n a l (ds := ds)) (hg : o.guard = some (j, want)) (hj : (ops[j]?).bind (·.dst) = some dj) (hb : lk l dj = some (.bool want))
    (h : wpList P ops Q ({ o with guard := none } :: rest) a w) : wpList P ops Q (o :: rest) a w := by
  unfold wpList at h ⊢
  rw [if_pos (wanted_none _ rfl _)] at h
  rw [if_pos (by rw [wanted_some hF hg hj hb]; simp)]
  exact h
/-- It says no. -/
theorem s_grdn {ds : List Deferred} {j : Nat} {want : Bool} (dj : Nat) (hF : Fs n a l (ds := ds)) (hj : (ops[j]?).bind (·.dst) = some dj) (hb : lk l dj = some (.bool (!want))) (hd : d < n)
    (h : ∀ a', Fs n a' ((d, undef) :: l) (ds := ds) → wpList P ops Q rest a' w) : wpList P ops Q (⟨some d, op, ty, pos, af, some (j, want)⟩ :: rest) a w := by
  unfold wpList
  rw [if_neg (by rw [wanted_some hF rfl hj hb]; simp)]
  exact h _ (hF.put d hd _)
theorem s_end (h : Q .normal a w) : wpList P ops Q [] a w := h
/-- An operation that makes another world. -/
theorem s_new {ds : List Deferred} {w' : World} (hF : Fs n a l (ds := ds)) (hr : ∀ o : Oper, o.op = op → (execOp a.eval o).run P w = .ok (.value v) w') (hd : d < n) (h : ∀ a', Fs n a' ((d, v) :: l) (ds := ds) → wpList P ops Q rest a' w') : wpList P ops Q (⟨some d, op, ty, pos, af, none⟩ :: rest) a w := by
 unfold wpList
 rw [if_pos (wanted_none _ rfl _)]
 refine .inl ?_
 unfold Oper.wp
 rw [hr _ rfl]
 exact h _ (hF.put d hd v)
theorem s_sto {ds : List Deferred} {w' : World} {t : TypeId} {x y : Operand} {u1 u2 : Value} (hF : Fs n a l (ds := ds)) (hx : ov l x = some u1) (hy : ov l y = some u2) (hr : (Instr.storeAt t u1 u2).run P w = .ok () w') (h : wpList P ops Q rest a w') : wpList P ops Q (⟨none, .store t x y, ty, pos, af, none⟩ :: rest) a w := by
 unfold wpList
 rw [if_pos (wanted_none _ rfl _)]
 refine .inl ?_
 unfold Oper.wp
 rw [show (execOp a.eval ⟨none, .store t x y, ty, pos, af, none⟩).run P w = .ok .skip w' from by simp [execOp, hF.ov hx, hF.ov hy, hr]]
 exact h
end
/-! ### Memory -/
/-- Block b is a variable of type t with these cells. -/
def Blk (w : World) (b : Nat) (t : TypeId) (cs : List Value) : Prop := w.heap[b]? = some (.cells cs.toArray t (0, 0))
/-- No block but b has turned. -/
structure Only (b : Nat) (w w' : World) : Prop where
 os : w'.os = w.os
 tape : w'.tape = w.tape
 output : w'.output = w.output
 size : w'.heap.size = w.heap.size
 block : ∀ k, k ≠ b → w'.heap[k]? = w.heap[k]?
theorem Blk.lt {w : World} {b t : Nat} {cs : List Value} (h : Blk w b t cs) : b < w.heap.size := by
 rcases Nat.lt_or_ge b w.heap.size with h' | h'
 ·
  exact h'
 ·
  unfold Blk at h
  rw [Array.getElem?_eq_none h'] at h; cases h
theorem Blk.cell {w : World} {b t : Nat} {cs : List Value} (h : Blk w b t cs) {j : Nat} {v : Value} (hj : cs[j]? = some v) : w.cell? ⟨b, j, none⟩ = some v := by
 unfold Blk at h
 simp [World.cell?, h, hj]
theorem Blk.free {w : World} {b t : Nat} {cs : List Value} (h : Blk w b t cs) (j : Nat) : w.frozen? ⟨b, j, none⟩ = false := by
 unfold Blk at h
 simp [World.frozen?, h]
theorem Blk.below {B : Nat} {w w' : World} {b t : Nat} {cs : List Value} (h : Blk w b t cs) (hB : Below B w w') (hb : b < B) : Blk w' b t cs := (hB.block b hb).trans h
theorem Blk.old {w w' : World} {b t : Nat} {cs : List Value} (h : Blk w b t cs) (hB : Below w.heap.size w w') : Blk w' b t cs := h.below hB h.lt
theorem Blk.only {k : Nat} {w w' : World} {b t : Nat} {cs : List Value} (h : Blk w b t cs) (ho : Only k w w') (hb : b ≠ k) : Blk w' b t cs := (ho.block b hb).trans h
theorem Only.below {b B : Nat} {w w' : World} (h : Only b w w') (hB : B ≤ b) : Below B w w' := ⟨h.os, h.tape, h.output, Nat.le_of_eq h.size.symm, fun k hk => h.block k (by omega)⟩
theorem Only.trans {b : Nat} {w w' w'' : World} (h : Only b w w') (h' : Only b w' w'') : Only b w w'' := ⟨h'.os.trans h.os, h'.tape.trans h.tape, h'.output.trans h.output, h'.size.trans h.size, fun k hk => (h'.block k hk).trans (h.block k hk)⟩
theorem addr_add0 (b j : Nat) : (⟨b, 0, none⟩ : Addr).add j = ⟨b, j, none⟩ := by
 unfold Addr.add
 split
 ·
  next h => subst h; rfl
 ·
  simp
theorem addr_addn (b off j : Nat) : (⟨b, off, none⟩ : Addr).add j = ⟨b, off + j, none⟩ := by
 unfold Addr.add
 split
 ·
  next h => subst h; rfl
 ·
  rfl
section
variable {P : Program} {n d : Nat} {l : List (Nat × Value)} {w : World} {a : Act} {ops : Array Oper} {Q : Exit → Act → World → Prop} {rest : List Oper} {op : Op} {v : Value} {ty : TypeId} {pos : String} {af : Array Edge} {ds : List Deferred} {t t' : TypeId} {x y : Operand} {k : IntKind} {p q : Int}
theorem Fs.mv (hF : Fs n a l (ds := ds)) (hx : Ytmkjhdiepkpdoaa.ov l x = some v) (h : ∀ a', Fs n a' ((d, v) :: l) (ds := ds) → wpList P ops Q rest a' w) (hd : d < n := by decide) : wpList P ops Q (⟨some d, .move x, ty, pos, af, none⟩ :: rest) a w := s_val hF (x_move hx) hd h
theorem Fs.sg (hF : Fs n a l (ds := ds)) (hx : Ytmkjhdiepkpdoaa.ov l x = some v) (h : ∀ a', Fs n a' ((d, v) :: l) (ds := ds) → wpList P ops Q rest a' w) (hd : d < n := by decide) : wpList P ops Q (⟨some d, .assign x, ty, pos, af, none⟩ :: rest) a w := s_val hF (x_assign hx) hd h
theorem Fs.vl (hF : Fs n a l (ds := ds)) (hr : Runs P n l w op v) (h : ∀ a', Fs n a' ((d, v) :: l) (ds := ds) → wpList P ops Q rest a' w) (hd : d < n := by decide) : wpList P ops Q (⟨some d, op, ty, pos, af, none⟩ :: rest) a w := s_val hF hr hd h
theorem lssT (h : p < q) (hx : ov l x = some (.int k p)) (hy : ov l y = some (.int k q)) : Runs P n l w (.binOp .lss t x y t') (.bool true) := x_lss (decide_eq_true h) hx hy
theorem leqT (h : p ≤ q) (hx : ov l x = some (.int k p)) (hy : ov l y = some (.int k q)) : Runs P n l w (.binOp .leq t x y t') (.bool true) := x_leq (decide_eq_true h) hx hy
theorem gtrT (h : q < p) (hx : ov l x = some (.int k p)) (hy : ov l y = some (.int k q)) : Runs P n l w (.binOp .gtr t x y t') (.bool true) := x_gtr (decide_eq_true h) hx hy
theorem geqT (h : q ≤ p) (hx : ov l x = some (.int k p)) (hy : ov l y = some (.int k q)) : Runs P n l w (.binOp .geq t x y t') (.bool true) := x_geq (decide_eq_true h) hx hy
theorem eqlT (h : p = q) (hx : ov l x = some (.int k p)) (hy : ov l y = some (.int k q)) : Runs P n l w (.binOp .eql t x y t') (.bool true) := x_eql (decide_eq_true h) hx hy
theorem neqT (h : p ≠ q) (hx : ov l x = some (.int k p)) (hy : ov l y = some (.int k q)) : Runs P n l w (.binOp .neq t x y t') (.bool true) := x_neq (decide_eq_true h) hx hy
theorem lssF (h : ¬ p < q) (hx : ov l x = some (.int k p)) (hy : ov l y = some (.int k q)) : Runs P n l w (.binOp .lss t x y t') (.bool false) := x_lss (decide_eq_false h) hx hy
theorem leqF (h : ¬ p ≤ q) (hx : ov l x = some (.int k p)) (hy : ov l y = some (.int k q)) : Runs P n l w (.binOp .leq t x y t') (.bool false) := x_leq (decide_eq_false h) hx hy
theorem gtrF (h : ¬ q < p) (hx : ov l x = some (.int k p)) (hy : ov l y = some (.int k q)) : Runs P n l w (.binOp .gtr t x y t') (.bool false) := x_gtr (decide_eq_false h) hx hy
theorem geqF (h : ¬ q ≤ p) (hx : ov l x = some (.int k p)) (hy : ov l y = some (.int k q)) : Runs P n l w (.binOp .geq t x y t') (.bool false) := x_geq (decide_eq_false h) hx hy
theorem eqlF (h : ¬ p = q) (hx : ov l x = some (.int k p)) (hy : ov l y = some (.int k q)) : Runs P n l w (.binOp .eql t x y t') (.bool false) := x_eql (decide_eq_false h) hx hy
theorem neqF (h : ¬ p ≠ q) (hx : ov l x = some (.int k p)) (hy : ov l y = some (.int k q)) : Runs P n l w (.binOp .neq t x y t') (.bool false) := x_neq (decide_eq_false h) hx hy
end
theorem bt {w w' w'' : World} (h : Below w.heap.size w w') (k : Below w'.heap.size w' w'') : Below w.heap.size w w'' := h.trans (k.mono h.size)
end Go.Proofs.Ytmkjhdiepkpdoaa

namespace Go.Proofs.Ytmkjhdiepkpdoaa
open Go.RowKit Go.Shelf
set_option linter.unusedVariables false
set_option linter.unusedSimpArgs false
/-- A type of one cell that is no struct and no array. -/
def Flat (P : Program) (t : TypeId) : Bool := (match P.underlying t with | some (.struct _) | some (.array _ _) | none => false | _ => true) && ((P.info? t).map (·.size) == some 1)
/-- An array or struct of k cells. -/
def Wide (P : Program) (t : TypeId) (k : Nat) : Bool := (match P.underlying t with | some (.struct _) | some (.array _ _) => true | _ => false) && ((P.info? t).map (·.size) == some k)
section
variable {P : Program} {w : World}
theorem run_isAgg_flat {t : TypeId} (h : Flat P t = true) : (isAgg t).run P w = .ok false w := by
 simp only [Flat, Bool.and_eq_true] at h
 obtain ⟨h, _⟩ := h
 cases hu : P.underlying t with
 | none => rw [hu] at h; simp at h
 | some d => rw [hu] at h; cases d <;> simp at h <;> simp [isAgg, run_underlying hu]
theorem run_isAgg_wide {t : TypeId} {k : Nat} (h : Wide P t k = true) : (isAgg t).run P w = .ok true w := by
 simp only [Wide, Bool.and_eq_true] at h
 obtain ⟨h, _⟩ := h
 cases hu : P.underlying t with
 | none => rw [hu] at h; simp at h
 | some d => rw [hu] at h; cases d <;> simp at h <;> simp [isAgg, run_underlying hu]
theorem size_flat {t : TypeId} (h : Flat P t = true) : (P.info? t).map (·.size) = some 1 := by
 simp only [Flat, Bool.and_eq_true] at h
 simpa using h.2
theorem size_wide {t : TypeId} {k : Nat} (h : Wide P t k = true) : (P.info? t).map (·.size) = some k := by
 simp only [Wide, Bool.and_eq_true] at h
 simpa using h.2
theorem run_sizeOf_of {t : TypeId} {k : Nat} (h : (P.info? t).map (·.size) = some k) : (sizeOf t).run P w = .ok k w := by
 cases hi : P.info? t with
 | none => simp [hi] at h
 | some i =>
  simp [hi] at h
  simp [sizeOf, typeInfo, hi, h]
theorem m_load {t : TypeId} {ad : Addr} {v : Value} (ht : Flat P t = true) (hc : w.cell? ad = some v) : (Instr.loadAt t (.pointer (some ad))).run P w = .ok v w := by
 simp [Instr.loadAt, Instr.sureAddr, loadVar, run_isAgg_flat ht, hc]
theorem m_loadA {t : TypeId} {ad : Addr} {cs : List Value} (ht : Wide P t cs.length = true) (hc : ∀ j v, cs[j]? = some v → w.cell? (ad.add j) = some v) : (Instr.loadAt t (.pointer (some ad))).run P w = .ok (.agg cs.toArray) w := by
 have := run_loadCells_list (P := P) w ad cs hc
 simp [Instr.loadAt, Instr.sureAddr, loadVar, run_isAgg_wide ht, run_sizeOf_of (size_wide ht), this]
theorem m_loadW {t t0 : TypeId} {b : Nat} {cs : List Value} (ht : Wide P t cs.length = true) (hB : Blk w b t0 cs) : (Instr.loadAt t (.pointer (some ⟨b, 0, none⟩))).run P w = .ok (.agg cs.toArray) w :=
 m_loadA ht fun j v hj => by rw [addr_add0]; exact hB.cell hj
/-- A part of a block: a field. -/
theorem m_loadP {t t0 : TypeId} {b o : Nat} {cs vs : List Value} (ht : Wide P t vs.length = true) (hB : Blk w b t0 cs) (hv : (cs.drop o).take vs.length = vs) : (Instr.loadAt t (.pointer (some ⟨b, o, none⟩))).run P w = .ok (.agg vs.toArray) w :=
 m_loadA ht fun j v hj => by
  rw [addr_addn]
  refine hB.cell ?_
  rw [← hv, List.getElem?_take] at hj
  split at hj
  ·
   rwa [List.getElem?_drop] at hj
  ·
   cases hj
theorem m_store {ty t0 : TypeId} {b o : Nat} {cs vs : List Value} {v : Value} (hB : Blk w b t0 cs) (hv : v.cells = vs.toArray) (hi : (P.info? ty).map (·.size) = some vs.length) (ho : o + vs.length ≤ cs.length) (h1 : ∀ u ∈ vs, u.oneCell' = true) :
    (Instr.storeAt ty (.pointer (some ⟨b, o, none⟩)) v).run P w = .ok () (w.setRow b (cs.take o ++ vs ++ cs.drop (o + vs.length)).toArray) := by
  have := run_storeCells_at P b o t0 vs 0 cs.toArray w hB (by simpa using ho) h1
  simp at this
  simp [Instr.storeAt, Instr.sureAddr, storeVar, hv, run_sizeOf_of hi, this]
theorem blk_setRow {b t0 : Nat} {cs : List Value} (hB : Blk w b t0 cs) (ns : List Value) : Blk (w.setRow b ns.toArray) b t0 ns := setRow_heap w b cs.toArray _ t0 _ hB
theorem only_setRow {b : Nat} (ns : Array Value) : Only b w (w.setRow b ns) := by
 refine ⟨rfl, rfl, rfl, by simp [World.setRow], fun k hk => ?_⟩
 simp only [World.setRow, Array.getElem?_modify]
 rw [if_neg (by omega)]
theorem blk_alloc (t : TypeId) (cs : List Value) : Blk (w.alloc (.cells cs.toArray t)) w.heap.size t cs := by
 show (w.heap.push _)[w.heap.size]? = _
 simp
theorem below_alloc (o : Obj) : Below w.heap.size w (w.alloc o) := (Below.refl _ _).alloc (Nat.le_refl _) o
theorem size_alloc (o : Obj) : (w.alloc o).heap.size = w.heap.size + 1 := by
 show (w.heap.push o).size = _
 simp
theorem m_alloc {t : TypeId} {z : Value} {zs : List Value} (hz : (P.info? t).bind (·.zero) = some z) (hc : z.cells = zs.toArray) : (Instr.alloc t true (.tuple #[])).run P w = .ok (.pointer (some ⟨w.heap.size, 0, none⟩)) (w.alloc (.cells zs.toArray t)) := by
 cases hi : P.info? t with
 | none => simp [hi] at hz
 | some i =>
  simp [hi] at hz
  simp [Instr.alloc, zeroValue, typeInfo, hi, hz, newVar, newRow, hc]
theorem m_box {t : TypeId} {v : Value} {vs : List Value} (hc : v.cells = vs.toArray) : (Instr.box t v).run P w = .ok (.pointer (some ⟨w.heap.size, 0, none⟩)) (w.alloc (.cells vs.toArray t)) := by
 simp [Instr.box, newVar, newRow, hc]
theorem m_field {s : TypeId} {fs : Array Field} {f : Nat} {fd : Field} {b o : Nat} (hu : P.underlying s = some (.struct fs)) (hf : fs[f]? = some fd) (hz : ((P.info? fd.type).map (·.size) == some 0) = false) (hs : ((P.info? fd.type).map (·.size)).isSome = true) :
    (Instr.fieldAt s (.pointer (some ⟨b, o, none⟩)) f).run P w = .ok (.pointer (some ⟨b, o + fd.offset, none⟩)) w := by
  obtain ⟨k, hk⟩ := Option.isSome_iff_exists.1 hs
  have hk0 : k ≠ 0 := by
    rintro rfl
    rw [hk] at hz
    simp at hz
  simp [Instr.fieldAt, run_underlying hu, hf, Instr.sureAddr, fieldPlace, run_sizeOf_of hk, hk0, addr_addn]
end
section
variable {P : Program} {n d : Nat} {l : List (Nat × Value)} {w : World} {a : Act} {ops : Array Oper} {Q : Exit → Act → World → Prop} {rest : List Oper} {ty : TypeId} {pos : String} {af : Array Edge}
theorem s_alloc {ds : List Deferred} {t : TypeId} {zs : List Value} (hF : Fs n a l (ds := ds)) (hd : d < n) (hz : (P.info? t).bind (·.zero) = some (.agg zs.toArray))
    (h : ∀ w' b a', b = w.heap.size → Blk w' b t zs → Below w.heap.size w w' → w'.heap.size = w.heap.size + 1 → Fs n a' ((d, .pointer (some ⟨b, 0, none⟩)) :: l) (ds := ds) → wpList P ops Q rest a' w') :
    wpList P ops Q (⟨some d, .alloc t, ty, pos, af, none⟩ :: rest) a w :=
  s_new hF (fun o ho => by simp [execOp, ho, m_alloc hz rfl]) hd fun a' hF' => h _ _ a' rfl (blk_alloc t zs) (below_alloc _) (size_alloc _) hF'
theorem s_box {ds : List Deferred} {t : TypeId} {x : Operand} {v : Value} (vs : List Value) (hF : Fs n a l (ds := ds)) (hd : d < n) (hx : ov l x = some v) (hc : v.cells = vs.toArray)
    (h : ∀ w' b a', b = w.heap.size → Blk w' b t vs → Below w.heap.size w w' → w'.heap.size = w.heap.size + 1 → Fs n a' ((d, .pointer (some ⟨b, 0, none⟩)) :: l) (ds := ds) → wpList P ops Q rest a' w') :
    wpList P ops Q (⟨some d, .box t x, ty, pos, af, none⟩ :: rest) a w :=
  s_new hF (fun o ho => by simp [execOp, ho, hF.ov hx, m_box hc]) hd fun a' hF' => h _ _ a' rfl (blk_alloc t vs) (below_alloc _) (size_alloc _) hF'
/-- A store of one cell. -/
theorem s_put {ds : List Deferred} {t t0 : TypeId} {x y : Operand} {v : Value} {b o : Nat} {cs : List Value} (hF : Fs n a l (ds := ds)) (hx : ov l x = some (.pointer (some ⟨b, o, none⟩))) (hy : ov l y = some v) (ht : Flat P t = true) (hB : Blk w b t0 cs) (ho : o < cs.length) (h1 : v.oneCell' = true)
    (h : ∀ w', Blk w' b t0 (cs.set o v) → Only b w w' → wpList P ops Q rest a w') : wpList P ops Q (⟨none, .store t x y, ty, pos, af, none⟩ :: rest) a w := by
  have hc : v.cells = [v].toArray := by cases v <;> simp_all [Value.cells, Value.oneCell']
  refine s_sto hF hx hy (m_store hB hc (size_flat ht) (by simp; omega) (by simpa using h1)) (h _ ?_ (only_setRow _))
  have e : cs.take o ++ [v] ++ cs.drop (o + [v].length) = cs.set o v := by
    rw [List.set_eq_take_append_cons_drop, if_pos ho]
    simp
  rw [e]
  exact blk_setRow hB _
/-- A store of a whole block. -/
theorem s_putW {ds : List Deferred} {t t0 : TypeId} {x y : Operand} {b : Nat} {cs vs : List Value} (hF : Fs n a l (ds := ds)) (hx : ov l x = some (.pointer (some ⟨b, 0, none⟩))) (hy : ov l y = some (.agg vs.toArray)) (hi : (P.info? t).map (·.size) = some vs.length) (hB : Blk w b t0 cs) (ho : cs.length = vs.length) (h1 : ∀ u ∈ vs, u.oneCell' = true)
    (h : ∀ w', Blk w' b t0 vs → Only b w w' → wpList P ops Q rest a w') : wpList P ops Q (⟨none, .store t x y, ty, pos, af, none⟩ :: rest) a w := by
  refine s_sto hF hx hy (m_store hB rfl hi (by omega) h1) (h _ ?_ (only_setRow _))
  have e : cs.take 0 ++ vs ++ cs.drop (0 + vs.length) = vs := by simp [← ho]
  rw [e]
  exact blk_setRow hB _
/-- A store of a part. -/
theorem s_putP {ds : List Deferred} {t t0 : TypeId} {x y : Operand} {b o : Nat} {cs vs : List Value} (hF : Fs n a l (ds := ds)) (hx : ov l x = some (.pointer (some ⟨b, o, none⟩))) (hy : ov l y = some (.agg vs.toArray)) (hi : (P.info? t).map (·.size) = some vs.length) (hB : Blk w b t0 cs) (ho : o + vs.length ≤ cs.length) (h1 : ∀ u ∈ vs, u.oneCell' = true)
    (h : ∀ w', Blk w' b t0 (cs.take o ++ vs ++ cs.drop (o + vs.length)) → Only b w w' → wpList P ops Q rest a w') : wpList P ops Q (⟨none, .store t x y, ty, pos, af, none⟩ :: rest) a w :=
  s_sto hF hx hy (m_store hB rfl hi ho h1) (h _ (blk_setRow hB _) (only_setRow _))
/-- The result in a variable of its own. -/
theorem res_cell {fn : Func} {t : TypeId} {r : Nat} {b : Nat} {t0 : TypeId} {cs : List Value} {R : Ending → World → Prop} (hF : Fs n a l) (hr : fn.results = #[.cell r t]) (hl : lk l r = some (.pointer (some ⟨b, 0, none⟩))) (hB : Blk w b t0 cs) (ht : Wide P t cs.length = true) (h : R (.returned (.agg cs.toArray)) w) : bodyPost P fn R .ret a w := by
 refine ⟨hF.defers, _, ?_, h⟩
 have h1 := hF.slot r _ hl
 have h2 := m_loadW (P := P) ht hB
 simp [Instr.loadAt, Instr.sureAddr] at h2
 simp [results, hr, h1, asAddr, h2]
theorem res_slot {fn : Func} {r : Nat} {v : Value} {R : Ending → World → Prop} (hF : Fs n a l) (hr : fn.results = #[.tmp r]) (hl : lk l r = some v) (h : R (.returned v) w) : bodyPost P fn R .ret a w := by
 refine ⟨hF.defers, _, ?_, h⟩
 have h1 := hF.slot r _ hl
 simp [results, hr, h1]
theorem res_two {fn : Func} {r1 r2 : Nat} {v1 v2 : Value} {R : Ending → World → Prop} (hF : Fs n a l) (hr : fn.results = #[.tmp r1, .tmp r2]) (h1 : lk l r1 = some v1) (h2 : lk l r2 = some v2) (h : R (.returned (.tuple #[v1, v2])) w) : bodyPost P fn R .ret a w := by
 refine ⟨hF.defers, _, ?_, h⟩
 have h1 := hF.slot r1 _ h1
 have h2 := hF.slot r2 _ h2
 simp [results, hr, h1, h2]
theorem res_ct {fn : Func} {t : TypeId} {r r2 : Nat} {b : Nat} {t0 : TypeId} {cs : List Value} {v2 : Value} {R : Ending → World → Prop} (hF : Fs n a l) (hr : fn.results = #[.cell r t, .tmp r2]) (hl : lk l r = some (.pointer (some ⟨b, 0, none⟩))) (hB : Blk w b t0 cs) (ht : Wide P t cs.length = true) (h2 : lk l r2 = some v2) (h : R (.returned (.tuple #[.agg cs.toArray, v2])) w) : bodyPost P fn R .ret a w := by
 refine ⟨hF.defers, _, ?_, h⟩
 have h1 := hF.slot r _ hl
 have h3 := m_loadW (P := P) ht hB
 simp [Instr.loadAt, Instr.sureAddr] at h3
 have h2 := hF.slot r2 _ h2
 simp [results, hr, h1, h2, asAddr, h3]
theorem then_ret {K : Act → World → Prop} (h : Q .ret a w) : Exit.then K Q .ret a w := h
theorem inb_ret {id : Nat} (h : Q .ret a w) : Exit.inBlock id Q .ret a w := h
theorem post_normal {fn : Func} {R : Ending → World → Prop} (h : bodyPost P fn R .ret a w) : bodyPost P fn R .normal a w := h
theorem res_none {fn : Func} {R : Ending → World → Prop} (hF : Fs n a l) (hr : fn.results = #[]) (h : R (.returned (.tuple #[])) w) : bodyPost P fn R .ret a w := by
 refine ⟨hF.defers, _, ?_, h⟩
 simp [results, hr]
end
section
variable {P : Program} {n d : Nat} {l : List (Nat × Value)} {w : World} {a : Act} {ops : Array Oper} {Q : Exit → Act → World → Prop} {rest : List Oper} {v : Value} {ty : TypeId} {pos : String} {af : Array Edge} {ds : List Deferred} {t : TypeId} {x : Operand}
theorem Fs.ld {b t0 j : Nat} {cs : List Value} (hF : Fs n a l (ds := ds)) (m : Blk w b t0 cs) (ht : Flat P t = true) (hx : Ytmkjhdiepkpdoaa.ov l x = some (.pointer (some ⟨b, j, none⟩))) (hj : cs[j]? = some v) (h : ∀ a', Fs n a' ((d, v) :: l) (ds := ds) → wpList P ops Q rest a' w) (hd : d < n := by decide) : wpList P ops Q (⟨some d, .load t x, ty, pos, af, none⟩ :: rest) a w := s_val hF (x_load hx (m_load ht (m.cell hj))) hd h
end
end Go.Proofs.Ytmkjhdiepkpdoaa

namespace Go.Proofs.Ytmkjhdiepkpdoaa
open Go.RowKit Go.Shelf
set_option linter.unusedVariables false
set_option linter.unusedSimpArgs false
def encW (x : UInt32) : Value := .int .u32 (x.toNat : Int)
def encB (x : UInt8) : Value := .int .u8 (x.toNat : Int)
def encD (x : UInt64) : Value := .int .u64 (x.toNat : Int)
section
variable {P : Program} {n : Nat} {l : List (Nat × Value)} {w : World} {t t' : TypeId} {x y : Operand}
end
end Go.Proofs.Ytmkjhdiepkpdoaa

namespace Go.Proofs.Ytmkjhdiepkpdoaa
open Go.RowKit Go.Shelf
set_option linter.unusedVariables false
set_option linter.unusedSimpArgs false
section
variable {P : Program} {n d : Nat} {l : List (Nat × Value)} {w : World} {a : Act} {ops : Array Oper} {Q : Exit → Act → World → Prop} {C : World → Prop} {K : Act → Prop} {rest : List Oper} {ty : TypeId} {pos : String} {af : Array Edge} {f : FuncId} {ts : Array TypeId} {x y : Operand} {u1 u2 v : Value}
end
section
variable {P : Program} {Q : Exit → Act → World → Prop} {a : Act} {w : World} {c x y : Code} {K : Act → World → Prop} {n : Nat} {l : List (Nat × Value)}
/-- A loop that counts up to N. -/
theorem wp_up (N : Nat) (J : Nat → Act → World → Prop) (h0 : J 0 a w)
    (round : ∀ k a w, k ≤ N → J k a w → ∀ K : Act → World → Prop, (∀ a' w', k < N → J (k + 1) a' w' → K a' w') → c.wp P (Exit.then K Q) a w) : (Code.loop c).wp P Q a w := by
  refine wp_loop_ghost (fun m a w => m ≤ N ∧ J (N - m) a w) N ⟨Nat.le_refl _, by simpa using h0⟩ ?_
  rintro m a w ⟨hm, hJ⟩
  refine round (N - m) a w (by omega) hJ _ ?_
  intro a' w' hlt hJ'
  refine ⟨m - 1, by omega, by omega, ?_⟩
  rwa [show N - (m - 1) = N - m + 1 by omega]
/-- A region, then the rest. -/
theorem wp_rs {id : Nat} {l : List Oper} (h : ∀ K : Act → World → Prop, (∀ a w, y.wp P Q a w → K a w) → wpList P l.toArray (Exit.then K Q) l a w) : (Code.seq (.region id l.toArray false) y).wp P Q a w :=
 wp_seq_k fun K hK => wp_region_lit (h K hK)
/-- A condition that is known. -/
theorem wp_if {ds : List Deferred} {c : Operand} {b : Bool} (hF : Fs n a l (ds := ds)) (hc : ov l c = some (.bool b)) (h : (bif b then x else y).wp P Q a w) : (Code.cond c x y).wp P Q a w := by
 refine wp_cond (hF.ov hc) ?_
 cases b <;> exact h
/-- Both ways of a condition. -/
theorem wp_iff {ds : List Deferred} {c : Operand} {p : Prop} [Decidable p] (hF : Fs n a l (ds := ds)) (hc : ov l c = some (.bool (decide p))) (h1 : p → x.wp P Q a w) (h2 : ¬ p → y.wp P Q a w) : (Code.cond c x y).wp P Q a w := by
 refine wp_cond (hF.ov hc) ?_
 by_cases hp : p
 ·
  simpa [hp] using h1 hp
 ·
  simpa [hp] using h2 hp
theorem wp_ifb {ds : List Deferred} {c : Operand} {b : Bool} (hF : Fs n a l (ds := ds)) (hc : ov l c = some (.bool b)) (h1 : b = true → x.wp P Q a w) (h2 : b = false → y.wp P Q a w) : (Code.cond c x y).wp P Q a w := by
 refine wp_cond (hF.ov hc) ?_
 cases b
 ·
  exact h2 rfl
 ·
  exact h1 rfl
theorem drawn_below (w : World) : Below w.heap.size w { w with drawn := w.drawn + 1 } := (Below.refl _ _).drew
theorem Blk.drawn {b t : Nat} {cs : List Value} (h : Blk w b t cs) : Blk { w with drawn := w.drawn + 1 } b t cs := h
end
end Go.Proofs.Ytmkjhdiepkpdoaa

namespace Go.Proofs.Ytmkjhdiepkpdoaa
open Go.RowKit Go.Shelf
set_option linter.unusedVariables false
set_option linter.unusedSimpArgs false
/-- Which have come up, the newest first. -/
def lst (N : Nat) : List Nat → Array Bool
 | [] => Array.replicate N false
 | i :: d => (lst N d).setIfInBounds i true
def okTake (ops : Array Oper) (listed : Array Bool) (i : Nat) : Bool := Region.noSelect ops && Region.free .any ops listed i && (Region.ready .any ops listed).contains i
def QN (K : Act → World → Prop) : Exit → Act → World → Prop
 | .normal, a, w => K a w
 | _, _, _ => False
/-- An operation without a guard: its slot and kind. -/
def look (ops : Array Oper) (i : Nat) : Option (Option Tmp × Op) := (ops[i]?).bind fun o => match o.guard with | none => some (o.dst, o.op) | some _ => none
section
variable {P : Program} {ops : Array Oper} {K : Act → World → Prop} {S : World → Prop} {N n : Nat} {done : List Nat} {fuel : Nat} {a : Act} {w : World} {l : List (Nat × Value)}
theorem h_start {id : Nat} {Q : Exit → Act → World → Prop} (hm : P.follows .mixedOrders = true) (hN : ops.size = N) (hK : ∀ a w, K a w → Q .normal a w)
    (h : wpAnyH P .any ops (QN K) S N (lst N []) a w.drew) : (Code.region id ops true).wp P Q a w := by
  subst hN
  refine Code.wp_mono (fun e a w h => ?_) (wp_region_held hm h)
  cases e <;> first | exact hK _ _ h | exact (h : False).elim
end
end Go.Proofs.Ytmkjhdiepkpdoaa

namespace Go.Proofs.Ytmkjhdiepkpdoaa
open Go.RowKit Go.Shelf
set_option linter.unusedVariables false
set_option linter.unusedSimpArgs false
section
variable {P : Program} {ops : Array Oper} {K : Act → World → Prop} {S : World → Prop} {N n : Nat} {done : List Nat} {fuel : Nat} {a : Act} {w : World} {l : List (Nat × Value)}
theorem upon_QN {o : Oper} {R K K' : Act → World → Prop} {r : Result Next} (h : o.upon P a R (QN K) r) : o.upon P a R (QN K') r := by
 cases r with
 | ok x w' =>
  cases x with
  | enter f args =>
   refine Calls.mono h ?_
   intro e w'' he
   cases e with
   | returned v => exact he
   | panicked c => exact (he : False).elim
   | outgrown =>
    obtain ⟨a', w3, h3⟩ := he
    exact (h3 : False).elim
  | _ => exact h
 | halt x w' =>
  cases x with
  | panic v => exact (h : False).elim
  | _ => exact h
theorem h_one (i : Nat) {o : Oper} (ho : ops[i]? = some o) (hg : o.guard = none) (hr : Region.ready .any ops (lst N done) = [i])
    (h : wpList P ops (QN fun a' w' => S w' ∧ wpAnyH P .any ops (QN K) S fuel (lst N (i :: done)) a' w') [o] a w) : wpAnyH P .any ops (QN K) S (fuel + 1) (lst N done) a w := by
  refine wpAnyH_all hr (by simp) (fun j hj => ?_)
  simp at hj
  subst hj
  unfold wpOp
  simp only [ho]
  unfold wpList at h
  rw [if_pos (wanted_none o hg _)] at h ⊢
  rcases h with h | ⟨_, a', w', h⟩
  · exact .inl (upon_QN h)
  · exact (h : False).elim
/-- A step whose guard was itself passed over. -/
theorem s_grdu {ds : List Deferred} {Q : Exit → Act → World → Prop} {rest : List Oper} {op : Op} {ty : TypeId} {pos : String} {af : Array Edge} {d j : Nat} {want : Bool} (dj : Nat) (hF : Fs n a l (ds := ds)) (hj : (ops[j]?).bind (·.dst) = some dj) (hb : lk l dj = some undef) (hd : d < n)
    (h : ∀ a', Fs n a' ((d, undef) :: l) (ds := ds) → wpList P ops Q rest a' w) : wpList P ops Q (⟨some d, op, ty, pos, af, some (j, want)⟩ :: rest) a w := by
  have hs := hF.slot dj _ hb
  have hw : Region.wanted (⟨some d, op, ty, pos, af, some (j, want)⟩ : Oper) (yielded ops a.tmps) = false := by
    simp [Region.wanted, yielded, hj, hs, undef]
  unfold wpList
  rw [if_neg (by rw [hw]; exact Bool.false_ne_true)]
  exact h _ (hF.put d hd _)
end
end Go.Proofs.Ytmkjhdiepkpdoaa

namespace Go.Proofs.Ytmkjhdiepkpdoaa
open Go.RowKit Go.Shelf
set_option linter.unusedVariables false
set_option linter.unusedSimpArgs false
/-- An operation: its slot, kind and guard. -/
def lookG (ops : Array Oper) (i : Nat) : Option (Option Tmp × Op × Option (Nat × Bool)) := (ops[i]?).map fun o => (o.dst, o.op, o.guard)
theorem lookG_some {ops : Array Oper} {i : Nat} {d : Option Tmp} {op : Op} {g : Option (Nat × Bool)} (h : lookG ops i = some (d, op, g)) : ∃ o, ops[i]? = some o ∧ o.dst = d ∧ o.op = op ∧ o.guard = g := by
 unfold lookG at h
 cases ho : ops[i]? with
 | none => rw [ho] at h; cases h
 | some o =>
  rw [ho] at h
  simp at h
  exact ⟨o, rfl, h.1, h.2.1, h.2.2⟩
/-- A region's operations, out of a function's body. -/
def opsOf (k : Nat) : Code → Option (Array Oper)
 | .region id ops _ => if id = k then some ops else none
 | .seq a b => match opsOf k a with
  | some x => some x
  | none => opsOf k b
 | .cond _ a b => match opsOf k a with
  | some x => some x
  | none => opsOf k b
 | .block _ a => opsOf k a
 | .loop a => opsOf k a
 | .scope a => opsOf k a
 | .rangeFunc _ _ a b => match opsOf k a with
  | some x => some x
  | none => opsOf k b
 | _ => none
def regOps (f : Func) (k : Nat) : Array Oper := ((f.body.bind (opsOf k)).getD #[])
section
variable {P : Program} {ops : Array Oper} {K : Act → World → Prop} {S : World → Prop} {N n : Nat} {done : List Nat} {fuel : Nat} {a : Act} {w : World} {l : List (Nat × Value)}
/-- The region begins. -/
theorem d_start {id : Nat} {ops0 : Array Oper} {Q : Exit → Act → World → Prop} (S : World → Prop) (ho : ops = ops0) (hm : P.follows .mixedOrders = true) (hN : ops.size = N)
    (h : ∀ K : Act → World → Prop, (∀ a w, Q .normal a w → K a w) → wpAnyH P .any ops (QN K) S N (lst N []) a w.drew) : (Code.region id ops0 true).wp P Q a w := by
  subst ho
  exact h_start (K := fun a w => Q .normal a w) hm hN (fun _ _ h => h) (h _ fun _ _ h => h)
/-- Then the rest. -/
theorem d_seq {id : Nat} {ops0 : Array Oper} {Q : Exit → Act → World → Prop} {y : Code} (S : World → Prop) (ho : ops = ops0) (hm : P.follows .mixedOrders = true) (hN : ops.size = N)
    (h : ∀ K : Act → World → Prop, (∀ a w, y.wp P Q a w → K a w) → wpAnyH P .any ops (QN K) S N (lst N []) a w.drew) : (Code.seq (.region id ops0 true) y).wp P Q a w :=
  wp_seq_k fun K hK => d_start S ho hm hN fun K' hK' => h K' fun a w hy => hK' _ _ (hK _ _ hy)
/-- What only reads, wherever S holds. -/
theorem d_val {ds : List Deferred} (i d : Nat) {op : Op} {v : Value} (hF : Fs n a l (ds := ds)) (hS : S w) (hop : lookG ops i = some (some d, op, none)) (hr : ∀ W, S W → Runs P n l W op v) (hok : okTake ops (lst N done) i = true) (hd : d < n)
    (h : ∀ a', Fs n a' ((d, v) :: l) (ds := ds) → wpAnyH P .any ops (QN K) S fuel (lst N (i :: done)) a' w) : wpAnyH P .any ops (QN K) S (fuel + 1) (lst N done) a w := by
  obtain ⟨o, ho, hdst, hopp, hgu⟩ := lookG_some hop
  simp only [okTake, Bool.and_eq_true] at hok
  refine wpAnyH_take ho hok.1.1 hok.1.2 hok.2 (fun _ _ _ h => h) (.inl ⟨wanted_none o hgu _, fun W hW => hr W hW _ a hF o hopp⟩) hS ?_
  rw [hdst]
  exact h _ (hF.put d hd v)
/-- With a guard that says yes. -/
theorem d_valg {ds : List Deferred} (i d dj : Nat) {j : Nat} {want : Bool} {op : Op} {v : Value} (hF : Fs n a l (ds := ds)) (hS : S w) (hop : lookG ops i = some (some d, op, some (j, want))) (hj : (ops[j]?).bind (·.dst) = some dj) (hb : lk l dj = some (.bool want)) (hr : ∀ W, S W → Runs P n l W op v) (hok : okTake ops (lst N done) i = true) (hd : d < n)
    (h : ∀ a', Fs n a' ((d, v) :: l) (ds := ds) → wpAnyH P .any ops (QN K) S fuel (lst N (i :: done)) a' w) : wpAnyH P .any ops (QN K) S (fuel + 1) (lst N done) a w := by
  obtain ⟨o, ho, hdst, hopp, hgu⟩ := lookG_some hop
  simp only [okTake, Bool.and_eq_true] at hok
  refine wpAnyH_take ho hok.1.1 hok.1.2 hok.2 (fun _ _ _ h => h) (.inl ⟨by rw [wanted_some hF hgu hj hb]; simp, fun W hW => hr W hW _ a hF o hopp⟩) hS ?_
  rw [hdst]
  exact h _ (hF.put d hd v)
/-- With one that says no. -/
theorem d_skip {ds : List Deferred} (i d dj : Nat) {j : Nat} {want : Bool} {op : Op} (hF : Fs n a l (ds := ds)) (hS : S w) (hop : lookG ops i = some (some d, op, some (j, want))) (hj : (ops[j]?).bind (·.dst) = some dj) (hb : lk l dj = some (.bool (!want))) (hok : okTake ops (lst N done) i = true) (hd : d < n)
    (h : ∀ a', Fs n a' ((d, undef) :: l) (ds := ds) → wpAnyH P .any ops (QN K) S fuel (lst N (i :: done)) a' w) : wpAnyH P .any ops (QN K) S (fuel + 1) (lst N done) a w := by
  obtain ⟨o, ho, hdst, hopp, hgu⟩ := lookG_some hop
  simp only [okTake, Bool.and_eq_true] at hok
  refine wpAnyH_take ho hok.1.1 hok.1.2 hok.2 (fun _ _ _ h => h) (.inr ⟨by rw [wanted_some hF hgu hj hb]; cases want <;> rfl, rfl⟩) hS ?_
  rw [hdst]
  exact h _ (hF.put d hd _)
/-- What comes up alone, by the steps of a list. -/
theorem d_one (i : Nat) (d : Option Tmp) (op : Op) (ho : (ops[i]?).map (fun o => (o.dst, o.op, o.guard)) = some (d, op, none)) (hr : Region.ready .any ops (lst N done) = [i])
    (h : ∀ ty pos af, wpList P ops (QN fun a' w' => S w' ∧ wpAnyH P .any ops (QN K) S fuel (lst N (i :: done)) a' w') [⟨d, op, ty, pos, af, none⟩] a w) : wpAnyH P .any ops (QN K) S (fuel + 1) (lst N done) a w := by
  cases ho' : ops[i]? with
  | none => rw [ho'] at ho; cases ho
  | some o =>
    rw [ho'] at ho
    obtain ⟨d', op', ty, pos, af, g⟩ := o
    simp at ho
    obtain ⟨rfl, rfl, rfl⟩ := ho
    exact h_one i ho' rfl hr (h ty pos af)
/-- With a guard that says yes. -/
theorem d_oneg {ds : List Deferred} (i dj : Nat) (d : Option Tmp) (op : Op) {j : Nat} {want : Bool} (hF : Fs n a l (ds := ds)) (ho : (ops[i]?).map (fun o => (o.dst, o.op, o.guard)) = some (d, op, some (j, want))) (hr : Region.ready .any ops (lst N done) = [i]) (hj : (ops[j]?).bind (·.dst) = some dj) (hb : lk l dj = some (.bool want))
    (h : ∀ ty pos af, wpList P ops (QN fun a' w' => S w' ∧ wpAnyH P .any ops (QN K) S fuel (lst N (i :: done)) a' w') [⟨d, op, ty, pos, af, none⟩] a w) : wpAnyH P .any ops (QN K) S (fuel + 1) (lst N done) a w := by
  cases ho' : ops[i]? with
  | none => rw [ho'] at ho; cases ho
  | some o =>
    rw [ho'] at ho
    obtain ⟨d', op', ty, pos, af, g⟩ := o
    simp at ho
    obtain ⟨rfl, rfl, rfl⟩ := ho
    refine wpAnyH_all hr (by simp) (fun j' hj' => ?_)
    simp at hj'
    subst hj'
    unfold wpOp
    simp only [ho']
    have h := h ty pos af
    unfold wpList at h
    rw [if_pos (wanted_none _ rfl _)] at h
    rw [if_pos (by rw [wanted_some hF rfl hj hb]; simp)]
    rcases h with h | ⟨_, a', w', h⟩
    · exact .inl (upon_QN h)
    · exact (h : False).elim
/-- One of two that may come up. -/
theorem d_op (i : Nat) (d : Option Tmp) (op : Op) {R : Act → World → Prop} (ho : (ops[i]?).map (fun o => (o.dst, o.op, o.guard)) = some (d, op, none))
    (h : ∀ ty pos af, wpList P ops (QN R) [⟨d, op, ty, pos, af, none⟩] a w) : wpOp P ops (QN K) i R a w := by
  cases ho' : ops[i]? with
  | none => rw [ho'] at ho; cases ho
  | some o =>
    rw [ho'] at ho
    obtain ⟨d', op', ty, pos, af, g⟩ := o
    simp at ho
    obtain ⟨rfl, rfl, rfl⟩ := ho
    unfold wpOp
    simp only [ho']
    have h := h ty pos af
    unfold wpList at h
    rw [if_pos (wanted_none _ rfl _)] at h ⊢
    rcases h with h | ⟨_, a', w', h⟩
    · exact .inl (upon_QN h)
    · exact (h : False).elim
/-- Two may come up. -/
theorem d_two (i j : Nat) (hr : Region.ready .any ops (lst N done) = [i, j])
    (h1 : wpOp P ops (QN K) i (fun a' w' => S w' ∧ wpAnyH P .any ops (QN K) S fuel (lst N (i :: done)) a' w') a w)
    (h2 : wpOp P ops (QN K) j (fun a' w' => S w' ∧ wpAnyH P .any ops (QN K) S fuel (lst N (j :: done)) a' w') a w) : wpAnyH P .any ops (QN K) S (fuel + 1) (lst N done) a w := by
  refine wpAnyH_all hr (by simp) (fun m hm => ?_)
  simp at hm
  rcases hm with rfl | rfl
  · exact h1
  · exact h2
theorem d_end (hr : Region.ready .any ops (lst N done) = []) (h : K a w) : wpAnyH P .any ops (QN K) S fuel (lst N done) a w := wpAnyH_done hr h _
end
section
variable {P : Program} {ops : Array Oper} {K : Act → World → Prop} {S : World → Prop} {N n : Nat} {done : List Nat} {fuel : Nat} {a : Act} {w : World} {l : List (Nat × Value)} {ds : List Deferred}
theorem Fs.dv (hF : Fs n a l (ds := ds)) (i d : Nat) (op : Op) {v : Value} (hS : S w) (hr : ∀ W, S W → Runs P n l W op v) (h : ∀ a', Fs n a' ((d, v) :: l) (ds := ds) → wpAnyH P .any ops (QN K) S fuel (lst N (i :: done)) a' w) (hop : lookG ops i = some (some d, op, none) := by kernel_rfl) (hok : okTake ops (lst N done) i = true := by kernel_rfl) (hd : d < n := by decide) : wpAnyH P .any ops (QN K) S (fuel + 1) (lst N done) a w := d_val i d hF hS hop hr hok hd h
theorem Fs.dg (hF : Fs n a l (ds := ds)) (i d dj j : Nat) (want : Bool) (op : Op) {v : Value} (hS : S w) (hb : lk l dj = some (.bool want)) (hr : ∀ W, S W → Runs P n l W op v) (h : ∀ a', Fs n a' ((d, v) :: l) (ds := ds) → wpAnyH P .any ops (QN K) S fuel (lst N (i :: done)) a' w) (hop : lookG ops i = some (some d, op, some (j, want)) := by kernel_rfl) (hj : (ops[j]?).bind (·.dst) = some dj := by kernel_rfl) (hok : okTake ops (lst N done) i = true := by kernel_rfl) (hd : d < n := by decide) : wpAnyH P .any ops (QN K) S (fuel + 1) (lst N done) a w := d_valg i d dj hF hS hop hj hb hr hok hd h
theorem d1 (i : Nat) (d : Option Tmp) (op : Op) (h : ∀ ty pos af, wpList P ops (QN fun a' w' => S w' ∧ wpAnyH P .any ops (QN K) S fuel (lst N (i :: done)) a' w') [⟨d, op, ty, pos, af, none⟩] a w) (ho : (ops[i]?).map (fun o => (o.dst, o.op, o.guard)) = some (d, op, none) := by kernel_rfl) (hr : Region.ready .any ops (lst N done) = [i] := by kernel_rfl) : wpAnyH P .any ops (QN K) S (fuel + 1) (lst N done) a w := d_one i d op ho hr h
end
end Go.Proofs.Ytmkjhdiepkpdoaa

/- SHA-256 on lists. No program is named here. -/
namespace Go.Proofs.Ytmkjhdiepkpdoaa
set_option linter.unusedVariables false
def rotr (x : UInt32) (n : Nat) : UInt32 := (x <<< UInt32.ofNat (32 - n)) ||| (x >>> UInt32.ofNat n)
/-- A list that grows by what it holds. -/
def grow {α : Type} (f : List α → α) : Nat → List α → List α
 | 0, l => l
 | n + 1, l => grow f n (l ++ [f l])
def word4 (bs : List UInt8) (t : Nat) : UInt32 := (((bs.getD (4 * t) 0).toUInt32 <<< UInt32.ofNat 24 ||| (bs.getD (4 * t + 1) 0).toUInt32 <<< UInt32.ofNat 16) ||| (bs.getD (4 * t + 2) 0).toUInt32 <<< UInt32.ofNat 8) ||| (bs.getD (4 * t + 3) 0).toUInt32
def sig0 (x : UInt32) : UInt32 := (rotr x 7 ^^^ rotr x 18) ^^^ (x >>> UInt32.ofNat 3)
def sig1 (x : UInt32) : UInt32 := (rotr x 17 ^^^ rotr x 19) ^^^ (x >>> UInt32.ofNat 10)
def nextw (ws : List UInt32) : UInt32 := ((ws.getD (ws.length - 16) 0 + sig0 (ws.getD (ws.length - 15) 0)) + ws.getD (ws.length - 7) 0) + sig1 (ws.getD (ws.length - 2) 0)
@[irreducible] def first16 (bs : List UInt8) : List UInt32 := grow (fun l => word4 bs l.length) 16 []
@[irreducible] def sched (bs : List UInt8) : List UInt32 := grow nextw 48 (first16 bs)
/-- The rest of a list that is being filled. -/
def pad {α : Type} (n : Nat) (z : α) (l : List α) : List α := l ++ List.replicate (n - l.length) z
theorem getD_get {α : Type} (l : List α) (j : Nat) (z : α) (h : j < l.length) : l[j]? = some (l.getD j z) := by
 rw [List.getD_eq_getElem?_getD, List.getElem?_eq_getElem h]
 rfl
/-- The eight words of a round. -/
structure S8 where
 a : UInt32
 b : UInt32
 c : UInt32
 d : UInt32
 e : UInt32
 f : UInt32
 g : UInt32
 h : UInt32
def tmp1 (s : S8) (k w : UInt32) : UInt32 := (((s.h + ((rotr s.e 6 ^^^ rotr s.e 11) ^^^ rotr s.e 25)) + ((s.e &&& s.f) ^^^ (~~~s.e &&& s.g))) + k) + w
def tmp2 (s : S8) : UInt32 := ((rotr s.a 2 ^^^ rotr s.a 13) ^^^ rotr s.a 22) + (((s.a &&& s.b) ^^^ (s.a &&& s.c)) ^^^ (s.b &&& s.c))
def rnd (s : S8) (k w : UInt32) : S8 := ⟨tmp1 s k w + tmp2 s, s.a, s.b, s.c, s.d + tmp1 s k w, s.e, s.f, s.g⟩
/-- So many rounds more, from the tth on. -/
def rounds (ks ws : List UInt32) : Nat → Nat → S8 → S8
 | 0, _, s => s
 | n + 1, t, s => rounds ks ws n (t + 1) (rnd s (ks.getD t 0) (ws.getD t 0))
def S8.list (s : S8) : List UInt32 := [s.a, s.b, s.c, s.d, s.e, s.f, s.g, s.h]
def s8 (ws : List UInt32) : S8 := ⟨ws.getD 0 0, ws.getD 1 0, ws.getD 2 0, ws.getD 3 0, ws.getD 4 0, ws.getD 5 0, ws.getD 6 0, ws.getD 7 0⟩
/-- Of so many words the first have been added to. -/
def addUp (ws vs : List UInt32) (k : Nat) : List UInt32 := (List.range ws.length).map fun i => if i < k then ws.getD i 0 + vs.getD i 0 else ws.getD i 0
def mixW (ks : List UInt32) (ws : List UInt32) (bs : List UInt8) : List UInt32 := addUp ws (rounds ks (sched bs) 64 0 (s8 ws)).list 8
end Go.Proofs.Ytmkjhdiepkpdoaa

namespace Go.Proofs.Ytmkjhdiepkpdoaa
open Go.RowKit Go.Shelf
set_option linter.unusedVariables false
set_option linter.unusedSimpArgs false
section
variable {P : Program} {n : Nat} {l : List (Nat × Value)} {w : World} {t t' : TypeId} {x y : Operand}
end
/-! ### Slices -/
section
variable {P : Program} {w : World}
/-- The slice v reads as the bytes bs; they don't lie in block ex. -/
def RB (ex : Nat) (W : World) (v : Value) (bs : List UInt8) : Prop :=
 (∃ a c, v = .slice a 0 c ∧ bs = [] ∧ (a = none → c = 0)) ∨
 ∃ b off cap, v = .slice (some ⟨b, off, none⟩) bs.length cap ∧ bs.length ≤ cap ∧ b ≠ ex ∧ b < W.heap.size ∧ ∀ j u, bs[j]? = some u → W.cell? ⟨b, off + j, none⟩ = some (encB u)
theorem RB.form {ex : Nat} {W : World} {v : Value} {bs : List UInt8} (h : RB ex W v bs) : ∃ a c, v = .slice a bs.length c ∧ bs.length ≤ c ∧ (a = none → c = 0) := by
 rcases h with ⟨a, c, rfl, rfl, h⟩ | ⟨b, off, cap, rfl, h, _⟩
 ·
  exact ⟨a, c, rfl, Nat.zero_le _, h⟩
 ·
  exact ⟨_, cap, rfl, h, by simp⟩
theorem RB.below {ex : Nat} {W W' : World} {v : Value} {bs : List UInt8} (h : RB ex W v bs) (hB : Below W.heap.size W W') : RB ex W' v bs := by
 rcases h with h | ⟨b, off, cap, rfl, h1, hx, hl, h2⟩
 ·
  exact .inl h
 ·
  exact .inr ⟨b, off, cap, rfl, h1, hx, Nat.lt_of_lt_of_le hl hB.size, fun j u hj => (hB.cell (p := ⟨b, off + j, none⟩) hl).trans (h2 j u hj)⟩
theorem RB.only {ex : Nat} {W W' : World} {v : Value} {bs : List UInt8} (h : RB ex W v bs) (ho : Only ex W W') : RB ex W' v bs := by
 rcases h with h | ⟨b, off, cap, rfl, h1, hx, hl, h2⟩
 ·
  exact .inl h
 ·
  exact .inr ⟨b, off, cap, rfl, h1, hx, by rw [ho.size]; exact hl, fun j u hj => (World.cell?_of_block (w := W) (a := ⟨b, off + j, none⟩) (ho.block b hx)).trans (h2 j u hj)⟩
/-- It lies apart from a younger block. -/
theorem RB.young {ex ex' : Nat} {W : World} {v : Value} {bs : List UInt8} (h : RB ex W v bs) (he : W.heap.size ≤ ex') : RB ex' W v bs := by
 rcases h with h | ⟨b, off, cap, rfl, h1, hx, hl, h2⟩
 ·
  exact .inl h
 ·
  exact .inr ⟨b, off, cap, rfl, h1, by omega, hl, h2⟩
/-- All of it behind its first k. -/
theorem RB.from {ex : Nat} {W : World} {a : Option Addr} {N c : Nat} {bs : List UInt8} (h : RB ex W (.slice a N c) bs) {k : Nat} (hk : k ≤ bs.length) : RB ex W (.slice (if c = k then a else a.map (·.add k)) (N - k) (c - k)) (bs.drop k) := by
 rcases h with ⟨a', c', e, rfl, h⟩ | ⟨b, off, cap, e, h1, hx, hl, h2⟩
 ·
  cases e
  obtain rfl : k = 0 := by simpa using hk
  refine .inl ⟨_, _, rfl, by simp, ?_⟩
  intro h0
  have : a = none := by
   split at h0
   ·
    exact h0
   ·
    cases a <;> simp at h0 ⊢
  have := h this
  omega
 ·
  cases e
  by_cases hc : c = k
  ·
   have : bs.length = k := by omega
   refine .inl ⟨some ⟨b, off, none⟩, c - k, ?_, by rw [← this]; simp, by simp⟩
   simp [hc, this]
  ·
   refine .inr ⟨b, off + k, c - k, ?_, by simp; omega, hx, hl, fun j u hj => ?_⟩
   ·
    simp [hc, addr_addn]
   ·
    rw [List.getElem?_drop] at hj
    rw [Nat.add_assoc]
    exact h2 _ u hj
theorem RB.blk {ex : Nat} {W : World} {b t : Nat} {bs : List UInt8} (h : Blk W b t (bs.map encB)) (hx : b ≠ ex) : RB ex W (.slice (some ⟨b, 0, none⟩) bs.length bs.length) bs :=
 .inr ⟨b, 0, bs.length, rfl, Nat.le_refl _, hx, h.lt, fun j u hj => by rw [Nat.zero_add]; exact h.cell (by rw [List.getElem?_map, hj]; rfl)⟩
end
section
variable {P : Program} {n d : Nat} {l : List (Nat × Value)} {w : World} {a : Act} {ops : Array Oper} {Q : Exit → Act → World → Prop} {rest : List Oper} {ty : TypeId} {pos : String} {af : Array Edge}
end
end Go.Proofs.Ytmkjhdiepkpdoaa

namespace Go.Proofs.Ytmkjhdiepkpdoaa
open Go.RowKit Go.Shelf
set_option linter.unusedVariables false
set_option linter.unusedSimpArgs false
section
variable {P : Program} {n : Nat} {l : List (Nat × Value)} {w : World} {t t' : TypeId} {x y : Operand}
theorem x_not {b : Bool} (hx : ov l x = some (.bool b)) : Runs P n l w (.unOp .not t x) (.bool (!b)) := x_un hx (by simp [Op.unary])
theorem x_ext {vs : Array Value} {i : Nat} {v : Value} (hx : ov l x = some (.tuple vs)) (hv : vs[i]? = some v) : Runs P n l w (.extract x i) v :=
 fun ds a hF o ho => by simp [execOp, ho, hF.ov hx, Instr.extract, hv]
theorem x_eqS {p q : ByteArray} {b : Bool} (h : decide (p = q) = b) (hx : ov l x = some (.string p)) (hy : ov l y = some (.string q)) : Runs P n l w (.binOp .eql t x y t') (.bool b) :=
 x_bin hx hy fun W => ⟨by simp [eqGuard], by
  subst h
  simp [binOp, Op.stringOp]
  rw [Bool.eq_iff_iff]
  simp only [beq_iff_eq, decide_eq_true_eq]
  constructor
  ·
   intro h
   rw [ByteArray.toList_eq, ByteArray.toList_eq] at h
   exact ByteArray.ext (Array.ext' h)
  ·
   rintro rfl
   rfl⟩
theorem x_eqB {p q b : Bool} (ht : P.underlying t = some .bool) (h : (p == q) = b) (hx : ov l x = some (.bool p)) (hy : ov l y = some (.bool q)) : Runs P n l w (.binOp .eql t x y t') (.bool b) :=
 x_bin hx hy fun W => ⟨by simp [eqGuard], by
  subst h
  have h := fun d => run_equalIn_bool' (P := P) W d t p q ht
  have h := h 9999
  simp only [binOp, Op.equal, Op.maxDepth]
  simp [h]⟩
/-- Of an array's elements from the kth on. -/
def eqFrom (P : Program) (d e : Nat) (xs ys : Array Value) : List Nat → Sem Bool
 | [] => pure true
 | i :: is => do
  let a ← part e xs i
  let b ← part e ys i
  let r ← Op.equalIn d e a b
  if (!r) = true then pure false else eqFrom P d e xs ys is
end
section
variable {P : Program} {n d : Nat} {l : List (Nat × Value)} {w : World} {a : Act} {ops : Array Oper} {Q : Exit → Act → World → Prop} {rest : List Oper} {ty : TypeId} {pos : String} {af : Array Edge}
end
end Go.Proofs.Ytmkjhdiepkpdoaa

namespace Go.Proofs.Ytmkjhdiepkpdoaa
open Go.RowKit Go.Shelf
set_option linter.unusedVariables false
set_option linter.unusedSimpArgs false
/-- The slice v has n elements of k cells each; they read as cs. -/
def Rd (W : World) (v : Value) (k n : Nat) (cs : List Value) : Prop :=
 cs.length = n * k ∧ ((∃ a c, v = .slice a 0 c ∧ n = 0 ∧ (a = none → c = 0)) ∨
 ∃ b off cap, v = .slice (some ⟨b, off, none⟩) n cap ∧ n ≤ cap ∧ b < W.heap.size ∧ ∀ j u, cs[j]? = some u → W.cell? ⟨b, off + j, none⟩ = some u)
section
variable {W W' : World} {v : Value} {k n : Nat} {cs : List Value}
theorem Rd.nil (W : World) (k : Nat) : Rd W (.slice none 0 0) k 0 [] := ⟨by simp, .inl ⟨_, _, rfl, rfl, fun _ => rfl⟩⟩
theorem Rd.form (h : Rd W v k n cs) : ∃ a c, v = .slice a n c ∧ n ≤ c ∧ (a = none → c = 0) := by
 rcases h.2 with ⟨a, c, rfl, rfl, h0⟩ | ⟨b, off, cap, rfl, h0, _⟩
 ·
  exact ⟨a, c, rfl, Nat.zero_le _, h0⟩
 ·
  exact ⟨_, cap, rfl, h0, by simp⟩
theorem Rd.keep (h : Rd W v k n cs) (hs : W.heap.size ≤ W'.heap.size) (hk : ∀ b, v.ownBlock = some b → b < W.heap.size → W'.heap[b]? = W.heap[b]?) : Rd W' v k n cs := by
 refine ⟨h.1, ?_⟩
 rcases h.2 with h | ⟨b, off, cap, rfl, h1, hl, h2⟩
 ·
  exact .inl h
 ·
  exact .inr ⟨b, off, cap, rfl, h1, Nat.lt_of_lt_of_le hl hs, fun j u hj => (World.cell?_of_block (w := W) (a := ⟨b, off + j, none⟩) (hk b rfl hl)).trans (h2 j u hj)⟩
theorem Rd.below (h : Rd W v k n cs) (hB : Below W.heap.size W W') : Rd W' v k n cs := h.keep hB.size fun b _ hb => hB.block b hb
theorem Rd.upto {a : Option Addr} {N c : Nat} (h : Rd W (.slice a N c) k n cs) (m : Nat) (hm : m ≤ n) : Rd W (.slice a m c) k m (cs.take (m * k)) := by
 have hl : (cs.take (m * k)).length = m * k := by
  rw [List.length_take, h.1]
  exact Nat.min_eq_left (Nat.mul_le_mul_right k hm)
 refine ⟨hl, ?_⟩
 rcases h.2 with ⟨a', c', e, rfl, h0⟩ | ⟨b, off, cap, e, h1, hl, h2⟩
 ·
  cases e
  exact .inl ⟨_, _, by rw [Nat.le_zero.1 hm], Nat.le_zero.1 hm, h0⟩
 ·
  cases e
  refine .inr ⟨b, off, c, rfl, by omega, hl, fun j u hj => h2 j u ?_⟩
  rw [List.getElem?_take] at hj
  split at hj
  ·
   exact hj
  ·
   cases hj
theorem Rd.from {a : Option Addr} {N c : Nat} (h : Rd W (.slice a N c) k n cs) (m : Nat) (hm : m ≤ n) : Rd W (.slice (if c = m then a else a.map (·.add (m * k))) (N - m) (c - m)) k (n - m) (cs.drop (m * k)) := by
 refine ⟨by rw [List.length_drop, h.1, Nat.sub_mul], ?_⟩
 rcases h.2 with ⟨a', c', e, rfl, h0⟩ | ⟨b, off, cap, e, h1, hl, h2⟩
 ·
  cases e
  obtain rfl : m = 0 := Nat.le_zero.1 hm
  refine .inl ⟨_, _, rfl, rfl, ?_⟩
  intro hn
  have : a = none := by
   split at hn
   ·
    exact hn
   ·
    cases a <;> simp at hn ⊢
  have := h0 this
  omega
 ·
  cases e
  by_cases hc : c = m
  ·
   refine .inl ⟨some ⟨b, off, none⟩, c - m, ?_, by omega, by simp⟩
   rw [if_pos hc]
   congr 1
   omega
  ·
   refine .inr ⟨b, off + m * k, c - m, ?_, by omega, hl, fun j u hj => ?_⟩
   ·
    rw [if_neg hc]
    simp [addr_addn]
   ·
    rw [List.getElem?_drop] at hj
    have := h2 _ u hj
    rwa [Nat.add_assoc]
theorem Rd.cell {b off N c : Nat} (h : Rd W (.slice (some ⟨b, off, none⟩) N c) k n cs) {j : Nat} {u : Value} (hj : cs[j]? = some u) : W.cell? ⟨b, off + j, none⟩ = some u := by
 rcases h.2 with ⟨a', c', e, rfl, h0⟩ | ⟨b', off', cap, e, h1, hl, h2⟩
 ·
  obtain rfl : cs = [] := List.eq_nil_of_length_eq_zero (by simpa using h.1)
  simp at hj
 ·
  cases e
  exact h2 j u hj
theorem Rd.some (h : Rd W v k n cs) (hn : 0 < n) : ∃ b off c, v = .slice (some ⟨b, off, none⟩) n c ∧ b < W.heap.size := by
 rcases h.2 with ⟨a', c', e, rfl, h0⟩ | ⟨b', off', cap, e, h1, hl, h2⟩
 ·
  omega
 ·
  exact ⟨b', off', cap, e, hl⟩
theorem Rd.blk {b e : Nat} (hB : Blk W b e cs) (hl : cs.length = n * k) : Rd W (.slice (Option.some ⟨b, 0, none⟩) n n) k n cs :=
 ⟨hl, .inr ⟨b, 0, n, rfl, Nat.le_refl _, hB.lt, fun j u hj => by rw [Nat.zero_add]; exact hB.cell hj⟩⟩
theorem Rd.own {base e : Nat} (h : W.ownsRow base e k v n cs) : Rd W v k n cs := by
 have hh := h
 refine ⟨h.1, ?_⟩
 rcases h.2 with ⟨rfl, h0⟩ | ⟨g, cap, cur, rfl, hg, hb, h1, h2, h3, h4⟩
 ·
  exact .inl ⟨_, _, rfl, h0, fun _ => rfl⟩
 ·
  refine .inr ⟨g, 0, cap, rfl, h1, (Array.getElem?_eq_some_iff.1 hb).1, fun j u hj => ?_⟩
  have := hh.cells (g := g) rfl j u hj
  rwa [addr_addn] at this
theorem Rd.lt (h : Rd W v k n cs) (hn : 0 < n) {b : Nat} (hb : v.ownBlock = Option.some b) : b < W.heap.size := by
 obtain ⟨b', off, c, rfl, hl⟩ := h.some hn
 cases hb
 exact hl
end
/-- A slice of slices of bytes. -/
def RM (W : World) (v : Value) (ls : List (List UInt8)) : Prop := ∃ vals, Rd W v 1 ls.length vals ∧ ∀ (i : Nat) u l, vals[i]? = some u → ls[i]? = some l → RB W.heap.size W u l
section
variable {W W' : World} {v : Value} {ls : List (List UInt8)}
theorem RM.nil (W : World) : RM W (.slice none 0 0) [] := ⟨[], Rd.nil W 1, fun i v l h => by simp at h⟩
theorem RM.form (h : RM W v ls) : ∃ a c, v = .slice a ls.length c ∧ ls.length ≤ c := by
 obtain ⟨vals, hv, _⟩ := h
 obtain ⟨a, c, h1, h2, _⟩ := hv.form
 exact ⟨a, c, h1, h2⟩
theorem RM.below (h : RM W v ls) (hB : Below W.heap.size W W') : RM W' v ls := by
 obtain ⟨vals, hv, hr⟩ := h
 exact ⟨vals, hv.below hB, fun i u l h1 h2 => ((hr i u l h1 h2).below hB).young (ex' := W'.heap.size) (Nat.le_refl _)⟩
theorem RM.row (h : RM W v ls) {i : Nat} (hi : i < ls.length) :
    ∃ b off c u, v = .slice (some ⟨b, off, none⟩) ls.length c ∧ ∀ W', Below W.heap.size W W' → W'.cell? ⟨b, off + i, none⟩ = some u ∧ ∀ ex, W.heap.size ≤ ex → RB ex W' u (ls.getD i []) := by
  obtain ⟨vals, hv, hr⟩ := h
  obtain ⟨b, off, c, rfl, hb⟩ := hv.some (by omega)
  have hl := hv.1
  obtain ⟨u, hu⟩ : ∃ u, vals[i]? = some u := ⟨_, List.getElem?_eq_getElem (by omega)⟩
  exact ⟨b, off, c, u, rfl, fun W' hB => ⟨(hB.cell (p := ⟨b, off + i, none⟩) hb).trans (hv.cell hu), fun ex hx => ((hr i u _ hu (getD_get ls i [] hi)).young hx).below hB⟩⟩
theorem RM.upto {a : Option Addr} {N c : Nat} (h : RM W (.slice a N c) ls) (m : Nat) (hm : m ≤ ls.length) : RM W (.slice a m c) (ls.take m) := by
 obtain ⟨vals, hv, hr⟩ := h
 refine ⟨vals.take m, ?_, fun i u l h1 h2 => ?_⟩
 ·
  have := hv.upto m hm
  rw [Nat.mul_one] at this
  rwa [show (ls.take m).length = m by rw [List.length_take]; omega]
 ·
  rw [List.getElem?_take] at h1 h2
  split at h1
  ·
   next hi => rw [if_pos hi] at h2; exact hr i u l h1 h2
  ·
   cases h1
theorem RM.from {a : Option Addr} {N c : Nat} (h : RM W (.slice a N c) ls) (m : Nat) (hm : m ≤ ls.length) : RM W (.slice (if c = m then a else a.map (·.add (m * 1))) (N - m) (c - m)) (ls.drop m) := by
 obtain ⟨vals, hv, hr⟩ := h
 refine ⟨vals.drop m, ?_, fun i u l h1 h2 => ?_⟩
 ·
  have := hv.from m hm
  rw [List.length_drop]
  simpa only [Nat.mul_one] using this
 ·
  rw [List.getElem?_drop] at h1 h2
  exact hr _ u l h1 h2
end
/-! ### Addresses -/
section
variable {P : Program} {w : World}
theorem m_ixsK {t : TypeId} {e k : Nat} {b o n c : Nat} {ik : IntKind} {i : Int} (j : Nat) (hu : P.underlying t = some (.slice e)) (he : (P.info? e).map (·.size) = some k) (hi : i = (j : Int)) (hj : j < n) :
    (Instr.indexAt t (.slice (some ⟨b, o, none⟩) n c) (.int ik i)).run P w = .ok (.pointer (some ⟨b, o + j * k, none⟩)) w := by
  subst hi
  simp [Instr.indexAt, asIntOf, run_underlying hu, run_sizeOf_of he, addr_addn, hj]
theorem m_sliceUK {t : TypeId} {e k : Nat} {a : Option Addr} {N c : Nat} {ik : IntKind} {i : Int} (j : Nat) (hu : P.underlying t = some (.slice e)) (he : (P.info? e).map (·.size) = some k) (hi : i = (j : Int)) (hj : j ≤ c) :
    (Instr.sliceAt t (.slice a N c) none (some (.int ik i)) none).run P w = .ok (.slice a j c) w := by
  subst hi
  have h1 : (j : Int) ≤ (c : Int) := by omega
  cases a <;> simp [Instr.sliceAt, Instr.slice, run_underlying hu, Instr.sliceBounds, Instr.sliceBound, asIntOf, h1, run_sizeOf_of he, Addr.add] <;> (intro hh; omega)
end
/-! ### An element's type -/
/-- t is a slice of e; an element has k cells and kb bytes. -/
structure Elem (P : Program) (t e k kb : Nat) : Prop where
 under : P.underlying t = some (.slice e)
 info : ∃ i z, P.info? e = some i ∧ i.zero = some z ∧ i.size = k ∧ i.bytes = kb ∧ z.cells.size = k
 pos : 0 < k
def elemB (P : Program) (t e k kb : Nat) : Bool :=
 (match P.underlying t with | some (.slice e') => Nat.beq e' e | _ => false) && (match P.info? e with | some i => Nat.beq i.size k && Nat.beq i.bytes kb && (match i.zero with | some z => Nat.beq z.cells.size k | none => false) | none => false) && Nat.ble 1 k
theorem elem_of {P : Program} {t e k kb : Nat} (h : elemB P t e k kb = true) : Elem P t e k kb := by
 simp only [elemB, Bool.and_eq_true] at h
 obtain ⟨⟨h1, h2⟩, h3⟩ := h
 refine ⟨?_, ?_, Nat.le_of_ble_eq_true h3⟩
 ·
  split at h1
  ·
   next e' he => rw [he, Nat.eq_of_beq_eq_true h1]
  ·
   cases h1
 ·
  split at h2
  ·
   next i hi =>
   simp only [Bool.and_eq_true] at h2
   obtain ⟨⟨h4, h5⟩, h6⟩ := h2
   split at h6
   ·
    next z hz => exact ⟨i, z, hi, hz, Nat.eq_of_beq_eq_true h4, Nat.eq_of_beq_eq_true h5, Nat.eq_of_beq_eq_true h6⟩
   ·
    cases h6
  ·
   cases h2
theorem Elem.size {P : Program} {t e k kb : Nat} (h : Elem P t e k kb) : (P.info? e).map (·.size) = some k := by
 obtain ⟨i, z, h1, _, h2, _⟩ := h.info
 rw [h1, ← h2]
 rfl
/-- Behind an append the slice lies where it lay, or in a new block. -/
theorem append_whereG {P : Program} (w : World) (base : Nat) (t ty e : TypeId) (i : TypeInfo) (z : Value) (ht : P.underlying t = some (.slice e)) (hi : P.info? e = some i) (hz : i.zero = some z)
    (v : Value) (n : Nat) (xs : List Value) (hown : w.ownsRow base e i.size v n xs)
    (a : Addr) (m c : Nat) (news : List Value) (hl : news.length = m * i.size) (hnews : ∀ j u, news[j]? = some u → w.cell? (a.add j) = some u) (h1 : ∀ u ∈ news, u.oneCell' = true)
    (h63 : n + m ≤ maxLen) (hbytes : (n + m) * i.bytes ≤ 140737488355328) {v' : Value} {w' : World} (hr : (Builtin.append_ #[t, t] ty #[v, .slice (some a) m c]).run P w = .ok v' w') (hnil : v' = .slice none 0 0 ↔ v = .slice none 0 0 ∧ m = 0) :
    ∀ k, v'.ownBlock = some k → v.ownBlock = some k ∨ w.heap.size ≤ k := by
  have hsmall : n + m ≤ 9223372036854775807 := by simp only [maxLen] at h63; omega
  rcases hown.2 with ⟨rfl, rfl⟩ | ⟨g, cap, cur, rfl, _⟩
  · rcases Nat.eq_zero_or_pos m with hm | hm
    · have := hnil.2 ⟨rfl, hm⟩
      subst this
      intro k hk
      cases hk
    · have h2 := run_append_nil (P := P) w t ty e i z ht hi hz a m c news hl hnews hm (by omega) (by simp only [Nat.zero_add] at hbytes; omega)
      rw [hr] at h2
      simp only [Result.ok.injEq] at h2
      intro k hk
      rw [h2.1] at hk
      cases hk
      exact .inr (Nat.le_refl _)
  · by_cases hroom : n + m ≤ cap
    · obtain ⟨w2, h2, _⟩ := run_append_fits (P := P) w base t ty e i i.size ht hi rfl g n cap xs hown a m c news hl hnews h1 hroom
      rw [hr] at h2
      simp only [Result.ok.injEq] at h2
      intro k hk
      rw [h2.1] at hk
      exact .inl hk
    · have h2 := run_append_grow (P := P) w t ty e i z ht hi hz ⟨g, 0, none⟩ n cap xs hown.1 (hown.cells (g := g) rfl) a m c news hl hnews (by omega) (by omega) (growslice_fits (by omega) hbytes)
      rw [hr] at h2
      simp only [Result.ok.injEq] at h2
      intro k hk
      rw [h2.1] at hk
      cases hk
      exact .inr (Nat.le_refl _)
theorem grown_below {v : Value} {w w' : World} {B : Nat} (h : w.grownBy w' v.ownBlock) (hB : B ≤ w.heap.size) (hv : ∀ k, v.ownBlock = some k → B ≤ k) : Below B w w' := (Below.refl B w).grown h hB hv
theorem own_below {base e k n : Nat} {v : Value} {xs : List Value} {w w' : World} (h : w.ownsRow base e k v n xs) (hB : Below w.heap.size w w') : w'.ownsRow base e k v n xs := by
 refine ⟨h.1, ?_⟩
 rcases h.2 with h0 | ⟨g, cap, cur, rfl, hg, hb, h1⟩
 ·
  exact .inl h0
 ·
  exact .inr ⟨g, cap, cur, rfl, hg, (hB.block g (Array.getElem?_eq_some_iff.1 hb).1).trans hb, h1⟩
theorem own_keep {base e k n : Nat} {v : Value} {xs : List Value} {w w' : World} (h : w.ownsRow base e k v n xs) (hk : ∀ j, v.ownBlock = some j → w'.heap[j]? = w.heap[j]?) : w'.ownsRow base e k v n xs := by
 refine ⟨h.1, ?_⟩
 rcases h.2 with h0 | ⟨g, cap, cur, rfl, hg, hb, h1⟩
 ·
  exact .inl h0
 ·
  exact .inr ⟨g, cap, cur, rfl, hg, (hk g rfl).trans hb, h1⟩
section
variable {P : Program} {n d : Nat} {l : List (Nat × Value)} {w : World} {a : Act} {ops : Array Oper} {Q : Exit → Act → World → Prop} {rest : List Oper} {ty : TypeId} {pos : String} {af : Array Edge} {x y : Operand} {v u : Value} {base t e k kb m p : Nat} {xs ys : List Value}
/-- An append to a slice that the call owns. -/
theorem s_appG {ds : List Deferred} (hE : Elem P t e k kb) (hF : Fs n a l (ds := ds)) (hd : d < n) (hx : ov l x = some v) (hy : ov l y = some u) (hO : w.ownsRow base e k v m xs) (hR : Rd w u k p ys) (h1 : ∀ u ∈ ys, u.oneCell' = true) (hlen : (m + p) * kb ≤ 140737488355328) (hml : m + p ≤ maxLen) (hb : base ≤ w.heap.size)
    (h : ∀ v' w' a', w'.ownsRow base e k v' (m + p) (xs ++ ys) → w.grownBy w' v.ownBlock → (∀ j, v'.ownBlock = some j → v.ownBlock = some j ∨ w.heap.size ≤ j) → Fs n a' ((d, v') :: l) (ds := ds) → wpList P ops Q rest a' w') :
    wpList P ops Q (⟨some d, .call { callee := .builtin .append, args := #[x, y], argTypes := #[t, t] }, ty, pos, af, none⟩ :: rest) a w := by
  obtain ⟨i, z, hi, hz, hs, hby, hzc⟩ := hE.info
  have ht := hE.under
  have key : ∀ (ad : Addr) (q c : Nat), u = .slice (some ad) q c → q = p → (∀ j u, ys[j]? = some u → w.cell? (ad.add j) = some u) → wpList P ops Q (⟨some d, .call { callee := .builtin .append, args := #[x, y], argTypes := #[t, t] }, ty, pos, af, none⟩ :: rest) a w := by
    rintro ad q c rfl rfl hsrc
    have hO' : w.ownsRow base e i.size v m xs := by rw [hs]; exact hO
    obtain ⟨v', w', hr, h2, h3, h4⟩ := run_append_own (P := P) w base t ty e i z k kb ht hi hz hs hby hzc hE.pos v m xs hO ad q c ys hR.1 hsrc h1 hml hlen hb
    have hw := append_whereG w base t ty e i z ht hi hz v m xs hO' ad q c ys (by rw [hs]; exact hR.1) hsrc h1 hml (by rw [hby]; exact hlen) hr h4
    unfold wpList
    rw [if_pos (wanted_none _ rfl _)]
    refine .inl ?_
    unfold Oper.wp
    rw [show (execOp a.eval ⟨some d, .call { callee := .builtin .append, args := #[x, y], argTypes := #[t, t] }, ty, pos, af, none⟩).run P w = .ok (.value v') w' from by simp [execOp, resolve, invoke, builtin, hF.ov hx, hF.ov hy, hr]]
    exact h v' w' _ h2 h3 hw (hF.put d hd v')
  have hR' := hR
  rcases hR.2 with ⟨ad, c, rfl, rfl, hn⟩ | ⟨b, off, cap, rfl, h2, hl, h3⟩
  · obtain rfl : ys = [] := List.eq_nil_of_length_eq_zero (by simpa using hR.1)
    cases ad with
    | none =>
      have := hn rfl
      subst this
      refine wpList_append_own_none rfl x y t rfl base e i k ht hi v m xs (hF.ov hx) hO (hF.ov hy) ?_
      exact h v w _ (by simpa using hO) ⟨rfl, rfl, rfl, Nat.le_refl _, fun _ _ _ => rfl⟩ (fun k hk => .inl hk) (hF.put d hd v)
    | some ad => exact key ad 0 c rfl rfl (fun j u hj => by simp at hj)
  · refine key ⟨b, off, none⟩ p cap rfl rfl fun j u hj => ?_
    rw [addr_addn]
    exact h3 j u hj
/-- A slice literal. -/
theorem s_litG {ds : List Deferred} {len : Nat} {parts : List (Nat × Operand)} (vs : List Value) (hE : Elem P t e k kb) (hF : Fs n a l (ds := ds)) (hd : d < n) (hx : parts.map (fun p => (p.1, ov l p.2)) = (vs.zipIdx 0).map (fun p => (p.2, some p.1))) (hv : ∀ v ∈ vs, v.cells.size = k) (hl : len = vs.length) (hp : 0 < len) (hm : len * k ≤ 2 ^ 24)
    (h : ∀ w' b a', b = w.heap.size → Blk w' b e (vs.flatMap fun v => v.cells.toList) → Below w.heap.size w w' → w'.heap.size = w.heap.size + 1 → Fs n a' ((d, .slice (some ⟨b, 0, none⟩) len len) :: l) (ds := ds) → wpList P ops Q rest a' w') :
    wpList P ops Q (⟨some d, .buildSlice t len parts.toArray, ty, pos, af, none⟩ :: rest) a w := by
  obtain ⟨i, z, hi, hz, hs, hby, hzc⟩ := hE.info
  have hk := hE.pos
  have hpk : 0 < len * k := Nat.mul_pos hp hk
  refine s_new (w' := w.alloc (.cells (vs.flatMap fun v => v.cells.toList).toArray e)) (v := .slice (some ⟨w.heap.size, 0, none⟩) len len) hF (fun o ho => ?_) hd fun a' hF' => h _ _ a' rfl (blk_alloc e _) (below_alloc _) (size_alloc _) hF'
  have hv' : (parts.toArray.map fun (i, x) => (i, a.eval x)).toList = (vs.zipIdx 0).map fun x => (x.2, x.1) := by
    have := ov_parts hF parts ((vs.zipIdx 0).map fun x => (x.2, x.1)) (by rw [hx, List.map_map]; rfl)
    rw [← this]
    simp
  have := run_buildSlice (P := P) w t e len (parts.toArray.map fun (i, x) => (i, a.eval x)) (vs.flatMap fun v => v.cells.toList).toArray i z hE.under hi hz (by rw [hs]; omega) (by rw [hs]; omega) (by
    rw [hv', hs]
    exact Great.fill_whole hk vs _ hv (by rw [← hl]; simp))
  unfold execOp
  simp only [ho, Sem.run_bind, this, Result.andThen_ok]
  rfl
end
end Go.Proofs.Ytmkjhdiepkpdoaa

namespace Go.Proofs.Ytmkjhdiepkpdoaa
open Go.RowKit Go.Shelf
set_option linter.unusedVariables false
set_option linter.unusedSimpArgs false
section
variable {P : Program} {n d : Nat} {l : List (Nat × Value)} {w : World} {a : Act} {ops : Array Oper} {Q : Exit → Act → World → Prop} {rest : List Oper} {ty : TypeId} {pos : String} {af : Array Edge} {f : FuncId} {ts : Array TypeId} {v : Value}
/-- A call that tells v and makes memory at most. -/
theorem s_callB {ds : List Deferred} {xs : List Operand} (vals : List Value) (hF : Fs n a l (ds := ds)) (hent : Enters P f) (hargs : xs.map (ov l) = vals.map some) (hd : d < n) (hC : Calls P f vals.toArray w fun e w' => e = .returned v ∧ Below w.heap.size w w')
    (h : ∀ w' a', Below w.heap.size w w' → Fs n a' ((d, v) :: l) (ds := ds) → wpList P ops Q rest a' w') : wpList P ops Q (⟨some d, .call { callee := .value (.func f), args := xs.toArray, argTypes := ts }, ty, pos, af, none⟩ :: rest) a w :=
  s_call (R := fun u w' => u = v ∧ Below w.heap.size w w') hF vals hent hargs hd (hC.mono fun e w' he => ⟨v, he.1, rfl, he.2⟩) (by rintro _ w' a' ⟨rfl, B⟩ hF'; exact h w' a' B hF')
/-- One that leaves the world. -/
theorem s_callS {ds : List Deferred} {xs : List Operand} (vals : List Value) (hF : Fs n a l (ds := ds)) (hent : Enters P f) (hargs : xs.map (ov l) = vals.map some) (hd : d < n) (hC : Calls P f vals.toArray w fun e w' => e = .returned v ∧ w' = w)
    (h : ∀ a', Fs n a' ((d, v) :: l) (ds := ds) → wpList P ops Q rest a' w) : wpList P ops Q (⟨some d, .call { callee := .value (.func f), args := xs.toArray, argTypes := ts }, ty, pos, af, none⟩ :: rest) a w :=
  s_call (R := fun u w' => u = v ∧ w' = w) hF vals hent hargs hd (hC.mono fun e w' he => ⟨v, he.1, rfl, he.2⟩) (by rintro _ _ a' ⟨rfl, rfl⟩ hF'; exact h a' hF')
/-- One of whose answer R is known. -/
theorem s_callR {ds : List Deferred} {xs : List Operand} {R : Value → World → Prop} (vals : List Value) (hF : Fs n a l (ds := ds)) (hent : Enters P f) (hargs : xs.map (ov l) = vals.map some) (hd : d < n) (hC : Calls P f vals.toArray w fun e w' => ∃ v, e = .returned v ∧ R v w' ∧ Below w.heap.size w w')
    (h : ∀ v w' a', R v w' → Below w.heap.size w w' → Fs n a' ((d, v) :: l) (ds := ds) → wpList P ops Q rest a' w') : wpList P ops Q (⟨some d, .call { callee := .value (.func f), args := xs.toArray, argTypes := ts }, ty, pos, af, none⟩ :: rest) a w :=
  s_call (R := fun u w' => R u w' ∧ Below w.heap.size w w') hF vals hent hargs hd hC (by rintro v w' a' ⟨hR, B⟩ hF'; exact h v w' a' hR B hF')
end
/-- No old block but b has turned. -/
structure Kq (b : Nat) (w w' : World) : Prop where
 os : w'.os = w.os
 tape : w'.tape = w.tape
 output : w'.output = w.output
 size : w.heap.size ≤ w'.heap.size
 block : ∀ k, k < w.heap.size → k ≠ b → w'.heap[k]? = w.heap[k]?
section
variable {b : Nat} {w w' w'' : World}
theorem Kq.refl (b : Nat) (w : World) : Kq b w w := ⟨rfl, rfl, rfl, Nat.le_refl _, fun _ _ _ => rfl⟩
theorem Kq.below (h : Kq b w w') (B : Below w'.heap.size w' w'') : Kq b w w'' :=
 ⟨B.os.trans h.os, B.tape.trans h.tape, B.output.trans h.output, Nat.le_trans h.size B.size, fun k hk hb => (B.block k (Nat.lt_of_lt_of_le hk h.size)).trans (h.block k hk hb)⟩
theorem Kq.only {c : Nat} (h : Kq b w w') (o : Only c w' w'') (hc : c = b ∨ w.heap.size ≤ c) : Kq b w w'' :=
 ⟨o.os.trans h.os, o.tape.trans h.tape, o.output.trans h.output, by rw [o.size]; exact h.size, fun k hk hb => (o.block k (by omega)).trans (h.block k hk hb)⟩
theorem Kq.grown {v : Value} (h : Kq b w w') (g : w'.grownBy w'' v.ownBlock) (hv : ∀ k, v.ownBlock = some k → k = b ∨ w.heap.size ≤ k) : Kq b w w'' :=
 ⟨g.os.trans h.os, g.tape.trans h.tape, g.output.trans h.output, Nat.le_trans h.size g.size, fun k hk hb => (g.block k (Nat.lt_of_lt_of_le hk h.size) (fun e => by have := hv k e.symm; omega)).trans (h.block k hk hb)⟩
/-- What was behind w0 stays, if b is younger. -/
theorem Kq.under {w0 : World} (h : Kq b w w') (h0 : Below w0.heap.size w0 w) (hb : w0.heap.size ≤ b) : Below w0.heap.size w0 w' :=
 h0.trans ⟨h.os, h.tape, h.output, h.size, fun k hk => h.block k (Nat.lt_of_lt_of_le hk h0.size) (by omega)⟩
end
section
variable {P : Program} {ops : Array Oper} {N : Nat} {a : Act} {w : World}
end
end Go.Proofs.Ytmkjhdiepkpdoaa

namespace Go.Proofs.Ytmkjhdiepkpdoaa
open Go.RowKit Go.Shelf
set_option linter.unusedVariables false
set_option linter.unusedSimpArgs false
/-- No old block but a and b has turned. -/
structure Ktw (a b : Nat) (w w' : World) : Prop where
 os : w'.os = w.os
 tape : w'.tape = w.tape
 output : w'.output = w.output
 size : w.heap.size ≤ w'.heap.size
 block : ∀ k, k < w.heap.size → k ≠ a ∧ k ≠ b → w'.heap[k]? = w.heap[k]?
section
variable {a b : Nat} {w w' w'' : World}
theorem Ktw.refl (a b : Nat) (w : World) : Ktw a b w w := ⟨rfl, rfl, rfl, Nat.le_refl _, fun _ _ _ => rfl⟩
theorem Ktw.of_below (h : Below w.heap.size w w') : Ktw a b w w' := ⟨h.os, h.tape, h.output, h.size, fun k hk _ => h.block k hk⟩
theorem Ktw.below (h : Ktw a b w w') (B : Below w'.heap.size w' w'') : Ktw a b w w'' :=
 ⟨B.os.trans h.os, B.tape.trans h.tape, B.output.trans h.output, Nat.le_trans h.size B.size, fun k hk hb => (B.block k (Nat.lt_of_lt_of_le hk h.size)).trans (h.block k hk hb)⟩
theorem Ktw.only {c : Nat} (h : Ktw a b w w') (o : Only c w' w'') (hc : c = a ∨ c = b ∨ w.heap.size ≤ c) : Ktw a b w w'' :=
 ⟨o.os.trans h.os, o.tape.trans h.tape, o.output.trans h.output, by rw [o.size]; exact h.size, fun k hk hb => (o.block k (by omega)).trans (h.block k hk hb)⟩
theorem Ktw.grown {v : Value} (h : Ktw a b w w') (g : w'.grownBy w'' v.ownBlock) (hv : ∀ k, v.ownBlock = some k → k = a ∨ k = b ∨ w.heap.size ≤ k) : Ktw a b w w'' :=
 ⟨g.os.trans h.os, g.tape.trans h.tape, g.output.trans h.output, Nat.le_trans h.size g.size, fun k hk hb => (g.block k (Nat.lt_of_lt_of_le hk h.size) (fun e => by have := hv k e.symm; omega)).trans (h.block k hk hb)⟩
theorem Ktw.trans {c d : Nat} (h : Ktw a b w w') (h' : Ktw c d w' w'') (hc : (c = a ∨ c = b ∨ w.heap.size ≤ c) ∧ (d = a ∨ d = b ∨ w.heap.size ≤ d)) : Ktw a b w w'' :=
 ⟨h'.os.trans h.os, h'.tape.trans h.tape, h'.output.trans h.output, Nat.le_trans h.size h'.size, fun k hk hb => (h'.block k (Nat.lt_of_lt_of_le hk h.size) (by omega)).trans (h.block k hk hb)⟩
theorem Ktw.under {w0 : World} (h : Ktw a b w w') (h0 : Below w0.heap.size w0 w) (hb : w0.heap.size ≤ a ∧ w0.heap.size ≤ b) : Below w0.heap.size w0 w' :=
 h0.trans ⟨h.os, h.tape, h.output, h.size, fun k hk => h.block k (Nat.lt_of_lt_of_le hk h0.size) (by omega)⟩
theorem Blk.k2 {c t : Nat} {cs : List Value} (m : Blk w c t cs) (h : Ktw a b w w') (hb : c ≠ a ∧ c ≠ b) : Blk w' c t cs := (h.block c m.lt hb).trans m
theorem Rd.k2 {v : Value} {k n : Nat} {cs : List Value} (m : Rd w v k n cs) (h : Ktw a b w w') (hb : ∀ c, v.ownBlock = Option.some c → c ≠ a ∧ c ≠ b) : Rd w' v k n cs := m.keep h.size fun c hc hl => h.block c hl (hb c hc)
theorem own_k2 {base e k n : Nat} {v : Value} {xs : List Value} (m : w.ownsRow base e k v n xs) (h : Ktw a b w w') (hb : ∀ c, v.ownBlock = some c → c ≠ a ∧ c ≠ b) : w'.ownsRow base e k v n xs := own_keep m fun j hj => h.block j (m.lt j hj).2 (hb j hj)
theorem own_only {base e k n c : Nat} {v : Value} {xs : List Value} (m : w.ownsRow base e k v n xs) (h : Only c w w') (hb : v.ownBlock ≠ some c) : w'.ownsRow base e k v n xs := own_keep m fun j hj => h.block j (fun e => hb (by rw [hj, e]))
theorem rd_only {c : Nat} {v : Value} {k n : Nat} {cs : List Value} (m : Rd w v k n cs) (h : Only c w w') (hb : v.ownBlock ≠ Option.some c) : Rd w' v k n cs := m.keep (Nat.le_of_eq h.size.symm) fun b hv hl => h.block b (fun e => hb (by rw [hv, e]))
theorem Blk.grown {c t : Nat} {cs : List Value} {row : Option Nat} (m : Blk w c t cs) (g : w.grownBy w' row) (hb : ∀ k, row = some k → c ≠ k) : Blk w' c t cs := (g.block c m.lt (fun e => hb c e.symm rfl)).trans m
end
section
variable {P : Program} {ops : Array Oper} {N : Nat} {a : Act} {w : World}
theorem dk2_seq {id : Nat} {ops0 : Array Oper} {Q : Exit → Act → World → Prop} {y : Code} (b c : Nat) (ho : ops = ops0) (hm : P.follows .mixedOrders = true) (hN : ops.size = N)
    (h : ∀ wd, wd.heap = w.heap → Below w.heap.size w wd → Ktw b c wd wd → ∀ K : Act → World → Prop, (∀ a w, y.wp P Q a w → K a w) → wpAnyH P .any ops (QN K) (Ktw b c wd) N (lst N []) a wd) : (Code.seq (.region id ops0 true) y).wp P Q a w :=
  d_seq (Ktw b c w.drew) ho hm hN (h w.drew rfl (drawn_below w) (Ktw.refl b c _))
theorem dk2_one {id : Nat} {ops0 : Array Oper} {Q : Exit → Act → World → Prop} (b c : Nat) (ho : ops = ops0) (hm : P.follows .mixedOrders = true) (hN : ops.size = N)
    (h : ∀ wd, wd.heap = w.heap → Below w.heap.size w wd → Ktw b c wd wd → ∀ K : Act → World → Prop, (∀ a w, Q .normal a w → K a w) → wpAnyH P .any ops (QN K) (Ktw b c wd) N (lst N []) a wd) : (Code.region id ops0 true).wp P Q a w :=
  d_start (Ktw b c w.drew) ho hm hN (h w.drew rfl (drawn_below w) (Ktw.refl b c _))
end
/-- Field number f of t lies k cells on. -/
def fldB (P : Program) (t f k : Nat) : Bool :=
 match P.underlying t with
 | some (.struct fs) => match fs[f]? with
  | some fd => Nat.beq fd.offset k && (match (P.info? fd.type).map (·.size) with | some s => !(Nat.beq s 0) | none => false)
  | none => false
 | _ => false
section
variable {P : Program} {n d : Nat} {l : List (Nat × Value)} {w : World} {x y : Operand}
theorem x_fa {t f k : Nat} (h : fldB P t f k = true) {b o : Nat} (hx : ov l x = some (.pointer (some ⟨b, o, none⟩))) : Runs P n l w (.fieldAddr t x f) (.pointer (some ⟨b, o + k, none⟩)) := x_field hx (by
 unfold fldB at h
 split at h
 ·
  next fs hu =>
  split at h
  ·
   next fd hf =>
   simp only [Bool.and_eq_true] at h
   obtain ⟨h1, h2⟩ := h
   obtain rfl := Nat.eq_of_beq_eq_true h1
   split at h2
   ·
    next s hs =>
    refine m_field hu hf ?_ (by rw [hs]; rfl)
    rw [hs]
    cases s
    ·
     simp at h2
    ·
     rfl
   ·
    cases h2
  ·
   cases h
 ·
  cases h)
theorem x_fa0 {t f k : Nat} (h : fldB P t f k = true) {b : Nat} (hx : ov l x = some (.pointer (some ⟨b, 0, none⟩))) : Runs P n l w (.fieldAddr t x f) (.pointer (some ⟨b, k, none⟩)) := by
 have := x_fa (P := P) (n := n) (w := w) h hx
 rwa [Nat.zero_add] at this
theorem x_imax {ts : Array TypeId} {p q : Int} (hx : ov l x = some (.int .i64 p)) (hy : ov l y = some (.int .i64 q)) : Runs P n l w (.call { callee := .builtin .max, args := #[x, y], argTypes := ts }) (.int .i64 (max p q)) :=
 fun ds a hF o ho => by
  have e : (if q > p then q else p) = max p q := by split <;> omega
  simp [execOp, ho, resolve, invoke, builtin, hF.ov hx, hF.ov hy, Builtin.max_, Builtin.max2, e]
end
section
variable {P : Program} {n d : Nat} {l : List (Nat × Value)} {w : World} {a : Act} {ops : Array Oper} {Q : Exit → Act → World → Prop} {rest : List Oper} {ty : TypeId} {pos : String} {af : Array Edge}
/-- A variable of whatever type. -/
theorem s_alloc1 {ds : List Deferred} {t : TypeId} {z : Value} {zs : List Value} (hF : Fs n a l (ds := ds)) (hd : d < n) (hz : (P.info? t).bind (·.zero) = some z) (hc : z.cells = zs.toArray)
    (h : ∀ w' b a', b = w.heap.size → Blk w' b t zs → Below w.heap.size w w' → w'.heap.size = w.heap.size + 1 → Fs n a' ((d, .pointer (some ⟨b, 0, none⟩)) :: l) (ds := ds) → wpList P ops Q rest a' w') :
    wpList P ops Q (⟨some d, .alloc t, ty, pos, af, none⟩ :: rest) a w :=
  s_new hF (fun o ho => by simp [execOp, ho, m_alloc hz hc]) hd fun a' hF' => h _ _ a' rfl (blk_alloc t zs) (below_alloc _) (size_alloc _) hF'
end
/-! ### A slice that the call owns, and an append of one element -/
section
variable {P : Program} {n d : Nat} {l : List (Nat × Value)} {w : World} {a : Act} {ops : Array Oper} {Q : Exit → Act → World → Prop} {rest : List Oper} {ty : TypeId} {pos : String} {af : Array Edge} {x y : Operand} {v : Value} {base t e k kb m o : Nat} {xs ys : List Value}
end
/-- A slice that is owned and has elements: its block. -/
theorem own_blk {w : World} {base e k n : Nat} {v : Value} {xs : List Value} (h : w.ownsRow base e k v n xs) (hn : 0 < n) : ∃ o cap cur, v = .slice (some ⟨o, 0, none⟩) n cap ∧ base ≤ o ∧ Blk w o e cur ∧ n ≤ cap ∧ cap ≤ maxLen ∧ cur.length = cap * k ∧ cur.take (n * k) = xs := by
 rcases h.2 with ⟨_, h0⟩ | ⟨o, cap, cur, h1, h2, h3, h4, h5, h6, h7⟩
 ·
  omega
 ·
  exact ⟨o, cap, cur.toList, h1, h2, by unfold Blk; simpa using h3, h4, h5, by simpa using h6, h7⟩
theorem own_of {w : World} {base e k n o cap : Nat} {cur xs : List Value} (h1 : base ≤ o) (h2 : Blk w o e cur) (h3 : n ≤ cap) (h4 : cap ≤ maxLen) (h5 : cur.length = cap * k) (h6 : cur.take (n * k) = xs) : w.ownsRow base e k (.slice (some ⟨o, 0, none⟩) n cap) n xs := by
 refine ⟨?_, .inr ⟨o, cap, cur.toArray, rfl, h1, h2, h3, h4, by simpa using h5, by simpa using h6⟩⟩
 rw [← h6, List.length_take, h5]
 exact Nat.min_eq_left (Nat.mul_le_mul_right k h3)
theorem res_tc {P : Program} {n : Nat} {l : List (Nat × Value)} {w : World} {a : Act} {fn : Func} {t : TypeId} {r r2 : Nat} {b : Nat} {t0 : TypeId} {cs : List Value} {v2 : Value} {R : Ending → World → Prop} (hF : Fs n a l) (hr : fn.results = #[.cell r t, .tmp r2]) (hl : lk l r = some (.pointer (some ⟨b, 0, none⟩))) (hB : Blk w b t0 cs) (ht : Wide P t cs.length = true) (h2 : lk l r2 = some v2) (h : R (.returned (.tuple #[.agg cs.toArray, v2])) w) : bodyPost P fn R .ret a w := res_ct hF hr hl hB ht h2 h
end Go.Proofs.Ytmkjhdiepkpdoaa

namespace Go.Proofs.Ytmkjhdiepkpdoaa
set_option linter.unusedVariables false
set_option linter.unusedSimpArgs false
/-- A level of one of the four kinds. -/
inductive SL where
 | num (n : Nat) : SL
 | var (i : Nat) : SL
 | succ (n : Nat) (a : SL) : SL
 | mx (a b : SL) : SL
deriving DecidableEq
def SL.size : SL → Nat
 | .num _ => 1
 | .var _ => 1
 | .succ _ a => a.size + 1
 | .mx a b => a.size + b.size + 1
def SL.dep : SL → Nat
 | .num _ => 1
 | .var _ => 1
 | .succ _ a => a.dep + 1
 | .mx a b => max a.dep b.dep + 1
/-- Its numbers are at most top, its variables below vars. -/
def SL.nums (top vars : Nat) : SL → Prop
 | .num n => n ≤ top
 | .var i => i < vars
 | .succ n a => 1 ≤ n ∧ n ≤ top ∧ a.nums top vars
 | .mx a b => a.nums top vars ∧ b.nums top vars
def SL.good (s : SL) : Prop := s.size ≤ 1000 ∧ s.dep ≤ 256 ∧ s.nums 1099511627776 1001
/-- Its numbers are at most 2^40. -/
def SL.few : SL → Prop
 | .num n => n ≤ 1099511627776
 | .var _ => True
 | .succ n a => n ≤ 1099511627776 ∧ a.few
 | .mx a b => a.few ∧ b.few
theorem SL.nums.few {top vars : Nat} (ht : top ≤ 1099511627776) : ∀ {s : SL}, s.nums top vars → s.few
 | .num n, h => by simp only [SL.nums, SL.few] at *; omega
 | .var _, _ => trivial
 | .succ n a, h => ⟨by have := h.2.1; omega, SL.nums.few ht h.2.2⟩
 | .mx a b, h => ⟨SL.nums.few ht h.1, SL.nums.few ht h.2⟩
def cut (x : Int) : Int := min x 1099511627776
def kf : SL → Int → Nat → Int
 | .num _, _, _ => -1
 | .var i, n, j => if i = j then n else -1
 | .succ m a, n, j => kf a (cut (n + m)) j
 | .mx a b, n, j => max (kf a n j) (kf b n j)
def cf : SL → Int → Int
 | .num m, n => cut (n + m)
 | .var _, _ => -1
 | .succ m a, n => cf a (cut (n + m))
 | .mx a b, n => max (cf a n) (cf b n)
def km : SL → Int → Int
 | .num _, _ => -1
 | .var _, n => n
 | .succ m a, n => km a (cut (n + m))
 | .mx a b, n => max (km a n) (km b n)
def sh (m k : Int) : Int := if k < 0 then -1 else cut (k + m)
theorem cut_nn {x : Int} (h : 0 ≤ x) : 0 ≤ cut x := by unfold cut; omega
theorem kf_lo : ∀ (s : SL) (n : Int) (j : Nat), 0 ≤ n → -1 ≤ kf s n j
 | .num _, _, _, _ => by simp [kf]
 | .var i, n, j, h => by simp only [kf]; split <;> omega
 | .succ m a, n, j, h => kf_lo a _ j (cut_nn (by omega))
 | .mx a b, n, j, h => by have := kf_lo a n j h; simp only [kf]; omega
theorem kf_km : ∀ (s : SL) (n : Int) (j : Nat), 0 ≤ n → kf s n j ≤ km s n
 | .num _, _, _, _ => by simp [kf, km]
 | .var i, n, j, h => by simp only [kf, km]; split <;> omega
 | .succ m a, n, j, h => kf_km a _ j (cut_nn (by omega))
 | .mx a b, n, j, h => by have := kf_km a n j h; have := kf_km b n j h; simp only [kf, km]; omega
theorem km_kf : ∀ (s : SL) (n : Int), 0 ≤ n → km s n = -1 ∨ ∃ j, kf s n j = km s n
 | .num _, _, _ => .inl rfl
 | .var i, n, h => .inr ⟨i, by simp [kf, km]⟩
 | .succ m a, n, h => km_kf a _ (cut_nn (by omega))
 | .mx a b, n, h => by
  simp only [km, kf]
  have ha := km_kf a n h
  have hb := km_kf b n h
  have la : ∀ j, kf a n j ≤ km a n := fun j => kf_km a n j h
  have lb : ∀ j, kf b n j ≤ km b n := fun j => kf_km b n j h
  have l1 : ∀ j, -1 ≤ kf a n j := fun j => kf_lo a n j h
  have l2 : ∀ j, -1 ≤ kf b n j := fun j => kf_lo b n j h
  by_cases hc : km a n ≤ km b n
  ·
   rcases hb with hb | ⟨j, hb⟩
   ·
    left; rcases ha with ha | ⟨j, ha⟩
    ·
     omega
    ·
     have := l1 j; omega
   ·
    right; exact ⟨j, by have := la j; omega⟩
  ·
   rcases ha with ha | ⟨j, ha⟩
   ·
    rcases hb with hb | ⟨j, hb⟩
    ·
     omega
    ·
     have := l2 j; omega
   ·
    right; exact ⟨j, by have := lb j; omega⟩
/-- Some leaf there is. -/
theorem leaf_nn : ∀ (s : SL) (n : Int), 0 ≤ n → 0 ≤ cf s n ∨ 0 ≤ km s n
 | .num m, n, h => .inl (cut_nn (by omega))
 | .var i, n, h => .inr h
 | .succ m a, n, h => leaf_nn a _ (cut_nn (by omega))
 | .mx a b, n, h => by have := leaf_nn a n h; simp only [cf, km]; omega
/-! ### Lists of numbers by place -/
def gt (L : List Int) (j : Nat) : Int := L.getD j (-1)
/-- The last one is 0 or more. -/
def Tm (L : List Int) : Prop := ∀ h : L ≠ [], 0 ≤ L.getLast h
def Lo (L : List Int) : Prop := ∀ x ∈ L, -1 ≤ x
theorem gt_lt {L : List Int} {j : Nat} (h : j < L.length) : gt L j = L[j] := by simp [gt, h]
theorem gt_ge {L : List Int} {j : Nat} (h : L.length ≤ j) : gt L j = -1 := by simp [gt, List.getElem?_eq_none h]
theorem Lo.gt {L : List Int} (h : Lo L) (j : Nat) : -1 ≤ gt L j := by
 by_cases hj : j < L.length
 ·
  rw [gt_lt hj]; exact h _ (List.getElem_mem hj)
 ·
  rw [gt_ge (by omega)]; omega
theorem Tm.last {L : List Int} (h : Tm L) (hp : 0 < L.length) : 0 ≤ gt L (L.length - 1) := by
 have hne : L ≠ [] := by rintro rfl; simp at hp
 have := h hne
 rw [gt_lt (by omega)]
 rwa [List.getLast_eq_getElem] at this
theorem tm_of {L : List Int} (h : 0 < L.length → 0 ≤ gt L (L.length - 1)) : Tm L := by
 intro hne
 have hp : 0 < L.length := List.length_pos_iff.2 hne
 have := h hp
 rw [gt_lt (by omega)] at this
 rwa [List.getLast_eq_getElem]
theorem tm_ext {L M : List Int} (hL : Tm L) (hM : Tm M) (h : ∀ j, gt L j = gt M j) : L = M := by
 have hlen : L.length = M.length := by
  rcases Nat.lt_trichotomy L.length M.length with hl | hl | hl
  ·
   have h1 := hM.last (by omega)
   rw [← h, gt_ge (by omega)] at h1
   omega
  ·
   exact hl
  ·
   have h1 := hL.last (by omega)
   rw [h, gt_ge (by omega)] at h1
   omega
 apply List.ext_getElem hlen
 intro i h1 h2
 have := h i
 rwa [gt_lt h1, gt_lt h2] at this
def padL (L : List Int) (m : Nat) : List Int := L ++ List.replicate (m - L.length) (-1)
def up (L : List Int) (i : Nat) (n : Int) : List Int := (padL L (i + 1)).set i (max (gt L i) n)
theorem pad_len (L : List Int) (m : Nat) : (padL L m).length = max L.length m := by simp [padL]; omega
theorem gt_pad (L : List Int) (m j : Nat) : gt (padL L m) j = gt L j := by
 by_cases hj : j < L.length
 ·
  simp [gt, padL, List.getElem?_append_left hj]
 ·
  rw [gt_ge (L := L) (by omega)]
  simp only [gt, padL]
  rw [List.getD_eq_getElem?_getD, List.getElem?_append_right (by omega), List.getElem?_replicate]
  split <;> rfl
theorem up_len (L : List Int) (i : Nat) (n : Int) : (up L i n).length = max L.length (i + 1) := by simp [up, pad_len]
theorem gt_up (L : List Int) (i : Nat) (n : Int) (j : Nat) : gt (up L i n) j = if i = j then max (gt L i) n else gt L j := by
 have hl := pad_len L (i + 1)
 unfold up
 by_cases hij : i = j
 ·
  subst hij
  rw [if_pos rfl, gt_lt (by rw [List.length_set]; omega)]
  simp
 ·
  rw [if_neg hij, ← gt_pad L (i + 1) j]
  simp only [gt, List.getD_eq_getElem?_getD]
  rw [List.getElem?_set_ne hij]
theorem lo_of {L : List Int} (h : ∀ j, -1 ≤ gt L j) : Lo L := by
 intro x hx
 obtain ⟨j, hj, rfl⟩ := List.getElem_of_mem hx
 have := h j
 rwa [gt_lt hj] at this
theorem lo_up {L : List Int} (h : Lo L) (i : Nat) (n : Int) : Lo (up L i n) := lo_of fun j => by
 rw [gt_up]
 have := h.gt i
 have := h.gt j
 split <;> omega
theorem tm_up {L : List Int} (h : Tm L) (i : Nat) {n : Int} (hn : 0 ≤ n) : Tm (up L i n) := tm_of fun _ => by
 rw [up_len, gt_up]
 split
 ·
  omega
 ·
  next hi =>
  have hlen : i + 1 < L.length := by omega
  rw [show max L.length (i + 1) - 1 = L.length - 1 by omega]
  exact h.last (by omega)
def rk : SL → Int → List Int → List Int
 | .num _, _, L => L
 | .var i, n, L => up L i n
 | .succ m a, n, L => rk a (cut (n + m)) L
 | .mx a b, n, L => rk b n (rk a n L)
def rc : SL → Int → Int → Int
 | .num m, n, c => max c (cut (n + m))
 | .var _, _, c => c
 | .succ m a, n, c => rc a (cut (n + m)) c
 | .mx a b, n, c => rc b n (rc a n c)
theorem rk_lo : ∀ (s : SL) (n : Int) (L : List Int), Lo L → Lo (rk s n L)
 | .num _, _, L, h => h
 | .var i, n, L, h => lo_up h i n
 | .succ m a, n, L, h => rk_lo a _ L h
 | .mx a b, n, L, h => rk_lo b n _ (rk_lo a n L h)
theorem rk_tm : ∀ (s : SL) (n : Int) (L : List Int), 0 ≤ n → Tm L → Tm (rk s n L)
 | .num _, _, L, _, h => h
 | .var i, n, L, hn, h => tm_up h i hn
 | .succ m a, n, L, hn, h => rk_tm a _ L (cut_nn (by omega)) h
 | .mx a b, n, L, hn, h => rk_tm b n _ hn (rk_tm a n L hn h)
theorem gt_rk : ∀ (s : SL) (n : Int) (L : List Int) (j : Nat), 0 ≤ n → Lo L → gt (rk s n L) j = max (gt L j) (kf s n j)
 | .num _, n, L, j, hn, h => by have := h.gt j; simp only [rk, kf]; omega
 | .var i, n, L, j, hn, h => by
  have := h.gt j
  simp only [rk, kf, gt_up]
  split
  ·
   next e => rw [e]
  ·
   omega
 | .succ m a, n, L, j, hn, h => gt_rk a _ L j (cut_nn (by omega)) h
 | .mx a b, n, L, j, hn, h => by
  simp only [rk, kf]
  rw [gt_rk b n _ j hn (rk_lo a n L h), gt_rk a n L j hn h]
  omega
/-! ### The greatest of a list; settled forms -/
def mxl (L : List Int) : Int := L.foldl max (-1)
theorem foldl_max (L : List Int) : ∀ (c : Int), (c ≤ L.foldl max c) ∧ (∀ x ∈ L, x ≤ L.foldl max c) ∧ (L.foldl max c = c ∨ L.foldl max c ∈ L) := by
 induction L with
 | nil => intro c; simp
 | cons y L ih =>
  intro c
  obtain ⟨h1, h2, h3⟩ := ih (max c y)
  simp only [List.foldl_cons]
  refine ⟨by omega, fun x hx => ?_, ?_⟩
  ·
   rcases List.mem_cons.1 hx with rfl | hx
   ·
    omega
   ·
    exact h2 x hx
  ·
   rcases h3 with h3 | h3
   ·
    by_cases hc : y ≤ c
    ·
     left; omega
    ·
     right; rw [h3, show max c y = y by omega]; simp
   ·
    right; exact List.mem_cons_of_mem _ h3
theorem mxl_ge (L : List Int) (j : Nat) : gt L j ≤ mxl L := by
 by_cases hj : j < L.length
 ·
  rw [gt_lt hj]; exact (foldl_max L (-1)).2.1 _ (List.getElem_mem hj)
 ·
  rw [gt_ge (by omega)]; exact (foldl_max L (-1)).1
theorem mxl_at (L : List Int) : mxl L = -1 ∨ ∃ j, j < L.length ∧ gt L j = mxl L := by
 rcases (foldl_max L (-1)).2.2 with h | h
 ·
  exact .inl h
 ·
  obtain ⟨j, hj, e⟩ := List.getElem_of_mem h
  exact .inr ⟨j, hj, by rw [gt_lt hj]; exact e⟩
theorem mxl_is {L : List Int} {M : Int} (h1 : ∀ j, gt L j ≤ M) (h2 : M = -1 ∨ ∃ j, gt L j = M) : mxl L = M := by
 have a := mxl_ge L
 have b := mxl_at L
 have h0 : -1 ≤ M := by have := h1 L.length; rwa [gt_ge (Nat.le_refl _)] at this
 have h3 : -1 ≤ mxl L := by have := a L.length; rwa [gt_ge (Nat.le_refl _)] at this
 apply Int.le_antisymm
 ·
  rcases b with b | ⟨j, _, b⟩
  ·
   omega
  ·
   have := h1 j; omega
 ·
  rcases h2 with h2 | ⟨j, h2⟩
  ·
   omega
  ·
   have := a j; omega
def setl (c : Int) (L : List Int) : Int := if c ≤ mxl L then 0 else c
def nfK (s : SL) : List Int := rk s 0 []
def nfC (s : SL) : Int := if cf s 0 ≤ km s 0 then 0 else cf s 0
theorem nfK_tm (s : SL) : Tm (nfK s) := rk_tm s 0 [] (by decide) (fun h => absurd rfl h)
theorem gt_nfK (s : SL) (j : Nat) : gt (nfK s) j = kf s 0 j := by
 have := kf_lo s 0 j (by decide)
 rw [nfK, gt_rk s 0 [] j (by decide) (fun x hx => by simp at hx), gt_ge (by simp)]
 omega
theorem mxl_nfK (s : SL) : mxl (nfK s) = km s 0 := mxl_is (fun j => by rw [gt_nfK]; exact kf_km s 0 j (by decide)) (by
 rcases km_kf s 0 (by decide) with h | ⟨j, h⟩
 ·
  exact .inl h
 ·
  exact .inr ⟨j, by rw [gt_nfK]; exact h⟩)
theorem setl_is (c : Int) (L : List Int) : (c ≤ mxl L ∧ setl c L = 0) ∨ (mxl L < c ∧ setl c L = c) := by
 unfold setl
 split
 ·
  left; omega
 ·
  right; omega
theorem nfC_is (s : SL) : (cf s 0 ≤ km s 0 ∧ nfC s = 0) ∨ (km s 0 < cf s 0 ∧ nfC s = cf s 0) := by
 unfold nfC
 split
 ·
  left; omega
 ·
  right; omega
theorem km_mx (a b : SL) : km (.mx a b) 0 = max (km a 0) (km b 0) := rfl
/-- The greater one's form, out of both's. -/
theorem nfC_mx (a b : SL) : nfC (.mx a b) = setl (max (nfC a) (nfC b)) (nfK (.mx a b)) := by
 have ha := leaf_nn a 0 (by decide)
 have hb := leaf_nn b 0 (by decide)
 have h1 := setl_is (max (nfC a) (nfC b)) (nfK (.mx a b))
 have h2 := nfC_is a
 have h3 := nfC_is b
 have h4 := nfC_is (.mx a b)
 rw [mxl_nfK, km_mx] at h1
 rw [km_mx] at h4
 have h5 : cf (.mx a b) 0 = max (cf a 0) (cf b 0) := rfl
 omega
theorem gt_mx (a b : SL) (j : Nat) : gt (nfK (.mx a b)) j = max (gt (nfK a) j) (gt (nfK b) j) := by simp only [gt_nfK, kf]
/-- Joined forms: the same as those of the joined levels. -/
theorem nf_join {a b c d : SL} (h1 : nfC a = nfC c ∧ nfK a = nfK c) (h2 : nfC b = nfC d ∧ nfK b = nfK d) : nfC (.mx a b) = nfC (.mx c d) ∧ nfK (.mx a b) = nfK (.mx c d) := by
 have e : nfK (.mx a b) = nfK (.mx c d) := tm_ext (nfK_tm _) (nfK_tm _) fun j => by rw [gt_mx, gt_mx, h1.2, h2.2]
 refine ⟨?_, e⟩
 rw [nfC_mx, nfC_mx, h1.1, h2.1, e]
/-! ### The reference's forms -/
def trim : Nat → List Int → List Int
 | 0, K => K
 | f + 1, K => if 0 < K.length ∧ gt K (K.length - 1) < 0 then trim f (K.take (K.length - 1)) else K
def tidyK (K : List Int) : List Int := trim K.length K
def bothK (A B : List Int) : List Int := (List.range (max A.length B.length)).map fun i => max (gt A i) (gt B i)
def plusK (K : List Int) (n : Int) : List Int := K.map fun k => if 0 ≤ k then cut (k + n) else k
/-- What plus does with c. -/
def plusC (c : Int) (K : List Int) (n : Int) : Int := if K = [] ∨ 0 < c then cut (c + n) else c
/-! ### The program's joins -/
/-- Behind the first i of G, n more, onto L. -/
def jn (L G : List Int) (n : Int) : Nat → List Int
 | 0 => L
 | i + 1 => if gt G i = -1 then jn L G n i else up (jn L G n i) i (cut (n + gt G i))
/-- c and L come to t's form, settled. -/
structure IsF (c : Int) (L : List Int) (t : SL) : Prop where
 ks : L = nfK t
 nn : 0 ≤ c
 hi : c ≤ 1099511627776
 set : setl c L = nfC t
end Go.Proofs.Ytmkjhdiepkpdoaa

namespace Go.Proofs.Ytmkjhdiepkpdoaa
open Go.RowKit Go.Shelf
set_option linter.unusedVariables false
set_option linter.unusedSimpArgs false
theorem wide_orders : Try.prog.follows .mixedOrders = true := by kernel_rfl
theorem flat3 : Flat Try.prog 3 = true := by kernel_rfl
theorem flat22 : Flat Try.prog 22 = true := by kernel_rfl
theorem wide24 : Wide Try.prog 24 3 = true := by kernel_rfl
theorem el22 : Elem Try.prog 22 24 3 40 := elem_of (by kernel_rfl)
theorem zero3 : (Try.prog.info? 3).bind (·.zero) = some (.int .i64 0) := by kernel_rfl
theorem zero24 : (Try.prog.info? 24).bind (·.zero) = some (.agg [Value.int .i64 0, Value.int .i64 0, Value.slice none 0 0].toArray) := by kernel_rfl
theorem fa24_0 : fldB Try.prog 24 0 0 = true := by kernel_rfl
theorem fa24_1 : fldB Try.prog 24 1 1 = true := by kernel_rfl
theorem fa24_2 : fldB Try.prog 24 2 2 = true := by kernel_rfl
/-- A level's three cells: its kind, its number, its kids. -/
abbrev C3 := Int × Int × Value
def lc (x : C3) : List Value := [.int .i64 x.1, .int .i64 x.2.1, x.2.2]
abbrev lv (x : C3) : Value := .agg (lc x).toArray
abbrev ints (ks : List Int) : List Value := ks.map (Value.int .i64)
/-- A slice is one cell. -/
theorem Rd.one {W : World} {v : Value} {k n : Nat} {cs : List Value} (h : Rd W v k n cs) : v.oneCell' = true := by
 obtain ⟨a, c, rfl, _⟩ := h.form
 rfl
theorem one_lc {k n : Int} {v : Value} (h : v.oneCell' = true) : ∀ u ∈ lc (k, n, v), u.oneCell' = true := by
 intro u hu
 simp only [lc, List.mem_cons, List.not_mem_nil, or_false] at hu
 rcases hu with rfl | rfl | rfl
 ·
  rfl
 ·
  rfl
 ·
  exact h
theorem fm3_get : ∀ (xs : List C3) (i j : Nat) (x : C3) (u : Value), xs[i]? = some x → (lc x)[j]? = some u → (xs.flatMap lc)[i * 3 + j]? = some u
 | [], i, j, x, u, h1, _ => by simp at h1
 | y :: xs, 0, j, x, u, h1, h2 => by
  simp at h1
  subst h1
  have hj : j < 3 := (List.getElem?_eq_some_iff.1 h2).1
  rw [List.flatMap_cons, List.getElem?_append_left (by simp [lc]; omega), Nat.zero_mul, Nat.zero_add, h2]
 | y :: xs, i + 1, j, x, u, h1, h2 => by
  rw [List.flatMap_cons, List.getElem?_append_right (by simp [lc]; omega), show (i + 1) * 3 + j - (lc y).length = i * 3 + j by simp [lc]; omega]
  exact fm3_get xs i j x u (by simpa using h1) h2
/-- A kid, read. -/
theorem rd_row3 {W : World} {v : Value} {xs : List C3} (h : Rd W v 3 xs.length (xs.flatMap lc)) {i : Nat} (hi : i < xs.length) :
    ∃ b off c x, v = .slice (some ⟨b, off, none⟩) xs.length c ∧ xs[i]? = some x ∧ ∀ W', Below W.heap.size W W' → ∀ j u, (lc x)[j]? = some u → W'.cell? ((⟨b, off + i * 3, none⟩ : Addr).add j) = some u := by
  obtain ⟨b, off, c, rfl, hb⟩ := h.some (by omega)
  refine ⟨b, off, c, xs[i], rfl, List.getElem?_eq_getElem hi, fun W' hB j u hj => ?_⟩
  rw [addr_addn, Nat.add_assoc]
  exact (hB.cell (p := ⟨b, off + (i * 3 + j), none⟩) hb).trans (h.cell (fm3_get xs i j _ u (List.getElem?_eq_getElem hi) hj))
/-- A level of whatever form. -/
inductive Lv where
 | mk (k n : Int) (ls : List Lv) : Lv
/-- x reads as l. -/
inductive RL (W : World) : C3 → Lv → Prop where
 | mk {k n : Int} {v : Value} {xs : List C3} {ls : List Lv} (hR : Rd W v 3 xs.length (xs.flatMap lc)) (hl : xs.length = ls.length) (hk : ∀ (i : Nat) x l, xs[i]? = some x → ls[i]? = some l → RL W x l) (hbd9 : ls.length ≤ 9223372036854775807 := by first | (simp; done) | assumption | omega) : RL W (k, n, v) (.mk k n ls)
/-- x reads as s. -/
def RS (W : World) : SL → C3 → Prop
 | .num n, x => x.1 = 1 ∧ x.2.1 = (n : Int) ∧ Rd W x.2.2 3 0 []
 | .var i, x => x.1 = 2 ∧ x.2.1 = (i : Int) ∧ Rd W x.2.2 3 0 []
 | .succ n a, x => x.1 = 3 ∧ x.2.1 = (n : Int) ∧ ∃ y, Rd W x.2.2 3 1 (lc y) ∧ RS W a y
 | .mx a b, x => x.1 = 4 ∧ ∃ y z, Rd W x.2.2 3 2 (lc y ++ lc z) ∧ RS W a y ∧ RS W b z
theorem RL.old {W W' : World} {x : C3} {l : Lv} (h : RL W x l) (hB : Below W.heap.size W W') : RL W' x l := by
 induction h with
 | mk hR hl hk hbd9 ih => exact .mk (hR.below hB) hl (fun i x l h1 h2 => ih i x l h1 h2) hbd9
theorem RS.below {W W' : World} (hB : Below W.heap.size W W') : ∀ {s : SL} {x : C3}, RS W s x → RS W' s x
 | .num n, x, h => ⟨h.1, h.2.1, h.2.2.below hB⟩
 | .var n, x, h => ⟨h.1, h.2.1, h.2.2.below hB⟩
 | .succ n a, x, ⟨h1, h2, y, h3, h4⟩ => ⟨h1, h2, y, h3.below hB, RS.below hB h4⟩
 | .mx a b, x, ⟨h1, y, z, h3, h4, h5⟩ => ⟨h1, y, z, h3.below hB, RS.below hB h4, RS.below hB h5⟩
theorem RS.slice {W : World} : ∀ {s : SL} {x : C3}, RS W s x → ∃ n cs, Rd W x.2.2 3 n cs
 | .num n, x, h => ⟨_, _, h.2.2⟩
 | .var n, x, h => ⟨_, _, h.2.2⟩
 | .succ n a, x, ⟨h1, h2, y, h3, h4⟩ => ⟨_, _, h3⟩
 | .mx a b, x, ⟨h1, y, z, h3, h4, h5⟩ => ⟨_, _, h3⟩
theorem RL.slice {W : World} {x : C3} {l : Lv} (h : RL W x l) : ∃ n cs, Rd W x.2.2 3 n cs := by
 cases h with
 | mk hR hl hk => exact ⟨_, _, hR⟩
/-! ### Which may be -/
def kidsB (k : Int) (len : Nat) : Bool := decide (((k = 1 ∨ k = 2) ∧ len = 0) ∨ (k = 3 ∧ len = 1) ∨ (k = 4 ∧ len = 2))
def numB (top k n : Int) : Bool := decide ((k = 1 → 0 ≤ n ∧ n ≤ top) ∧ (k = 3 → 1 ≤ n ∧ n ≤ top))
def nodeE (D top vars d : Int) (r : Nat) (k n : Int) (len : Nat) : Int :=
 if D < d ∨ r = 0 then 2 else if kidsB k len = false ∨ numB top k n = false then 1 else if k = 2 ∧ (n < 0 ∨ vars ≤ n) then 10 else 0
mutual
def chk (D top vars : Int) (d : Int) (r : Nat) : Lv → Int × Nat
 | .mk k n ls => if nodeE D top vars d r k n ls.length ≠ 0 then (nodeE D top vars d r k n ls.length, 0) else chks D top vars (d + 1) (r - 1) ls
def chks (D top vars : Int) (d : Int) (r : Nat) : List Lv → Int × Nat
 | [] => (0, r)
 | l :: ls => if (chk D top vars d r l).1 ≠ 0 then ((chk D top vars d r l).1, 0) else chks D top vars d (chk D top vars d r l).2 ls
end
mutual
theorem chk_le (D top vars : Int) (d : Int) (r : Nat) : ∀ l, (chk D top vars d r l).2 ≤ r
 | .mk k n ls => by
  unfold chk
  split
  ·
   exact Nat.zero_le _
  ·
   exact Nat.le_trans (chks_le D top vars (d + 1) (r - 1) ls) (Nat.sub_le _ _)
theorem chks_le (D top vars : Int) (d : Int) (r : Nat) : ∀ ls, (chks D top vars d r ls).2 ≤ r
 | [] => by simp [chks]
 | l :: ls => by
  unfold chks
  split
  ·
   exact Nat.zero_le _
  ·
   exact Nat.le_trans (chks_le D top vars d _ ls) (chk_le D top vars d r l)
end
def sndL (l : Lv) : Prop := (chk 256 1099511627776 1001 1 1000 l).1 = 0
instance (l : Lv) : Decidable (sndL l) := inferInstanceAs (Decidable (_ = _))
theorem nodeE_iff {D top vars d : Int} {r : Nat} {k n : Int} {len : Nat} : nodeE D top vars d r k n len = 0 ↔ d ≤ D ∧ r ≠ 0 ∧ kidsB k len = true ∧ numB top k n = true ∧ ¬ (k = 2 ∧ (n < 0 ∨ vars ≤ n)) := by
 unfold nodeE
 by_cases c1 : D < d ∨ r = 0
 ·
  rw [if_pos c1]
  constructor
  ·
   intro h; cases h
  ·
   rintro ⟨h1, h2, _⟩; omega
 ·
  rw [if_neg c1]
  by_cases c2 : kidsB k len = false ∨ numB top k n = false
  ·
   rw [if_pos c2]
   constructor
   ·
    intro h; cases h
   ·
    rintro ⟨_, _, h3, h4, _⟩; rcases c2 with h | h
    ·
     rw [h] at h3; cases h3
    ·
     rw [h] at h4; cases h4
  ·
   rw [if_neg c2]
   simp only [not_or, Bool.not_eq_false] at c2
   by_cases c3 : k = 2 ∧ (n < 0 ∨ vars ≤ n)
   ·
    rw [if_pos c3]
    constructor
    ·
     intro h; cases h
    ·
     rintro ⟨_, _, _, _, h⟩; exact absurd c3 h
   ·
    rw [if_neg c3]
    exact ⟨fun _ => ⟨by omega, by omega, c2.1, c2.2, c3⟩, fun _ => rfl⟩
theorem chk_in {D top vars d : Int} {r : Nat} {k n : Int} {ls : List Lv} (h : nodeE D top vars d r k n ls.length = 0) : chk D top vars d r (.mk k n ls) = chks D top vars (d + 1) (r - 1) ls := by
 rw [chk, if_neg (by simp [h])]
theorem chk_out {D top vars d : Int} {r : Nat} {k n : Int} {ls : List Lv} (h : nodeE D top vars d r k n ls.length ≠ 0) : (chk D top vars d r (.mk k n ls)).1 = nodeE D top vars d r k n ls.length := by
 rw [chk, if_pos h]
theorem chks_in {D top vars d : Int} {r : Nat} {l : Lv} {ls : List Lv} (h : (chk D top vars d r l).1 = 0) : chks D top vars d r (l :: ls) = chks D top vars d (chk D top vars d r l).2 ls := by
 rw [chks, if_neg (by simp [h])]
theorem chks_out {D top vars d : Int} {r : Nat} {l : Lv} {ls : List Lv} (h : (chk D top vars d r l).1 ≠ 0) : (chks D top vars d r (l :: ls)).1 = (chk D top vars d r l).1 := by
 rw [chks, if_pos h]
theorem chk_iff {D top vars d : Int} {r : Nat} {k n : Int} {ls : List Lv} : (chk D top vars d r (.mk k n ls)).1 = 0 ↔ nodeE D top vars d r k n ls.length = 0 ∧ (chks D top vars (d + 1) (r - 1) ls).1 = 0 := by
 by_cases h : nodeE D top vars d r k n ls.length = 0
 ·
  rw [chk_in h]; simp [h]
 ·
  rw [chk_out h]; simp [h]
theorem chks_iff {D top vars d : Int} {r : Nat} {l : Lv} {ls : List Lv} : (chks D top vars d r (l :: ls)).1 = 0 ↔ (chk D top vars d r l).1 = 0 ∧ (chks D top vars d (chk D top vars d r l).2 ls).1 = 0 := by
 by_cases h : (chk D top vars d r l).1 = 0
 ·
  rw [chks_in h]; simp [h]
 ·
  rw [chks_out h]; simp [h]
theorem nodeE1 {D top vars d n : Int} {r : Nat} : nodeE D top vars d r 1 n 0 = 0 ↔ d ≤ D ∧ r ≠ 0 ∧ 0 ≤ n ∧ n ≤ top := by
 rw [nodeE_iff]; simp [kidsB, numB]
theorem nodeE2 {D top vars d n : Int} {r : Nat} : nodeE D top vars d r 2 n 0 = 0 ↔ d ≤ D ∧ r ≠ 0 ∧ 0 ≤ n ∧ n < vars := by
 rw [nodeE_iff]; simp [kidsB, numB]
theorem nodeE3 {D top vars d n : Int} {r : Nat} : nodeE D top vars d r 3 n 1 = 0 ↔ d ≤ D ∧ r ≠ 0 ∧ 1 ≤ n ∧ n ≤ top := by
 rw [nodeE_iff]; simp [kidsB, numB]
theorem nodeE4 {D top vars d n : Int} {r : Nat} : nodeE D top vars d r 4 n 2 = 0 ↔ d ≤ D ∧ r ≠ 0 := by
 rw [nodeE_iff]; simp [kidsB, numB]
theorem len2 {α : Type} {xs : List α} (h : xs.length = 2) : ∃ a b, xs = [a, b] := by
 match xs, h with
 | [a, b], _ => exact ⟨a, b, rfl⟩
theorem kidsB_iff {k : Int} {len : Nat} : kidsB k len = true ↔ ((k = 1 ∨ k = 2) ∧ len = 0) ∨ (k = 3 ∧ len = 1) ∨ (k = 4 ∧ len = 2) := by simp only [kidsB, decide_eq_true_eq]
theorem numB_iff {top k n : Int} : numB top k n = true ↔ (k = 1 → 0 ≤ n ∧ n ≤ top) ∧ (k = 3 → 1 ≤ n ∧ n ≤ top) := by simp only [numB, decide_eq_true_eq]
/-- What passes is of the four kinds. -/
theorem chk_sl {W : World} {D top vars : Nat} {x : C3} {l : Lv} (h : RL W x l) : ∀ (d : Int) (r : Nat), (chk D top vars d r l).1 = 0 → ∃ s, RS W s x ∧ s.nums top vars ∧ (s.dep : Int) + d ≤ D + 1 ∧ s.size + (chk D top vars d r l).2 = r := by
 induction h with
 | @mk k n v xs ls hR hl hk hbd9 ih =>
  intro d r hc0
  obtain ⟨h0, hc⟩ := chk_iff.1 hc0
  clear hc0
  rw [chk_in h0]
  clear hk
  obtain ⟨h1, h2, h4, h5, h3⟩ := nodeE_iff.1 h0
  rw [kidsB_iff] at h4
  rw [numB_iff] at h5
  clear h0
  rcases h4 with ⟨hk12, h0⟩ | ⟨rfl, h0⟩ | ⟨rfl, h0⟩
  ·
   obtain rfl : ls = [] := List.eq_nil_of_length_eq_zero h0
   obtain rfl : xs = [] := List.eq_nil_of_length_eq_zero (by simpa using hl)
   simp only [chks]
   rcases hk12 with rfl | rfl
   ·
    have := h5.1 rfl
    exact ⟨.num n.toNat, ⟨rfl, by simp; omega, by simpa using hR⟩, by simp only [SL.nums]; omega, by simp only [SL.dep]; omega, by simp only [SL.size]; omega⟩
   ·
    exact ⟨.var n.toNat, ⟨rfl, by simp; omega, by simpa using hR⟩, by simp only [SL.nums]; omega, by simp only [SL.dep]; omega, by simp only [SL.size]; omega⟩
  ·
   have h6 := h5.2 rfl
   obtain ⟨a, rfl⟩ : ∃ a, ls = [a] := List.length_eq_one_iff.1 h0
   obtain ⟨y, rfl⟩ : ∃ y, xs = [y] := List.length_eq_one_iff.1 (by simpa using hl)
   obtain ⟨hq, _⟩ := chks_iff.1 hc
   obtain ⟨s, g1, g2, g3, g4⟩ := ih 0 y a rfl rfl (d + 1) (r - 1) hq
   rw [chks_in hq]
   simp only [chks]
   exact ⟨.succ n.toNat s, ⟨rfl, by simp; omega, y, by simpa using hR, g1⟩, ⟨by omega, by omega, g2⟩, by simp only [SL.dep]; omega, by simp only [SL.size]; omega⟩
  ·
   obtain ⟨a, b, rfl⟩ := len2 h0
   obtain ⟨y, z, rfl⟩ := len2 (hl.trans (by simp))
   obtain ⟨hq, hc⟩ := chks_iff.1 hc
   obtain ⟨hp, _⟩ := chks_iff.1 hc
   obtain ⟨s, g1, g2, g3, g4⟩ := ih 0 y a rfl rfl (d + 1) (r - 1) hq
   obtain ⟨t, g5, g6, g7, g8⟩ := ih 1 z b rfl rfl (d + 1) _ hp
   rw [chks_in hq, chks_in hp]
   simp only [chks]
   exact ⟨.mx s t, ⟨rfl, y, z, by simpa using hR, g1, g5⟩, ⟨g2, g6⟩, by simp only [SL.dep]; omega, by simp only [SL.size]; omega⟩
/-- A level of the four kinds, as one of whatever form. -/
theorem RS.rl {W : World} {D top vars : Nat} : ∀ {s : SL} {x : C3}, RS W s x → ∃ l, RL W x l ∧ ∀ (d : Int) (r : Nat), ((chk D top vars d r l).1 = 0 ↔ s.nums top vars ∧ (s.dep : Int) + d ≤ D + 1 ∧ s.size ≤ r) ∧ ((chk D top vars d r l).1 = 0 → (chk D top vars d r l).2 + s.size = r)
 | .num m, (k, n, v), ⟨h1, h2, h3⟩ => by
  simp only at h1 h2 h3
  subst h1 h2
  refine ⟨.mk 1 m [], .mk (xs := []) (by simpa using h3) rfl (fun i x l h => by simp at h), fun d r => ⟨?_, fun h => ?_⟩⟩
  ·
   rw [chk_iff, List.length_nil, nodeE1, chks]
   simp only [SL.nums, SL.dep, SL.size, and_true]
   omega
  ·
   have h0 := (chk_iff.1 h).1
   have := nodeE1.1 h0
   rw [chk_in h0]
   simp only [chks, SL.size]
   omega
 | .var m, (k, n, v), ⟨h1, h2, h3⟩ => by
  simp only at h1 h2 h3
  subst h1 h2
  refine ⟨.mk 2 m [], .mk (xs := []) (by simpa using h3) rfl (fun i x l h => by simp at h), fun d r => ⟨?_, fun h => ?_⟩⟩
  ·
   rw [chk_iff, List.length_nil, nodeE2, chks]
   simp only [SL.nums, SL.dep, SL.size, and_true]
   omega
  ·
   have h0 := (chk_iff.1 h).1
   have := nodeE2.1 h0
   rw [chk_in h0]
   simp only [chks, SL.size]
   omega
 | .succ m a, (k, n, v), ⟨h1, h2, y, h3, h4⟩ => by
  simp only at h1 h2 h3
  subst h1 h2
  obtain ⟨l, g1, g2⟩ := RS.rl (D := D) (top := top) (vars := vars) h4
  refine ⟨.mk 3 m [l], .mk (xs := [y]) (by simpa using h3) rfl (fun i x l' e1 e2 => ?_), fun d r => ?_⟩
  ·
   cases i
   ·
    simp at e1 e2; subst e1 e2; exact g1
   ·
    simp at e1
  ·
   obtain ⟨e1, e2⟩ := g2 (d + 1) (r - 1)
   refine ⟨?_, fun h => ?_⟩
   ·
    rw [chk_iff, show ([l] : List Lv).length = 1 from rfl, nodeE3, chks_iff, e1, chks]
    simp only [SL.nums, SL.dep, SL.size]
    exact ⟨fun ⟨⟨h1, h2, h3, h4⟩, ⟨h6, h7, h8⟩, _⟩ => ⟨⟨by omega, by omega, h6⟩, by omega, by omega⟩, fun ⟨⟨h1, h2, h3⟩, h4, h5⟩ => ⟨⟨by omega, by omega, by omega, by omega⟩, ⟨h3, by omega, by omega⟩, trivial⟩⟩
   ·
    obtain ⟨h0, hc⟩ := chk_iff.1 h
    have := nodeE3.1 h0
    obtain ⟨hq, _⟩ := chks_iff.1 hc
    have := e2 hq
    rw [chk_in h0, chks_in hq]
    simp only [chks, SL.size]
    omega
 | .mx a b, (k, n, v), ⟨h1, y, z, h3, h4, h5⟩ => by
  simp only at h1 h3
  subst h1
  obtain ⟨la, g1, g2⟩ := RS.rl (D := D) (top := top) (vars := vars) h4
  obtain ⟨lb, g3, g4⟩ := RS.rl (D := D) (top := top) (vars := vars) h5
  refine ⟨.mk 4 n [la, lb], .mk (xs := [y, z]) (by simpa using h3) rfl (fun i x l' e1 e2 => ?_), fun d r => ?_⟩
  ·
   rcases i with _ | _ | i
   ·
    simp at e1 e2; subst e1 e2; exact g1
   ·
    simp at e1 e2; subst e1 e2; exact g3
   ·
    simp at e1
  ·
   obtain ⟨e1, e2⟩ := g2 (d + 1) (r - 1)
   obtain ⟨e3, e4⟩ := g4 (d + 1) (chk D top vars (d + 1) (r - 1) la).2
   refine ⟨?_, fun h => ?_⟩
   ·
    rw [chk_iff, show ([la, lb] : List Lv).length = 2 from rfl, nodeE4, chks_iff, chks_iff, chks]
    simp only [SL.nums, SL.dep, SL.size]
    refine ⟨fun ⟨⟨h1, h2⟩, h6, h7, _⟩ => ?_, fun ⟨⟨h1, h2⟩, h4, h5⟩ => ?_⟩
    ·
     have := e2 h6
     obtain ⟨p1, p2, p3⟩ := e1.1 h6
     obtain ⟨p4, p5, p6⟩ := e3.1 h7
     exact ⟨⟨p1, p4⟩, by omega, by omega⟩
    ·
     have h6 := e1.2 ⟨h1, by omega, by omega⟩
     have := e2 h6
     exact ⟨⟨by omega, by omega⟩, h6, e3.2 ⟨h2, by omega, by omega⟩, trivial⟩
   ·
    obtain ⟨h0, hc⟩ := chk_iff.1 h
    have := nodeE4.1 h0
    obtain ⟨hq, hc⟩ := chks_iff.1 hc
    obtain ⟨hp, _⟩ := chks_iff.1 hc
    have := e2 hq
    have := e4 hp
    rw [chk_in h0, chks_in hq, chks_in hp]
    simp only [chks, SL.size]
    omega
theorem sound_sl {W : World} {x : C3} {l : Lv} (h : RL W x l) (hs : sndL l) : ∃ s, RS W s x ∧ s.good := by
 obtain ⟨s, h1, h2, h3, h4⟩ := chk_sl (D := 256) (top := 1099511627776) (vars := 1001) h 1 1000 hs
 exact ⟨s, h1, by omega, by omega, h2⟩
theorem RS.snd {W : World} {s : SL} {x : C3} (h : RS W s x) : ∃ l, RL W x l ∧ (sndL l ↔ s.good) := by
 obtain ⟨l, h1, h2⟩ := RS.rl (D := 256) (top := 1099511627776) (vars := 1001) h
 refine ⟨l, h1, ?_⟩
 have := (h2 1 1000).1
 unfold sndL SL.good
 constructor
 ·
  intro h
  have := this.1 h
  exact ⟨by omega, by omega, this.1⟩
 ·
  rintro ⟨g1, g2, g3⟩
  exact this.2 ⟨g3, by omega, g1⟩
theorem lc_inj {x y : C3} (h : lc x = lc y) : x = y := by
 obtain ⟨a, b, c⟩ := x
 obtain ⟨d, e, f⟩ := y
 simp [lc] at h
 obtain ⟨rfl, rfl, rfl⟩ := h
 rfl
theorem fm3_inj : ∀ {xs ys : List C3}, xs.length = ys.length → xs.flatMap lc = ys.flatMap lc → xs = ys
 | [], [], _, _ => rfl
 | [], _ :: _, h, _ => by simp at h
 | _ :: _, [], h, _ => by simp at h
 | x :: xs, y :: ys, h, e => by
  rw [List.flatMap_cons, List.flatMap_cons] at e
  obtain ⟨e1, e2⟩ := List.append_inj e rfl
  rw [lc_inj e1, fm3_inj (by simpa using h) e2]
/-- What a slice reads as is one thing. -/
theorem Rd.inj {W : World} {v : Value} {k n m : Nat} {cs ds : List Value} (h : Rd W v k n cs) (h' : Rd W v k m ds) : n = m ∧ cs = ds := by
 have e : n = m := by
  obtain ⟨a, c, rfl, _⟩ := h.form
  obtain ⟨a', c', e, _⟩ := h'.form
  cases e
  rfl
 subst e
 refine ⟨rfl, ?_⟩
 rcases Nat.eq_zero_or_pos n with rfl | hn
 ·
  have h1 := h.1
  have h2 := h'.1
  rw [Nat.zero_mul] at h1 h2
  rw [List.eq_nil_of_length_eq_zero h1, List.eq_nil_of_length_eq_zero h2]
 ·
  obtain ⟨b, off, c, rfl, hb⟩ := h.some hn
  apply List.ext_getElem (h.1.trans h'.1.symm)
  intro i h1 h2
  have e1 := h.cell (List.getElem?_eq_getElem h1)
  have e2 := h'.cell (List.getElem?_eq_getElem h2)
  rw [e1] at e2
  simpa using e2
theorem RS.inj {W : World} : ∀ {s t : SL} {x : C3}, RS W s x → RS W t x → s = t
 | .num a, .num b, x, h, h' => by have := h.2.1.symm.trans h'.2.1; congr 1; omega
 | .var a, .var b, x, h, h' => by have := h.2.1.symm.trans h'.2.1; congr 1; omega
 | .succ a s, .succ b t, x, ⟨_, h1, y, h2, h3⟩, ⟨_, h4, z, h5, h6⟩ => by
  have e := lc_inj (h2.inj h5).2
  subst e
  rw [RS.inj h3 h6, show a = b by omega]
 | .mx a b, .mx c d, x, ⟨_, y, z, h2, h3, h4⟩, ⟨_, y', z', h5, h6, h7⟩ => by
  have e := (h2.inj h5).2
  have e := List.append_inj e rfl
  have e1 := lc_inj e.1
  have e2 := lc_inj e.2
  subst e1 e2
  rw [RS.inj h3 h6, RS.inj h4 h7]
 | .num _, .var _, x, h, h' => by have := h.1.symm.trans h'.1; omega
 | .num _, .succ _ _, x, h, h' => by have := h.1.symm.trans h'.1; omega
 | .num _, .mx _ _, x, h, h' => by have := h.1.symm.trans h'.1; omega
 | .var _, .num _, x, h, h' => by have := h.1.symm.trans h'.1; omega
 | .var _, .succ _ _, x, h, h' => by have := h.1.symm.trans h'.1; omega
 | .var _, .mx _ _, x, h, h' => by have := h.1.symm.trans h'.1; omega
 | .succ _ _, .num _, x, h, h' => by have := h.1.symm.trans h'.1; omega
 | .succ _ _, .var _, x, h, h' => by have := h.1.symm.trans h'.1; omega
 | .succ _ _, .mx _ _, x, h, h' => by have := h.1.symm.trans h'.1; omega
 | .mx _ _, .num _, x, h, h' => by have := h.1.symm.trans h'.1; omega
 | .mx _ _, .var _, x, h, h' => by have := h.1.symm.trans h'.1; omega
 | .mx _ _, .succ _ _, x, h, h' => by have := h.1.symm.trans h'.1; omega
theorem RL.inj {W : World} {x : C3} {l l' : Lv} (h : RL W x l) : RL W x l' → l = l' := by
 induction h generalizing l' with
 | @mk k n v xs ls hR hl hk hbd9 ih =>
  intro h'
  cases h' with
  | @mk _ _ _ ys ls' hR' hl' hk' =>
   obtain ⟨e1, e2⟩ := hR.inj hR'
   have e3 : xs = ys := fm3_inj e1 e2
   subst e3
   have : ls = ls' := by
    apply List.ext_getElem (by omega)
    intro i h1 h2
    exact ih i xs[i] ls[i] (List.getElem?_eq_getElem (by omega)) (List.getElem?_eq_getElem h1) (hk' i xs[i] ls'[i] (List.getElem?_eq_getElem (by omega)) (List.getElem?_eq_getElem h2))
   rw [this]
/-- A level of the four kinds that is good passes. -/
theorem rs_snd {W : World} {x : C3} {l : Lv} {s : SL} (hL : RL W x l) (hs : RS W s x) (hg : s.good) : sndL l := by
 obtain ⟨l', h1, h2⟩ := hs.snd
 rw [hL.inj h1]
 exact h2.2 hg
theorem E8 : Enters Try.prog 8 := enters_of Try.func8 (by kernel_rfl) rfl
theorem E9 : Enters Try.prog 9 := enters_of Try.func9 (by kernel_rfl) rfl
theorem E10 : Enters Try.prog 10 := enters_of Try.func10 (by kernel_rfl) rfl
theorem E11 : Enters Try.prog 11 := enters_of Try.func11 (by kernel_rfl) rfl
theorem E12 : Enters Try.prog 12 := enters_of Try.func12 (by kernel_rfl) rfl
theorem E13 : Enters Try.prog 13 := enters_of Try.func13 (by kernel_rfl) rfl
theorem E14 : Enters Try.prog 14 := enters_of Try.func14 (by kernel_rfl) rfl
theorem E15 : Enters Try.prog 15 := enters_of Try.func15 (by kernel_rfl) rfl
theorem E16 : Enters Try.prog 16 := enters_of Try.func16 (by kernel_rfl) rfl
theorem E17 : Enters Try.prog 17 := enters_of Try.func17 (by kernel_rfl) rfl
theorem E18 : Enters Try.prog 18 := enters_of Try.func18 (by kernel_rfl) rfl
theorem E19 : Enters Try.prog 19 := enters_of Try.func19 (by kernel_rfl) rfl
theorem E20 : Enters Try.prog 20 := enters_of Try.func20 (by kernel_rfl) rfl
theorem E21 : Enters Try.prog 21 := enters_of Try.func21 (by kernel_rfl) rfl
theorem E22 : Enters Try.prog 22 := enters_of Try.func22 (by kernel_rfl) rfl
theorem E23 : Enters Try.prog 23 := enters_of Try.func23 (by kernel_rfl) rfl
theorem E39 : Enters Try.prog 39 := enters_of Try.func39 (by kernel_rfl) rfl
theorem E40 : Enters Try.prog 40 := enters_of Try.func40 (by kernel_rfl) rfl
theorem E41 : Enters Try.prog 41 := enters_of Try.func41 (by kernel_rfl) rfl
theorem E42 : Enters Try.prog 42 := enters_of Try.func42 (by kernel_rfl) rfl
theorem E43 : Enters Try.prog 43 := enters_of Try.func43 (by kernel_rfl) rfl
theorem E44 : Enters Try.prog 44 := enters_of Try.func44 (by kernel_rfl) rfl
theorem E45 : Enters Try.prog 45 := enters_of Try.func45 (by kernel_rfl) rfl
theorem E46 : Enters Try.prog 46 := enters_of Try.func46 (by kernel_rfl) rfl
theorem E47 : Enters Try.prog 47 := enters_of Try.func47 (by kernel_rfl) rfl
theorem E48 : Enters Try.prog 48 := enters_of Try.func48 (by kernel_rfl) rfl
theorem E49 : Enters Try.prog 49 := enters_of Try.func49 (by kernel_rfl) rfl
theorem E50 : Enters Try.prog 50 := enters_of Try.func50 (by kernel_rfl) rfl
theorem E51 : Enters Try.prog 51 := enters_of Try.func51 (by kernel_rfl) rfl
theorem E52 : Enters Try.prog 52 := enters_of Try.func52 (by kernel_rfl) rfl
theorem E53 : Enters Try.prog 53 := enters_of Try.func53 (by kernel_rfl) rfl
theorem E54 : Enters Try.prog 54 := enters_of Try.func54 (by kernel_rfl) rfl
theorem E55 : Enters Try.prog 55 := enters_of Try.func55 (by kernel_rfl) rfl
theorem E56 : Enters Try.prog 56 := enters_of Try.func56 (by kernel_rfl) rfl
theorem E57 : Enters Try.prog 57 := enters_of Try.func57 (by kernel_rfl) rfl
theorem E60 : Enters Try.prog 60 := enters_of Try.func60 (by kernel_rfl) rfl
theorem E64 : Enters Try.prog 64 := enters_of Try.func64 (by kernel_rfl) rfl
theorem E82 : Enters Try.prog 82 := enters_of Try.func82 (by kernel_rfl) rfl
theorem E83 : Enters Try.prog 83 := enters_of Try.func83 (by kernel_rfl) rfl
theorem E84 : Enters Try.prog 84 := enters_of Try.func84 (by kernel_rfl) rfl
theorem E85 : Enters Try.prog 85 := enters_of Try.func85 (by kernel_rfl) rfl
theorem E86 : Enters Try.prog 86 := enters_of Try.func86 (by kernel_rfl) rfl
theorem E87 : Enters Try.prog 87 := enters_of Try.func87 (by kernel_rfl) rfl
theorem E88 : Enters Try.prog 88 := enters_of Try.func88 (by kernel_rfl) rfl
theorem E89 : Enters Try.prog 89 := enters_of Try.func89 (by kernel_rfl) rfl
theorem E90 : Enters Try.prog 90 := enters_of Try.func90 (by kernel_rfl) rfl
theorem E91 : Enters Try.prog 91 := enters_of Try.func91 (by kernel_rfl) rfl
theorem E92 : Enters Try.prog 92 := enters_of Try.func92 (by kernel_rfl) rfl
theorem E93 : Enters Try.prog 93 := enters_of Try.func93 (by kernel_rfl) rfl
theorem E94 : Enters Try.prog 94 := enters_of Try.func94 (by kernel_rfl) rfl
theorem E95 : Enters Try.prog 95 := enters_of Try.func95 (by kernel_rfl) rfl
theorem E96 : Enters Try.prog 96 := enters_of Try.func96 (by kernel_rfl) rfl
theorem E101 : Enters Try.prog 101 := enters_of Try.func101 (by kernel_rfl) rfl
theorem E107 : Enters Try.prog 107 := enters_of Try.func107 (by kernel_rfl) rfl
theorem E121 : Enters Try.prog 121 := enters_of Try.func121 (by kernel_rfl) rfl
theorem E122 : Enters Try.prog 122 := enters_of Try.func122 (by kernel_rfl) rfl
theorem E123 : Enters Try.prog 123 := enters_of Try.func123 (by kernel_rfl) rfl
theorem E124 : Enters Try.prog 124 := enters_of Try.func124 (by kernel_rfl) rfl
theorem E125 : Enters Try.prog 125 := enters_of Try.func125 (by kernel_rfl) rfl
theorem E126 : Enters Try.prog 126 := enters_of Try.func126 (by kernel_rfl) rfl
theorem E127 : Enters Try.prog 127 := enters_of Try.func127 (by kernel_rfl) rfl
theorem E137 : Enters Try.prog 137 := enters_of Try.func137 (by kernel_rfl) rfl
theorem E138 : Enters Try.prog 138 := enters_of Try.func138 (by kernel_rfl) rfl
theorem E139 : Enters Try.prog 139 := enters_of Try.func139 (by kernel_rfl) rfl
theorem E160 : Enters Try.prog 160 := enters_of Try.func160 (by kernel_rfl) rfl
theorem E161 : Enters Try.prog 161 := enters_of Try.func161 (by kernel_rfl) rfl
theorem E170 : Enters Try.prog 170 := enters_of Try.func170 (by kernel_rfl) rfl
theorem E171 : Enters Try.prog 171 := enters_of Try.func171 (by kernel_rfl) rfl
end Go.Proofs.Ytmkjhdiepkpdoaa

namespace Go.Proofs.Ytmkjhdiepkpdoaa
open Go.RowKit Go.Shelf
set_option linter.unusedVariables false
set_option linter.unusedSimpArgs false
theorem b24_0 (k : Int) (w : World) : (Instr.build 24 [(0, Value.int .i64 k)].toArray).run Try.prog w = .ok (.agg [Value.int .i64 k, Value.int .i64 0, Value.slice none 0 0].toArray) w := run_build w 24 _ _ (by kernel_rfl)
theorem one3 {k n : Int} {v : Value} (h : v.oneCell' = true) : ∀ u ∈ [Value.int .i64 k, Value.int .i64 n, v], u.oneCell' = true := one_lc h
section
variable {P : Program} {n : Nat} {l : List (Nat × Value)} {w : World} {x y : Operand}
theorem x_ldW {t k b t0 : Nat} {cs : List Value} (ht : Wide P t k = true) (m : Blk w b t0 cs) (hl : cs.length = k) (hx : ov l x = some (.pointer (some ⟨b, 0, none⟩))) : Runs P n l w (.load t x) (.agg cs.toArray) := by
 subst hl
 exact x_load hx (m_loadW ht m)
theorem x_ldA {t k : Nat} {ad : Addr} {cs : List Value} (ht : Wide P t k = true) (hc : ∀ j v, cs[j]? = some v → w.cell? (ad.add j) = some v) (hl : cs.length = k) (hx : ov l x = some (.pointer (some ad))) : Runs P n l w (.load t x) (.agg cs.toArray) := by
 subst hl
 exact x_load hx (m_loadA ht hc)
end
end Go.Proofs.Ytmkjhdiepkpdoaa

namespace Go.Proofs.Ytmkjhdiepkpdoaa
set_option maxRecDepth 100000
set_option maxHeartbeats 1600000
open Go.RowKit Go.Shelf
set_option linter.unusedVariables false
set_option linter.unusedSimpArgs false
def arI (k : Int) : Int := if k = 1 ∨ k = 2 then 0 else if k = 3 then 1 else if k = 4 then 2 else -1
theorem arity58 (k : Int) (w0 : World) : Calls Try.prog 123 #[.int .i64 k] w0 fun e w' => e = .returned (.int .i64 (arI k)) ∧ w' = w0 := by
 refine calls_fs 11 [(0, .int .i64 k)] Try.func123 rfl rfl rfl rfl rfl fun a F => ?_
 rcases (show k = 1 ∨ k = 2 ∨ k = 3 ∨ k = 4 ∨ (k ≠ 1 ∧ k ≠ 2 ∧ k ≠ 3 ∧ k ≠ 4) by omega) with hk | hk | hk | hk | hk
 ·
  skip
  refine wp_rs fun _ K2 => F.sg rfl fun a F => ?_
  refine s_end (K2 _ _ ?_)
  refine wp_seq_k fun _ K3 => ?_
  refine wp_rs fun _ K4 => F.mv rfl fun a F => ?_
  refine s_end (K4 _ _ ?_)
  refine wp_block ?_
  refine wp_seq_k fun _ K5 => ?_
  refine wp_rs fun _ K6 => F.vl (eqlT (by omega) rfl rfl) fun a F => F.sg rfl fun a F => ?_
  refine s_end (K6 _ _ ?_)
  refine wp_if F rfl ?_
  refine wp_skip (K5 _ _ ?_)
  refine wp_if F rfl ?_
  refine wp_rs fun _ K7 => F.sg rfl fun a F => ?_
  refine s_end (K7 _ _ ?_)
  refine wp_ret (inb_ret (then_ret (res_slot F rfl rfl ⟨by simp [arI, hk], rfl⟩)))
 ·
  skip
  refine wp_rs fun _ K8 => F.sg rfl fun a F => ?_
  refine s_end (K8 _ _ ?_)
  refine wp_seq_k fun _ K9 => ?_
  refine wp_rs fun _ K10 => F.mv rfl fun a F => ?_
  refine s_end (K10 _ _ ?_)
  refine wp_block ?_
  refine wp_seq_k fun _ K11 => ?_
  refine wp_rs fun _ K12 => F.vl (eqlF (by omega) rfl rfl) fun a F => F.sg rfl fun a F => ?_
  refine s_end (K12 _ _ ?_)
  refine wp_if F rfl ?_
  refine wp_region_lit ?_
  refine F.vl (eqlT (by omega) rfl rfl) fun a F => F.sg rfl fun a F => ?_
  refine s_end (K11 _ _ ?_)
  refine wp_if F rfl ?_
  refine wp_rs fun _ K13 => F.sg rfl fun a F => ?_
  refine s_end (K13 _ _ ?_)
  refine wp_ret (inb_ret (then_ret (res_slot F rfl rfl ⟨by simp [arI, hk], rfl⟩)))
 ·
  skip
  refine wp_rs fun _ K14 => F.sg rfl fun a F => ?_
  refine s_end (K14 _ _ ?_)
  refine wp_seq_k fun _ K15 => ?_
  refine wp_rs fun _ K16 => F.mv rfl fun a F => ?_
  refine s_end (K16 _ _ ?_)
  refine wp_block ?_
  refine wp_seq_k fun _ K17 => ?_
  refine wp_rs fun _ K18 => F.vl (eqlF (by omega) rfl rfl) fun a F => F.sg rfl fun a F => ?_
  refine s_end (K18 _ _ ?_)
  refine wp_if F rfl ?_
  refine wp_region_lit ?_
  refine F.vl (eqlF (by omega) rfl rfl) fun a F => F.sg rfl fun a F => ?_
  refine s_end (K17 _ _ ?_)
  refine wp_if F rfl ?_
  refine wp_rs fun _ K19 => F.vl (eqlT (by omega) rfl rfl) fun a F => F.sg rfl fun a F => ?_
  refine s_end (K19 _ _ ?_)
  refine wp_if F rfl ?_
  refine wp_rs fun _ K20 => F.sg rfl fun a F => ?_
  refine s_end (K20 _ _ ?_)
  refine wp_ret (inb_ret (then_ret (res_slot F rfl rfl ⟨by simp [arI, hk], rfl⟩)))
 ·
  skip
  refine wp_rs fun _ K21 => F.sg rfl fun a F => ?_
  refine s_end (K21 _ _ ?_)
  refine wp_seq_k fun _ K22 => ?_
  refine wp_rs fun _ K23 => F.mv rfl fun a F => ?_
  refine s_end (K23 _ _ ?_)
  refine wp_block ?_
  refine wp_seq_k fun _ K24 => ?_
  refine wp_rs fun _ K25 => F.vl (eqlF (by omega) rfl rfl) fun a F => F.sg rfl fun a F => ?_
  refine s_end (K25 _ _ ?_)
  refine wp_if F rfl ?_
  refine wp_region_lit ?_
  refine F.vl (eqlF (by omega) rfl rfl) fun a F => F.sg rfl fun a F => ?_
  refine s_end (K24 _ _ ?_)
  refine wp_if F rfl ?_
  refine wp_rs fun _ K26 => F.vl (eqlF (by omega) rfl rfl) fun a F => F.sg rfl fun a F => ?_
  refine s_end (K26 _ _ ?_)
  refine wp_if F rfl ?_
  refine wp_rs fun _ K27 => F.vl (eqlT (by omega) rfl rfl) fun a F => F.sg rfl fun a F => ?_
  refine s_end (K27 _ _ ?_)
  refine wp_if F rfl ?_
  refine wp_rs fun _ K28 => F.sg rfl fun a F => ?_
  refine s_end (K28 _ _ ?_)
  refine wp_ret (inb_ret (then_ret (res_slot F rfl rfl ⟨by simp [arI, hk], rfl⟩)))
 ·
  skip
  refine wp_rs fun _ K29 => F.sg rfl fun a F => ?_
  refine s_end (K29 _ _ ?_)
  refine wp_seq_k fun _ K30 => ?_
  refine wp_rs fun _ K31 => F.mv rfl fun a F => ?_
  refine s_end (K31 _ _ ?_)
  refine wp_block ?_
  refine wp_seq_k fun _ K32 => ?_
  refine wp_rs fun _ K33 => F.vl (eqlF (by omega) rfl rfl) fun a F => F.sg rfl fun a F => ?_
  refine s_end (K33 _ _ ?_)
  refine wp_if F rfl ?_
  refine wp_region_lit ?_
  refine F.vl (eqlF (by omega) rfl rfl) fun a F => F.sg rfl fun a F => ?_
  refine s_end (K32 _ _ ?_)
  refine wp_if F rfl ?_
  refine wp_rs fun _ K34 => F.vl (eqlF (by omega) rfl rfl) fun a F => F.sg rfl fun a F => ?_
  refine s_end (K34 _ _ ?_)
  refine wp_if F rfl ?_
  refine wp_rs fun _ K35 => F.vl (eqlF (by omega) rfl rfl) fun a F => F.sg rfl fun a F => ?_
  refine s_end (K35 _ _ ?_)
  refine wp_if F rfl ?_
  refine wp_skip (K30 _ _ ?_)
  refine wp_rs fun _ K36 => F.sg rfl fun a F => ?_
  refine s_end (K36 _ _ ?_)
  refine wp_ret (res_slot F rfl rfl ⟨by simp [arI, hk], rfl⟩)
end Go.Proofs.Ytmkjhdiepkpdoaa

namespace Go.Proofs.Ytmkjhdiepkpdoaa
open Go.RowKit Go.Shelf
set_option linter.unusedVariables false
set_option linter.unusedSimpArgs false
theorem RL.one1 {W : World} {x : C3} {l : Lv} (h : RL W x l) : x.2.2.oneCell' = true := by
 obtain ⟨_, _, h⟩ := h.slice
 exact h.one
theorem drop_at {α : Type} {ls : List α} {i : Nat} {l : α} (h : ls[i]? = some l) : ls.drop i = l :: ls.drop (i + 1) := by
 obtain ⟨hi, rfl⟩ := List.getElem?_eq_some_iff.1 h
 exact List.drop_eq_getElem_cons hi
theorem arI_kids {k : Int} {len : Nat} : kidsB k len = true ↔ 0 ≤ arI k ∧ (len : Int) = arI k := by
 rw [kidsB_iff]
 unfold arI
 split
 ·
  omega
 ·
  split
  ·
   omega
  ·
   split
   ·
    omega
   ·
    omega
theorem arI_no {k : Int} {len : Nat} (h : arI k < 0 ∨ (len : Int) ≠ arI k) : kidsB k len = false := Bool.eq_false_iff.2 fun h1 => by have := arI_kids.1 h1; omega
theorem kids_le {k : Int} {len : Nat} (h : kidsB k len = true) : len ≤ 2 := by
 have := kidsB_iff.1 h
 omega
end Go.Proofs.Ytmkjhdiepkpdoaa

namespace Go.Proofs.Ytmkjhdiepkpdoaa
set_option maxRecDepth 100000
set_option maxHeartbeats 1600000
open Go.RowKit Go.Shelf
set_option linter.unusedVariables false
set_option linter.unusedSimpArgs false
theorem chk_no {D top vars d : Int} {r : Nat} {k n : Int} {ls : List Lv} (h : nodeE D top vars d r k n ls.length ≠ 0) : (chk D top vars d r (.mk k n ls)).1 ≠ 0 := by rw [chk_out h]; exact h
theorem node_two {D top vars d : Int} {r : Nat} {k n : Int} {len : Nat} (h : D < d ∨ r = 0) : nodeE D top vars d r k n len ≠ 0 := fun h1 => by have := nodeE_iff.1 h1; omega
theorem node_kid {D top vars d : Int} {r : Nat} {k n : Int} {len : Nat} (h : arI k < 0 ∨ (len : Int) ≠ arI k) : nodeE D top vars d r k n len ≠ 0 := fun h1 => by
 have := (nodeE_iff.1 h1).2.2.1
 rw [arI_no h] at this
 cases this
theorem node_num {D top vars d : Int} {r : Nat} {k n : Int} {len : Nat} (h : ¬ ((k = 1 → 0 ≤ n ∧ n ≤ top) ∧ (k = 3 → 1 ≤ n ∧ n ≤ top))) : nodeE D top vars d r k n len ≠ 0 := fun h1 => h (numB_iff.1 (nodeE_iff.1 h1).2.2.2.1)
theorem node_var {D top vars d : Int} {r : Nat} {k n : Int} {len : Nat} (h : k = 2 ∧ (n < 0 ∨ vars ≤ n)) : nodeE D top vars d r k n len ≠ 0 := fun h1 => (nodeE_iff.1 h1).2.2.2.2 h
theorem nil_of_kids {k : Int} {ls : List Lv} (h : kidsB k ls.length = true) (hk : k = 1 ∨ k = 2) : ls = [] := List.eq_nil_of_length_eq_zero (by have := kidsB_iff.1 h; omega)
theorem bool_of {p : Prop} [Decidable p] {b : Bool} (h : b = decide p) : Value.bool b = Value.bool (decide p) := by rw [h]
theorem rsound39 (w0 : World) (g : Nat) (hg : w0.heap.size ≤ g) : ∀ (x : C3) (l : Lv), RL w0 x l → ∀ (d : Int) (r : Nat) (w1 : World), 1 ≤ d → d ≤ 300 → r ≤ 1000 → Below w0.heap.size w0 w1 → Blk w1 g 3 [.int .i64 (1000 - (r : Int))] →
    Calls Try.prog 87 #[lv x, .int .i64 d, .pointer (some ⟨g, 0, none⟩)] w1 fun e w' => ∃ v, e = .returned v ∧ (v = .bool (decide ((chk 256 1099511627776 1001 d r l).1 = 0)) ∧ ((chk 256 1099511627776 1001 d r l).1 = 0 → Blk w' g 3 [.int .i64 (1000 - ((chk 256 1099511627776 1001 d r l).2 : Int))])) ∧ Ktw g g w1 w' := by
  intro x l h
  induction h with
  | @mk k n v xs ls hR hl hk hbd9 ih =>
  intro d r w1 hd1 hd2 hr hB mg
  obtain ⟨av, cv, rfl, _⟩ := hR.form
  have hK := Ktw.refl g g w1
  have sB := hB.size
  have hgl := mg.lt
  refine calls_fs 83 [(0, .agg [.int .i64 k, .int .i64 n, .slice av xs.length cv].toArray), (1, .int .i64 d), (2, .pointer (some ⟨g, 0, none⟩))] Try.func87 rfl rfl rfl rfl rfl fun a F => ?_
  refine wp_rs fun _ K1 => ?_
  refine s_box ([.int .i64 k, .int .i64 n, .slice av xs.length cv]) F (by decide) rfl rfl fun w2 b3 a eb3 m3 B3 zb3 F => ?_
  have sB3 := B3.size
  have hB := bt hB B3
  have hK := hK.below B3
  have mg := mg.old B3
  refine F.sg rfl fun a F => ?_
  refine s_end (K1 _ _ ?_)
  refine wp_rs fun _ K2 => F.mv rfl fun a F => F.vl (x_nil rfl) fun a F => F.ld mg flat3 rfl rfl fun a F => F.vl (x_add (by omega) (by omega) rfl rfl) fun a F => F.vl (x_nil rfl) fun a F => ?_
  refine s_put F rfl rfl flat3 mg (by simp) rfl fun w4 mg o5 => ?_
  have so5 := o5.size
  have hB := hB.trans (o5.below (by omega))
  have hK := hK.only o5 (by omega)
  have m3 := m3.only o5 (by omega)
  refine s_end (K2 _ _ ?_)
  refine wp_seq_k fun _ K3 => ?_
  rcases (show 256 < d ∨ (d ≤ 256 ∧ r = 0) ∨ (d ≤ 256 ∧ r ≠ 0 ∧ arI k < 0) ∨ (d ≤ 256 ∧ r ≠ 0 ∧ 0 ≤ arI k ∧ (xs.length : Int) ≠ arI k) ∨ (d ≤ 256 ∧ r ≠ 0 ∧ 0 ≤ arI k ∧ (xs.length : Int) = arI k) by omega) with hp | hp | hp | hp | hp
  · skip
    refine dk2_seq (w4.heap.size) (w4.heap.size) (ops := regOps Try.f87 2) (N := 23) (by kernel_rfl) wide_orders (by kernel_rfl) fun w6 hw6 B7 hS K5 hK5 => ?_
    have zw6 : w6.heap.size = w4.heap.size := by rw [hw6]
    have sB7 := B7.size
    have hB := bt hB B7
    have hK := hK.below B7
    have mg := mg.old B7
    have m3 := m3.old B7
    have mg_d := mg
    have m3_d := m3
    have hB_d := hB
    have hK_d := hK
    refine F.dv 0 14 (.move (.tmp 1)) hS (fun W hW => x_move rfl) fun a F => F.dv 1 15 (.binOp .gtr 3 (.tmp 14) (.const (.int .i64 256)) 3) hS (fun W hW => gtrT (by omega) rfl rfl) fun a F => F.dv 2 16 (.move (.tmp 15)) hS (fun W hW => x_move rfl) fun a F => d_skip 3 17 16 (j := 2) (want := false) (op := (.move (.tmp 2))) F hS (by kernel_rfl) (by kernel_rfl) rfl (by kernel_rfl) (by decide) fun a F => d_skip 4 18 16 (j := 2) (want := false) (op := (.nilCheck (.tmp 17))) F hS (by kernel_rfl) (by kernel_rfl) rfl (by kernel_rfl) (by decide) fun a F => d_skip 5 19 16 (j := 2) (want := false) (op := (.load 3 (.tmp 18))) F hS (by kernel_rfl) (by kernel_rfl) rfl (by kernel_rfl) (by decide) fun a F => d_skip 6 20 16 (j := 2) (want := false) (op := (.binOp .gtr 3 (.tmp 19) (.const (.int .i64 1000)) 3)) F hS (by kernel_rfl) (by kernel_rfl) rfl (by kernel_rfl) (by decide) fun a F => F.dv 7 21 (.pick (.tmp 16) (.const (.bool true)) (.tmp 20)) hS (fun W hW => x_pick (b := true) rfl rfl) fun a F => F.dv 8 22 (.move (.tmp 21)) hS (fun W hW => x_move rfl) fun a F => d_skip 9 23 22 (j := 8) (want := false) (op := (.fieldAddr 24 (.tmp 3) 0)) F hS (by kernel_rfl) (by kernel_rfl) rfl (by kernel_rfl) (by decide) fun a F => d_skip 10 24 22 (j := 8) (want := false) (op := (.load 3 (.tmp 23))) F hS (by kernel_rfl) (by kernel_rfl) rfl (by kernel_rfl) (by decide) fun a F => d_skip 11 25 22 (j := 8) (want := false) (op := (.call (.mk (.value (.func 123)) #[(.tmp 24)] #[3]))) F hS (by kernel_rfl) (by kernel_rfl) rfl (by kernel_rfl) (by decide) fun a F => d_skip 12 26 22 (j := 8) (want := false) (op := (.binOp .lss 3 (.tmp 25) (.const (.int .i64 0)) 3)) F hS (by kernel_rfl) (by kernel_rfl) rfl (by kernel_rfl) (by decide) fun a F => F.dv 13 27 (.pick (.tmp 22) (.const (.bool true)) (.tmp 26)) hS (fun W hW => x_pick (b := true) rfl rfl) fun a F => F.dv 14 28 (.move (.tmp 27)) hS (fun W hW => x_move rfl) fun a F => d_skip 15 29 28 (j := 14) (want := false) (op := (.fieldAddr 24 (.tmp 3) 2)) F hS (by kernel_rfl) (by kernel_rfl) rfl (by kernel_rfl) (by decide) fun a F => d_skip 16 30 28 (j := 14) (want := false) (op := (.load 22 (.tmp 29))) F hS (by kernel_rfl) (by kernel_rfl) rfl (by kernel_rfl) (by decide) fun a F => d_skip 17 31 28 (j := 14) (want := false) (op := (.call (.mk (.builtin .len) #[(.tmp 30)] #[22]))) F hS (by kernel_rfl) (by kernel_rfl) rfl (by kernel_rfl) (by decide) fun a F => d_skip 18 32 28 (j := 14) (want := false) (op := (.fieldAddr 24 (.tmp 3) 0)) F hS (by kernel_rfl) (by kernel_rfl) rfl (by kernel_rfl) (by decide) fun a F => d_skip 19 33 28 (j := 14) (want := false) (op := (.load 3 (.tmp 32))) F hS (by kernel_rfl) (by kernel_rfl) rfl (by kernel_rfl) (by decide) fun a F => d_skip 20 34 28 (j := 14) (want := false) (op := (.call (.mk (.value (.func 123)) #[(.tmp 33)] #[3]))) F hS (by kernel_rfl) (by kernel_rfl) rfl (by kernel_rfl) (by decide) fun a F => d_skip 21 35 28 (j := 14) (want := false) (op := (.binOp .neq 3 (.tmp 31) (.tmp 34) 3)) F hS (by kernel_rfl) (by kernel_rfl) rfl (by kernel_rfl) (by decide) fun a F => F.dv 22 36 (.pick (.tmp 28) (.const (.bool true)) (.tmp 35)) hS (fun W hW => x_pick (b := true) rfl rfl) fun a F => ?_
    refine d_end (by kernel_rfl) (hK5 _ _ ?_)
    refine wp_if F rfl ?_
    refine wp_rs fun _ K6 => F.sg rfl fun a F => ?_
    refine s_end (K6 _ _ ?_)
    refine wp_ret (then_ret (res_slot F rfl rfl ⟨_, rfl, ⟨bool_of (decide_eq_false (chk_no (node_two (by omega)))).symm, fun h => absurd h (chk_no (node_two (by omega)))⟩, hK⟩))
  · skip
    refine dk2_seq (w4.heap.size) (w4.heap.size) (ops := regOps Try.f87 2) (N := 23) (by kernel_rfl) wide_orders (by kernel_rfl) fun w8 hw8 B9 hS K7 hK7 => ?_
    have zw8 : w8.heap.size = w4.heap.size := by rw [hw8]
    have sB9 := B9.size
    have hB := bt hB B9
    have hK := hK.below B9
    have mg := mg.old B9
    have m3 := m3.old B9
    have mg_d := mg
    have m3_d := m3
    have hB_d := hB
    have hK_d := hK
    refine F.dv 0 14 (.move (.tmp 1)) hS (fun W hW => x_move rfl) fun a F => F.dv 1 15 (.binOp .gtr 3 (.tmp 14) (.const (.int .i64 256)) 3) hS (fun W hW => gtrF (by omega) rfl rfl) fun a F => F.dv 2 16 (.move (.tmp 15)) hS (fun W hW => x_move rfl) fun a F => F.dg 3 17 16 2 false (.move (.tmp 2)) hS rfl (fun W hW => x_move rfl) fun a F => F.dg 4 18 16 2 false (.nilCheck (.tmp 17)) hS rfl (fun W hW => x_nil rfl) fun a F => F.dg 5 19 16 2 false (.load 3 (.tmp 18)) hS rfl (fun W hW => x_load rfl (m_load flat3 ((mg_d.k2 hW (by omega)).cell (j := 0) rfl))) fun a F => F.dg 6 20 16 2 false (.binOp .gtr 3 (.tmp 19) (.const (.int .i64 1000)) 3) hS rfl (fun W hW => gtrT (by omega) rfl rfl) fun a F => F.dv 7 21 (.pick (.tmp 16) (.const (.bool true)) (.tmp 20)) hS (fun W hW => x_pick (b := false) rfl rfl) fun a F => F.dv 8 22 (.move (.tmp 21)) hS (fun W hW => x_move rfl) fun a F => d_skip 9 23 22 (j := 8) (want := false) (op := (.fieldAddr 24 (.tmp 3) 0)) F hS (by kernel_rfl) (by kernel_rfl) rfl (by kernel_rfl) (by decide) fun a F => d_skip 10 24 22 (j := 8) (want := false) (op := (.load 3 (.tmp 23))) F hS (by kernel_rfl) (by kernel_rfl) rfl (by kernel_rfl) (by decide) fun a F => d_skip 11 25 22 (j := 8) (want := false) (op := (.call (.mk (.value (.func 123)) #[(.tmp 24)] #[3]))) F hS (by kernel_rfl) (by kernel_rfl) rfl (by kernel_rfl) (by decide) fun a F => d_skip 12 26 22 (j := 8) (want := false) (op := (.binOp .lss 3 (.tmp 25) (.const (.int .i64 0)) 3)) F hS (by kernel_rfl) (by kernel_rfl) rfl (by kernel_rfl) (by decide) fun a F => F.dv 13 27 (.pick (.tmp 22) (.const (.bool true)) (.tmp 26)) hS (fun W hW => x_pick (b := true) rfl rfl) fun a F => F.dv 14 28 (.move (.tmp 27)) hS (fun W hW => x_move rfl) fun a F => d_skip 15 29 28 (j := 14) (want := false) (op := (.fieldAddr 24 (.tmp 3) 2)) F hS (by kernel_rfl) (by kernel_rfl) rfl (by kernel_rfl) (by decide) fun a F => d_skip 16 30 28 (j := 14) (want := false) (op := (.load 22 (.tmp 29))) F hS (by kernel_rfl) (by kernel_rfl) rfl (by kernel_rfl) (by decide) fun a F => d_skip 17 31 28 (j := 14) (want := false) (op := (.call (.mk (.builtin .len) #[(.tmp 30)] #[22]))) F hS (by kernel_rfl) (by kernel_rfl) rfl (by kernel_rfl) (by decide) fun a F => d_skip 18 32 28 (j := 14) (want := false) (op := (.fieldAddr 24 (.tmp 3) 0)) F hS (by kernel_rfl) (by kernel_rfl) rfl (by kernel_rfl) (by decide) fun a F => d_skip 19 33 28 (j := 14) (want := false) (op := (.load 3 (.tmp 32))) F hS (by kernel_rfl) (by kernel_rfl) rfl (by kernel_rfl) (by decide) fun a F => d_skip 20 34 28 (j := 14) (want := false) (op := (.call (.mk (.value (.func 123)) #[(.tmp 33)] #[3]))) F hS (by kernel_rfl) (by kernel_rfl) rfl (by kernel_rfl) (by decide) fun a F => d_skip 21 35 28 (j := 14) (want := false) (op := (.binOp .neq 3 (.tmp 31) (.tmp 34) 3)) F hS (by kernel_rfl) (by kernel_rfl) rfl (by kernel_rfl) (by decide) fun a F => F.dv 22 36 (.pick (.tmp 28) (.const (.bool true)) (.tmp 35)) hS (fun W hW => x_pick (b := true) rfl rfl) fun a F => ?_
    refine d_end (by kernel_rfl) (hK7 _ _ ?_)
    refine wp_if F rfl ?_
    refine wp_rs fun _ K8 => F.sg rfl fun a F => ?_
    refine s_end (K8 _ _ ?_)
    refine wp_ret (then_ret (res_slot F rfl rfl ⟨_, rfl, ⟨bool_of (decide_eq_false (chk_no (node_two (by omega)))).symm, fun h => absurd h (chk_no (node_two (by omega)))⟩, hK⟩))
  · skip
    refine dk2_seq (w4.heap.size) (w4.heap.size) (ops := regOps Try.f87 2) (N := 23) (by kernel_rfl) wide_orders (by kernel_rfl) fun w10 hw10 B11 hS K9 hK9 => ?_
    have zw10 : w10.heap.size = w4.heap.size := by rw [hw10]
    have sB11 := B11.size
    have hB := bt hB B11
    have hK := hK.below B11
    have mg := mg.old B11
    have m3 := m3.old B11
    have mg_d := mg
    have m3_d := m3
    have hB_d := hB
    have hK_d := hK
    refine F.dv 0 14 (.move (.tmp 1)) hS (fun W hW => x_move rfl) fun a F => F.dv 1 15 (.binOp .gtr 3 (.tmp 14) (.const (.int .i64 256)) 3) hS (fun W hW => gtrF (by omega) rfl rfl) fun a F => F.dv 2 16 (.move (.tmp 15)) hS (fun W hW => x_move rfl) fun a F => F.dg 3 17 16 2 false (.move (.tmp 2)) hS rfl (fun W hW => x_move rfl) fun a F => F.dg 4 18 16 2 false (.nilCheck (.tmp 17)) hS rfl (fun W hW => x_nil rfl) fun a F => F.dg 5 19 16 2 false (.load 3 (.tmp 18)) hS rfl (fun W hW => x_load rfl (m_load flat3 ((mg_d.k2 hW (by omega)).cell (j := 0) rfl))) fun a F => F.dg 6 20 16 2 false (.binOp .gtr 3 (.tmp 19) (.const (.int .i64 1000)) 3) hS rfl (fun W hW => gtrF (by omega) rfl rfl) fun a F => F.dv 7 21 (.pick (.tmp 16) (.const (.bool true)) (.tmp 20)) hS (fun W hW => x_pick (b := false) rfl rfl) fun a F => F.dv 8 22 (.move (.tmp 21)) hS (fun W hW => x_move rfl) fun a F => F.dg 9 23 22 8 false (.fieldAddr 24 (.tmp 3) 0) hS rfl (fun W hW => x_fa0 fa24_0 rfl) fun a F => F.dg 10 24 22 8 false (.load 3 (.tmp 23)) hS rfl (fun W hW => x_load rfl (m_load flat3 ((m3_d.k2 hW (by omega)).cell (j := 0) rfl))) fun a F => ?_
    refine d_oneg 11 22 (some 25) (.call (.mk (.value (.func 123)) #[(.tmp 24)] #[3])) (j := 8) (want := false) F (by kernel_rfl) (by kernel_rfl) (by kernel_rfl) rfl fun ty pos af => ?_
    refine s_callS [.int .i64 k] F E123 rfl (by decide) (arity58 k _) fun a F => ?_
    refine s_end ⟨hS, ?_⟩
    refine F.dg 12 26 22 8 false (.binOp .lss 3 (.tmp 25) (.const (.int .i64 0)) 3) hS rfl (fun W hW => lssT (by omega) rfl rfl) fun a F => F.dv 13 27 (.pick (.tmp 22) (.const (.bool true)) (.tmp 26)) hS (fun W hW => x_pick (b := false) rfl rfl) fun a F => F.dv 14 28 (.move (.tmp 27)) hS (fun W hW => x_move rfl) fun a F => d_skip 15 29 28 (j := 14) (want := false) (op := (.fieldAddr 24 (.tmp 3) 2)) F hS (by kernel_rfl) (by kernel_rfl) rfl (by kernel_rfl) (by decide) fun a F => d_skip 16 30 28 (j := 14) (want := false) (op := (.load 22 (.tmp 29))) F hS (by kernel_rfl) (by kernel_rfl) rfl (by kernel_rfl) (by decide) fun a F => d_skip 17 31 28 (j := 14) (want := false) (op := (.call (.mk (.builtin .len) #[(.tmp 30)] #[22]))) F hS (by kernel_rfl) (by kernel_rfl) rfl (by kernel_rfl) (by decide) fun a F => d_skip 18 32 28 (j := 14) (want := false) (op := (.fieldAddr 24 (.tmp 3) 0)) F hS (by kernel_rfl) (by kernel_rfl) rfl (by kernel_rfl) (by decide) fun a F => d_skip 19 33 28 (j := 14) (want := false) (op := (.load 3 (.tmp 32))) F hS (by kernel_rfl) (by kernel_rfl) rfl (by kernel_rfl) (by decide) fun a F => d_skip 20 34 28 (j := 14) (want := false) (op := (.call (.mk (.value (.func 123)) #[(.tmp 33)] #[3]))) F hS (by kernel_rfl) (by kernel_rfl) rfl (by kernel_rfl) (by decide) fun a F => d_skip 21 35 28 (j := 14) (want := false) (op := (.binOp .neq 3 (.tmp 31) (.tmp 34) 3)) F hS (by kernel_rfl) (by kernel_rfl) rfl (by kernel_rfl) (by decide) fun a F => F.dv 22 36 (.pick (.tmp 28) (.const (.bool true)) (.tmp 35)) hS (fun W hW => x_pick (b := true) rfl rfl) fun a F => ?_
    refine d_end (by kernel_rfl) (hK9 _ _ ?_)
    refine wp_if F rfl ?_
    refine wp_rs fun _ K10 => F.sg rfl fun a F => ?_
    refine s_end (K10 _ _ ?_)
    refine wp_ret (then_ret (res_slot F rfl rfl ⟨_, rfl, ⟨bool_of (decide_eq_false (chk_no (node_kid (by omega)))).symm, fun h => absurd h (chk_no (node_kid (by omega)))⟩, hK⟩))
  · skip
    refine dk2_seq (w4.heap.size) (w4.heap.size) (ops := regOps Try.f87 2) (N := 23) (by kernel_rfl) wide_orders (by kernel_rfl) fun w12 hw12 B13 hS K11 hK11 => ?_
    have zw12 : w12.heap.size = w4.heap.size := by rw [hw12]
    have sB13 := B13.size
    have hB := bt hB B13
    have hK := hK.below B13
    have mg := mg.old B13
    have m3 := m3.old B13
    have mg_d := mg
    have m3_d := m3
    have hB_d := hB
    have hK_d := hK
    refine F.dv 0 14 (.move (.tmp 1)) hS (fun W hW => x_move rfl) fun a F => F.dv 1 15 (.binOp .gtr 3 (.tmp 14) (.const (.int .i64 256)) 3) hS (fun W hW => gtrF (by omega) rfl rfl) fun a F => F.dv 2 16 (.move (.tmp 15)) hS (fun W hW => x_move rfl) fun a F => F.dg 3 17 16 2 false (.move (.tmp 2)) hS rfl (fun W hW => x_move rfl) fun a F => F.dg 4 18 16 2 false (.nilCheck (.tmp 17)) hS rfl (fun W hW => x_nil rfl) fun a F => F.dg 5 19 16 2 false (.load 3 (.tmp 18)) hS rfl (fun W hW => x_load rfl (m_load flat3 ((mg_d.k2 hW (by omega)).cell (j := 0) rfl))) fun a F => F.dg 6 20 16 2 false (.binOp .gtr 3 (.tmp 19) (.const (.int .i64 1000)) 3) hS rfl (fun W hW => gtrF (by omega) rfl rfl) fun a F => F.dv 7 21 (.pick (.tmp 16) (.const (.bool true)) (.tmp 20)) hS (fun W hW => x_pick (b := false) rfl rfl) fun a F => F.dv 8 22 (.move (.tmp 21)) hS (fun W hW => x_move rfl) fun a F => F.dg 9 23 22 8 false (.fieldAddr 24 (.tmp 3) 0) hS rfl (fun W hW => x_fa0 fa24_0 rfl) fun a F => F.dg 10 24 22 8 false (.load 3 (.tmp 23)) hS rfl (fun W hW => x_load rfl (m_load flat3 ((m3_d.k2 hW (by omega)).cell (j := 0) rfl))) fun a F => ?_
    refine d_oneg 11 22 (some 25) (.call (.mk (.value (.func 123)) #[(.tmp 24)] #[3])) (j := 8) (want := false) F (by kernel_rfl) (by kernel_rfl) (by kernel_rfl) rfl fun ty pos af => ?_
    refine s_callS [.int .i64 k] F E123 rfl (by decide) (arity58 k _) fun a F => ?_
    refine s_end ⟨hS, ?_⟩
    refine F.dg 12 26 22 8 false (.binOp .lss 3 (.tmp 25) (.const (.int .i64 0)) 3) hS rfl (fun W hW => lssF (by omega) rfl rfl) fun a F => F.dv 13 27 (.pick (.tmp 22) (.const (.bool true)) (.tmp 26)) hS (fun W hW => x_pick (b := false) rfl rfl) fun a F => F.dv 14 28 (.move (.tmp 27)) hS (fun W hW => x_move rfl) fun a F => F.dg 15 29 28 14 false (.fieldAddr 24 (.tmp 3) 2) hS rfl (fun W hW => x_fa0 fa24_2 rfl) fun a F => F.dg 16 30 28 14 false (.load 22 (.tmp 29)) hS rfl (fun W hW => x_load rfl (m_load flat22 ((m3_d.k2 hW (by omega)).cell (j := 2) rfl))) fun a F => F.dg 17 31 28 14 false (.call (.mk (.builtin .len) #[(.tmp 30)] #[22])) hS rfl (fun W hW => x_len Try.underlying22 rfl) fun a F => F.dg 18 32 28 14 false (.fieldAddr 24 (.tmp 3) 0) hS rfl (fun W hW => x_fa0 fa24_0 rfl) fun a F => F.dg 19 33 28 14 false (.load 3 (.tmp 32)) hS rfl (fun W hW => x_load rfl (m_load flat3 ((m3_d.k2 hW (by omega)).cell (j := 0) rfl))) fun a F => ?_
    refine d_oneg 20 28 (some 34) (.call (.mk (.value (.func 123)) #[(.tmp 33)] #[3])) (j := 14) (want := false) F (by kernel_rfl) (by kernel_rfl) (by kernel_rfl) rfl fun ty pos af => ?_
    refine s_callS [.int .i64 k] F E123 rfl (by decide) (arity58 k _) fun a F => ?_
    refine s_end ⟨hS, ?_⟩
    refine F.dg 21 35 28 14 false (.binOp .neq 3 (.tmp 31) (.tmp 34) 3) hS rfl (fun W hW => neqT (by omega) rfl rfl) fun a F => F.dv 22 36 (.pick (.tmp 28) (.const (.bool true)) (.tmp 35)) hS (fun W hW => x_pick (b := false) rfl rfl) fun a F => ?_
    refine d_end (by kernel_rfl) (hK11 _ _ ?_)
    refine wp_if F rfl ?_
    refine wp_rs fun _ K12 => F.sg rfl fun a F => ?_
    refine s_end (K12 _ _ ?_)
    refine wp_ret (then_ret (res_slot F rfl rfl ⟨_, rfl, ⟨bool_of (decide_eq_false (chk_no (node_kid (by omega)))).symm, fun h => absurd h (chk_no (node_kid (by omega)))⟩, hK⟩))
  · have hkl : kidsB k ls.length = true := arI_kids.2 (by omega)
    refine dk2_seq (w4.heap.size) (w4.heap.size) (ops := regOps Try.f87 2) (N := 23) (by kernel_rfl) wide_orders (by kernel_rfl) fun w14 hw14 B15 hS K13 hK13 => ?_
    have zw14 : w14.heap.size = w4.heap.size := by rw [hw14]
    have sB15 := B15.size
    have hB := bt hB B15
    have hK := hK.below B15
    have mg := mg.old B15
    have m3 := m3.old B15
    have mg_d := mg
    have m3_d := m3
    have hB_d := hB
    have hK_d := hK
    refine F.dv 0 14 (.move (.tmp 1)) hS (fun W hW => x_move rfl) fun a F => F.dv 1 15 (.binOp .gtr 3 (.tmp 14) (.const (.int .i64 256)) 3) hS (fun W hW => gtrF (by omega) rfl rfl) fun a F => F.dv 2 16 (.move (.tmp 15)) hS (fun W hW => x_move rfl) fun a F => F.dg 3 17 16 2 false (.move (.tmp 2)) hS rfl (fun W hW => x_move rfl) fun a F => F.dg 4 18 16 2 false (.nilCheck (.tmp 17)) hS rfl (fun W hW => x_nil rfl) fun a F => F.dg 5 19 16 2 false (.load 3 (.tmp 18)) hS rfl (fun W hW => x_load rfl (m_load flat3 ((mg_d.k2 hW (by omega)).cell (j := 0) rfl))) fun a F => F.dg 6 20 16 2 false (.binOp .gtr 3 (.tmp 19) (.const (.int .i64 1000)) 3) hS rfl (fun W hW => gtrF (by omega) rfl rfl) fun a F => F.dv 7 21 (.pick (.tmp 16) (.const (.bool true)) (.tmp 20)) hS (fun W hW => x_pick (b := false) rfl rfl) fun a F => F.dv 8 22 (.move (.tmp 21)) hS (fun W hW => x_move rfl) fun a F => F.dg 9 23 22 8 false (.fieldAddr 24 (.tmp 3) 0) hS rfl (fun W hW => x_fa0 fa24_0 rfl) fun a F => F.dg 10 24 22 8 false (.load 3 (.tmp 23)) hS rfl (fun W hW => x_load rfl (m_load flat3 ((m3_d.k2 hW (by omega)).cell (j := 0) rfl))) fun a F => ?_
    refine d_oneg 11 22 (some 25) (.call (.mk (.value (.func 123)) #[(.tmp 24)] #[3])) (j := 8) (want := false) F (by kernel_rfl) (by kernel_rfl) (by kernel_rfl) rfl fun ty pos af => ?_
    refine s_callS [.int .i64 k] F E123 rfl (by decide) (arity58 k _) fun a F => ?_
    refine s_end ⟨hS, ?_⟩
    refine F.dg 12 26 22 8 false (.binOp .lss 3 (.tmp 25) (.const (.int .i64 0)) 3) hS rfl (fun W hW => lssF (by omega) rfl rfl) fun a F => F.dv 13 27 (.pick (.tmp 22) (.const (.bool true)) (.tmp 26)) hS (fun W hW => x_pick (b := false) rfl rfl) fun a F => F.dv 14 28 (.move (.tmp 27)) hS (fun W hW => x_move rfl) fun a F => F.dg 15 29 28 14 false (.fieldAddr 24 (.tmp 3) 2) hS rfl (fun W hW => x_fa0 fa24_2 rfl) fun a F => F.dg 16 30 28 14 false (.load 22 (.tmp 29)) hS rfl (fun W hW => x_load rfl (m_load flat22 ((m3_d.k2 hW (by omega)).cell (j := 2) rfl))) fun a F => F.dg 17 31 28 14 false (.call (.mk (.builtin .len) #[(.tmp 30)] #[22])) hS rfl (fun W hW => x_len Try.underlying22 rfl) fun a F => F.dg 18 32 28 14 false (.fieldAddr 24 (.tmp 3) 0) hS rfl (fun W hW => x_fa0 fa24_0 rfl) fun a F => F.dg 19 33 28 14 false (.load 3 (.tmp 32)) hS rfl (fun W hW => x_load rfl (m_load flat3 ((m3_d.k2 hW (by omega)).cell (j := 0) rfl))) fun a F => ?_
    refine d_oneg 20 28 (some 34) (.call (.mk (.value (.func 123)) #[(.tmp 33)] #[3])) (j := 14) (want := false) F (by kernel_rfl) (by kernel_rfl) (by kernel_rfl) rfl fun ty pos af => ?_
    refine s_callS [.int .i64 k] F E123 rfl (by decide) (arity58 k _) fun a F => ?_
    refine s_end ⟨hS, ?_⟩
    refine F.dg 21 35 28 14 false (.binOp .neq 3 (.tmp 31) (.tmp 34) 3) hS rfl (fun W hW => neqF (by omega) rfl rfl) fun a F => F.dv 22 36 (.pick (.tmp 28) (.const (.bool true)) (.tmp 35)) hS (fun W hW => x_pick (b := false) rfl rfl) fun a F => ?_
    refine d_end (by kernel_rfl) (hK13 _ _ ?_)
    refine wp_if F rfl ?_
    refine wp_skip (K3 _ _ ?_)
    refine wp_seq_k fun _ K14 => ?_
    rcases (show (k = 1 ∧ n < 0) ∨ (k = 1 ∧ 0 ≤ n ∧ 1099511627776 < n) ∨ (k = 1 ∧ 0 ≤ n ∧ n ≤ 1099511627776) ∨ (k = 2 ∧ n < 0) ∨ (k = 2 ∧ 0 ≤ n ∧ 1000 < n) ∨ (k = 2 ∧ 0 ≤ n ∧ n ≤ 1000) ∨ (k = 3 ∧ n < 1) ∨ (k = 3 ∧ 1 ≤ n ∧ 1099511627776 < n) ∨ (k = 3 ∧ 1 ≤ n ∧ n ≤ 1099511627776) ∨ (k ≠ 1 ∧ k ≠ 2 ∧ k ≠ 3) by omega) with hv | hv | hv | hv | hv | hv | hv | hv | hv | hv
    · skip
      refine wp_rs fun _ K16 => F.vl (x_fa0 fa24_0 rfl) fun a F => F.ld m3 flat3 rfl rfl fun a F => ?_
      refine s_end (K16 _ _ ?_)
      refine wp_block ?_
      refine wp_rs fun _ K17 => F.vl (eqlT (by omega) rfl rfl) fun a F => F.sg rfl fun a F => ?_
      refine s_end (K17 _ _ ?_)
      refine wp_if F rfl ?_
      refine wp_rs fun _ K18 => F.vl (x_fa0 fa24_1 rfl) fun a F => F.ld m3 flat3 rfl rfl fun a F => F.vl (geqF (by omega) rfl rfl) fun a F => F.mv rfl fun a F => s_grdn 44 F rfl rfl (by decide) fun a F => s_grdn 44 F rfl rfl (by decide) fun a F => s_grdn 44 F rfl rfl (by decide) fun a F => F.vl (x_pick (b := false) rfl rfl) fun a F => F.sg rfl fun a F => ?_
      refine s_end (K18 _ _ ?_)
      refine wp_ret (inb_ret (then_ret (res_slot F rfl rfl ⟨_, rfl, ⟨bool_of (decide_eq_false (chk_no (node_num (by omega)))).symm, fun h => absurd h (chk_no (node_num (by omega)))⟩, hK⟩)))
    · skip
      refine wp_rs fun _ K19 => F.vl (x_fa0 fa24_0 rfl) fun a F => F.ld m3 flat3 rfl rfl fun a F => ?_
      refine s_end (K19 _ _ ?_)
      refine wp_block ?_
      refine wp_rs fun _ K20 => F.vl (eqlT (by omega) rfl rfl) fun a F => F.sg rfl fun a F => ?_
      refine s_end (K20 _ _ ?_)
      refine wp_if F rfl ?_
      refine wp_rs fun _ K21 => F.vl (x_fa0 fa24_1 rfl) fun a F => F.ld m3 flat3 rfl rfl fun a F => F.vl (geqT (by omega) rfl rfl) fun a F => F.mv rfl fun a F => s_grd 44 F rfl rfl rfl <| F.vl (x_fa0 fa24_1 rfl) fun a F => s_grd 44 F rfl rfl rfl <| F.ld m3 flat3 rfl rfl fun a F => s_grd 44 F rfl rfl rfl <| F.vl (leqF (by omega) rfl rfl) fun a F => F.vl (x_pick (b := true) rfl rfl) fun a F => F.sg rfl fun a F => ?_
      refine s_end (K21 _ _ ?_)
      refine wp_ret (inb_ret (then_ret (res_slot F rfl rfl ⟨_, rfl, ⟨bool_of (decide_eq_false (chk_no (node_num (by omega)))).symm, fun h => absurd h (chk_no (node_num (by omega)))⟩, hK⟩)))
    · have hnb : numB 1099511627776 k n = true := numB_iff.2 (by omega)
      have hnd := nodeE_iff.2 ⟨(by omega : d ≤ 256), (by omega : r ≠ 0), hkl, hnb, (by omega : ¬ (k = 2 ∧ (n < 0 ∨ 1001 ≤ n)))⟩
      have hnil := nil_of_kids hkl (by omega)
      refine wp_rs fun _ K22 => F.vl (x_fa0 fa24_0 rfl) fun a F => F.ld m3 flat3 rfl rfl fun a F => ?_
      refine s_end (K22 _ _ ?_)
      refine wp_block ?_
      refine wp_rs fun _ K23 => F.vl (eqlT (by omega) rfl rfl) fun a F => F.sg rfl fun a F => ?_
      refine s_end (K23 _ _ ?_)
      refine wp_if F rfl ?_
      refine wp_rs fun _ K24 => F.vl (x_fa0 fa24_1 rfl) fun a F => F.ld m3 flat3 rfl rfl fun a F => F.vl (geqT (by omega) rfl rfl) fun a F => F.mv rfl fun a F => s_grd 44 F rfl rfl rfl <| F.vl (x_fa0 fa24_1 rfl) fun a F => s_grd 44 F rfl rfl rfl <| F.ld m3 flat3 rfl rfl fun a F => s_grd 44 F rfl rfl rfl <| F.vl (leqT (by omega) rfl rfl) fun a F => F.vl (x_pick (b := true) rfl rfl) fun a F => F.sg rfl fun a F => ?_
      refine s_end (K24 _ _ ?_)
      have mg : Blk w14 g 3 [.int .i64 (1000 - ((r - 1 : Nat) : Int))] := by rw [show (1000 : Int) - ((r - 1 : Nat) : Int) = 1000 - (r : Int) + 1 by omega]; exact mg
      refine wp_ret (inb_ret (then_ret (res_slot F rfl rfl ⟨_, rfl, ⟨bool_of (decide_eq_true (by rw [chk_in hnd, hnil]; rfl)).symm, fun _ => by rw [chk_in hnd, hnil]; exact mg⟩, hK⟩)))
    · skip
      refine wp_rs fun _ K25 => F.vl (x_fa0 fa24_0 rfl) fun a F => F.ld m3 flat3 rfl rfl fun a F => ?_
      refine s_end (K25 _ _ ?_)
      refine wp_block ?_
      refine wp_rs fun _ K26 => F.vl (eqlF (by omega) rfl rfl) fun a F => F.sg rfl fun a F => ?_
      refine s_end (K26 _ _ ?_)
      refine wp_if F rfl ?_
      refine wp_rs fun _ K27 => F.vl (eqlT (by omega) rfl rfl) fun a F => F.sg rfl fun a F => ?_
      refine s_end (K27 _ _ ?_)
      refine wp_if F rfl ?_
      refine wp_rs fun _ K28 => F.vl (x_fa0 fa24_1 rfl) fun a F => F.ld m3 flat3 rfl rfl fun a F => F.vl (geqF (by omega) rfl rfl) fun a F => F.mv rfl fun a F => s_grdn 54 F rfl rfl (by decide) fun a F => s_grdn 54 F rfl rfl (by decide) fun a F => s_grdn 54 F rfl rfl (by decide) fun a F => F.vl (x_pick (b := false) rfl rfl) fun a F => F.sg rfl fun a F => ?_
      refine s_end (K28 _ _ ?_)
      refine wp_ret (inb_ret (then_ret (res_slot F rfl rfl ⟨_, rfl, ⟨bool_of (decide_eq_false (chk_no (node_var (by omega)))).symm, fun h => absurd h (chk_no (node_var (by omega)))⟩, hK⟩)))
    · skip
      refine wp_rs fun _ K29 => F.vl (x_fa0 fa24_0 rfl) fun a F => F.ld m3 flat3 rfl rfl fun a F => ?_
      refine s_end (K29 _ _ ?_)
      refine wp_block ?_
      refine wp_rs fun _ K30 => F.vl (eqlF (by omega) rfl rfl) fun a F => F.sg rfl fun a F => ?_
      refine s_end (K30 _ _ ?_)
      refine wp_if F rfl ?_
      refine wp_rs fun _ K31 => F.vl (eqlT (by omega) rfl rfl) fun a F => F.sg rfl fun a F => ?_
      refine s_end (K31 _ _ ?_)
      refine wp_if F rfl ?_
      refine wp_rs fun _ K32 => F.vl (x_fa0 fa24_1 rfl) fun a F => F.ld m3 flat3 rfl rfl fun a F => F.vl (geqT (by omega) rfl rfl) fun a F => F.mv rfl fun a F => s_grd 54 F rfl rfl rfl <| F.vl (x_fa0 fa24_1 rfl) fun a F => s_grd 54 F rfl rfl rfl <| F.ld m3 flat3 rfl rfl fun a F => s_grd 54 F rfl rfl rfl <| F.vl (leqF (by omega) rfl rfl) fun a F => F.vl (x_pick (b := true) rfl rfl) fun a F => F.sg rfl fun a F => ?_
      refine s_end (K32 _ _ ?_)
      refine wp_ret (inb_ret (then_ret (res_slot F rfl rfl ⟨_, rfl, ⟨bool_of (decide_eq_false (chk_no (node_var (by omega)))).symm, fun h => absurd h (chk_no (node_var (by omega)))⟩, hK⟩)))
    · have hnb : numB 1099511627776 k n = true := numB_iff.2 (by omega)
      have hnd := nodeE_iff.2 ⟨(by omega : d ≤ 256), (by omega : r ≠ 0), hkl, hnb, (by omega : ¬ (k = 2 ∧ (n < 0 ∨ 1001 ≤ n)))⟩
      have hnil := nil_of_kids hkl (by omega)
      refine wp_rs fun _ K33 => F.vl (x_fa0 fa24_0 rfl) fun a F => F.ld m3 flat3 rfl rfl fun a F => ?_
      refine s_end (K33 _ _ ?_)
      refine wp_block ?_
      refine wp_rs fun _ K34 => F.vl (eqlF (by omega) rfl rfl) fun a F => F.sg rfl fun a F => ?_
      refine s_end (K34 _ _ ?_)
      refine wp_if F rfl ?_
      refine wp_rs fun _ K35 => F.vl (eqlT (by omega) rfl rfl) fun a F => F.sg rfl fun a F => ?_
      refine s_end (K35 _ _ ?_)
      refine wp_if F rfl ?_
      refine wp_rs fun _ K36 => F.vl (x_fa0 fa24_1 rfl) fun a F => F.ld m3 flat3 rfl rfl fun a F => F.vl (geqT (by omega) rfl rfl) fun a F => F.mv rfl fun a F => s_grd 54 F rfl rfl rfl <| F.vl (x_fa0 fa24_1 rfl) fun a F => s_grd 54 F rfl rfl rfl <| F.ld m3 flat3 rfl rfl fun a F => s_grd 54 F rfl rfl rfl <| F.vl (leqT (by omega) rfl rfl) fun a F => F.vl (x_pick (b := true) rfl rfl) fun a F => F.sg rfl fun a F => ?_
      refine s_end (K36 _ _ ?_)
      have mg : Blk w14 g 3 [.int .i64 (1000 - ((r - 1 : Nat) : Int))] := by rw [show (1000 : Int) - ((r - 1 : Nat) : Int) = 1000 - (r : Int) + 1 by omega]; exact mg
      refine wp_ret (inb_ret (then_ret (res_slot F rfl rfl ⟨_, rfl, ⟨bool_of (decide_eq_true (by rw [chk_in hnd, hnil]; rfl)).symm, fun _ => by rw [chk_in hnd, hnil]; exact mg⟩, hK⟩)))
    · skip
      refine wp_rs fun _ K37 => F.vl (x_fa0 fa24_0 rfl) fun a F => F.ld m3 flat3 rfl rfl fun a F => ?_
      refine s_end (K37 _ _ ?_)
      refine wp_block ?_
      refine wp_rs fun _ K38 => F.vl (eqlF (by omega) rfl rfl) fun a F => F.sg rfl fun a F => ?_
      refine s_end (K38 _ _ ?_)
      refine wp_if F rfl ?_
      refine wp_rs fun _ K39 => F.vl (eqlF (by omega) rfl rfl) fun a F => F.sg rfl fun a F => ?_
      refine s_end (K39 _ _ ?_)
      refine wp_if F rfl ?_
      refine wp_rs fun _ K40 => F.vl (eqlT (by omega) rfl rfl) fun a F => F.sg rfl fun a F => ?_
      refine s_end (K40 _ _ ?_)
      refine wp_if F rfl ?_
      refine wp_rs fun _ K41 => F.vl (x_fa0 fa24_1 rfl) fun a F => F.ld m3 flat3 rfl rfl fun a F => F.vl (lssT (by omega) rfl rfl) fun a F => F.mv rfl fun a F => s_grdn 64 F rfl rfl (by decide) fun a F => s_grdn 64 F rfl rfl (by decide) fun a F => s_grdn 64 F rfl rfl (by decide) fun a F => F.vl (x_pick (b := true) rfl rfl) fun a F => ?_
      refine s_end (K41 _ _ ?_)
      refine wp_if F rfl ?_
      refine wp_rs fun _ K42 => F.sg rfl fun a F => ?_
      refine s_end (K42 _ _ ?_)
      refine wp_ret (inb_ret (then_ret (res_slot F rfl rfl ⟨_, rfl, ⟨bool_of (decide_eq_false (chk_no (node_num (by omega)))).symm, fun h => absurd h (chk_no (node_num (by omega)))⟩, hK⟩)))
    · skip
      refine wp_rs fun _ K43 => F.vl (x_fa0 fa24_0 rfl) fun a F => F.ld m3 flat3 rfl rfl fun a F => ?_
      refine s_end (K43 _ _ ?_)
      refine wp_block ?_
      refine wp_rs fun _ K44 => F.vl (eqlF (by omega) rfl rfl) fun a F => F.sg rfl fun a F => ?_
      refine s_end (K44 _ _ ?_)
      refine wp_if F rfl ?_
      refine wp_rs fun _ K45 => F.vl (eqlF (by omega) rfl rfl) fun a F => F.sg rfl fun a F => ?_
      refine s_end (K45 _ _ ?_)
      refine wp_if F rfl ?_
      refine wp_rs fun _ K46 => F.vl (eqlT (by omega) rfl rfl) fun a F => F.sg rfl fun a F => ?_
      refine s_end (K46 _ _ ?_)
      refine wp_if F rfl ?_
      refine wp_rs fun _ K47 => F.vl (x_fa0 fa24_1 rfl) fun a F => F.ld m3 flat3 rfl rfl fun a F => F.vl (lssF (by omega) rfl rfl) fun a F => F.mv rfl fun a F => s_grd 64 F rfl rfl rfl <| F.vl (x_fa0 fa24_1 rfl) fun a F => s_grd 64 F rfl rfl rfl <| F.ld m3 flat3 rfl rfl fun a F => s_grd 64 F rfl rfl rfl <| F.vl (gtrT (by omega) rfl rfl) fun a F => F.vl (x_pick (b := false) rfl rfl) fun a F => ?_
      refine s_end (K47 _ _ ?_)
      refine wp_if F rfl ?_
      refine wp_rs fun _ K48 => F.sg rfl fun a F => ?_
      refine s_end (K48 _ _ ?_)
      refine wp_ret (inb_ret (then_ret (res_slot F rfl rfl ⟨_, rfl, ⟨bool_of (decide_eq_false (chk_no (node_num (by omega)))).symm, fun h => absurd h (chk_no (node_num (by omega)))⟩, hK⟩)))
    · have hnb : numB 1099511627776 k n = true := numB_iff.2 (by omega)
      have hnd := nodeE_iff.2 ⟨(by omega : d ≤ 256), (by omega : r ≠ 0), hkl, hnb, (by omega : ¬ (k = 2 ∧ (n < 0 ∨ 1001 ≤ n)))⟩
      refine wp_rs fun _ K49 => F.vl (x_fa0 fa24_0 rfl) fun a F => F.ld m3 flat3 rfl rfl fun a F => ?_
      refine s_end (K49 _ _ ?_)
      refine wp_block ?_
      refine wp_rs fun _ K50 => F.vl (eqlF (by omega) rfl rfl) fun a F => F.sg rfl fun a F => ?_
      refine s_end (K50 _ _ ?_)
      refine wp_if F rfl ?_
      refine wp_rs fun _ K51 => F.vl (eqlF (by omega) rfl rfl) fun a F => F.sg rfl fun a F => ?_
      refine s_end (K51 _ _ ?_)
      refine wp_if F rfl ?_
      refine wp_rs fun _ K52 => F.vl (eqlT (by omega) rfl rfl) fun a F => F.sg rfl fun a F => ?_
      refine s_end (K52 _ _ ?_)
      refine wp_if F rfl ?_
      refine wp_rs fun _ K53 => F.vl (x_fa0 fa24_1 rfl) fun a F => F.ld m3 flat3 rfl rfl fun a F => F.vl (lssF (by omega) rfl rfl) fun a F => F.mv rfl fun a F => s_grd 64 F rfl rfl rfl <| F.vl (x_fa0 fa24_1 rfl) fun a F => s_grd 64 F rfl rfl rfl <| F.ld m3 flat3 rfl rfl fun a F => s_grd 64 F rfl rfl rfl <| F.vl (gtrF (by omega) rfl rfl) fun a F => F.vl (x_pick (b := false) rfl rfl) fun a F => ?_
      refine s_end (K53 _ _ ?_)
      refine wp_if F rfl ?_
      refine wp_skip (K14 _ _ ?_)
      refine wp_seq_k fun _ K54 => ?_
      refine wp_rs fun _ K55 => F.vl (x_fa0 fa24_2 rfl) fun a F => F.ld m3 flat22 rfl rfl fun a F => F.vl (x_len Try.underlying22 rfl) fun a F => F.mv rfl fun a F => ?_
      refine s_end (K55 _ _ ?_)
      refine wp_block ?_
      have mg : Blk w14 g 3 [.int .i64 (1000 - ((r - 1 : Nat) : Int))] := by rw [show (1000 : Int) - ((r - 1 : Nat) : Int) = 1000 - (r : Int) + 1 by omega]; exact mg
      refine wp_up xs.length (fun i a w => ∃ ri : Nat, ri ≤ 1000 ∧ chks 256 1099511627776 1001 (d + 1) (r - 1) ls = chks 256 1099511627776 1001 (d + 1) ri (ls.drop i) ∧ Blk w g 3 [.int .i64 (1000 - (ri : Int))] ∧ Below w0.heap.size w0 w ∧ Ktw g g w1 w ∧ Fs 83 a [(72, .int .i64 (i : Int)), (71, .int .i64 (xs.length : Int)), (70, .slice av xs.length cv), (1, .int .i64 d), (2, .pointer (some ⟨g, 0, none⟩))]) ⟨r - 1, by omega, rfl, mg, hB, hK, F.sub _ rfl⟩ ?_
      clear F hB hK mg
      rintro i a w hi ⟨ri, hri, hck, mg, hB, hK, F⟩ K' hK'
      have sB := hB.size
      have hgl := mg.lt
      have sK := hK.size
      have hle := kids_le hkl
      refine wp_rs fun _ K56 => F.vl (x_lss rfl rfl rfl) fun a F => ?_
      refine s_end (K56 _ _ ?_)
      refine wp_seq_k fun _ K57 => ?_
      refine wp_iff F rfl (fun hc73 => ?_) (fun hc73 => ?_)
      · obtain ⟨b, off, c, y, hve, hy, hrow⟩ := rd_row3 hR (i := i) (by omega)
        cases hve
        obtain ⟨l, hlk⟩ : ∃ l, ls[i]? = some l := ⟨_, List.getElem?_eq_getElem (by omega)⟩
        have ihy := ih i y l hy hlk
        have h1y := (hk i y l hy hlk).one1
        rw [drop_at hlk] at hck
        refine wp_skip (K57 _ _ ?_)
        refine wp_seq_k fun _ K58 => ?_
        refine wp_block ?_
        refine wp_rs fun _ K59 => F.vl (x_ixa rfl rfl (m_ixsK i Try.underlying22 el22.size rfl (by omega))) fun a F => F.vl (x_ldA wide24 (hrow _ hB) rfl rfl) fun a F => ?_
        refine s_alloc F (by decide) zero24 fun w16 b8 a eb8 m8 B17 zb8 F => ?_
        have sB17 := B17.size
        have hB := bt hB B17
        have hK := hK.below B17
        have mg := mg.old B17
        refine s_putW F rfl rfl (size_wide wide24) m8 rfl (one_lc h1y) fun w18 m8 o19 => ?_
        have so19 := o19.size
        have hB := hB.trans (o19.below (by omega))
        have hK := hK.only o19 (by omega)
        have mg := mg.only o19 (by omega)
        refine s_end (K59 _ _ ?_)
        refine wp_rs fun _ K60 => F.vl (x_ldW wide24 m8 rfl rfl) fun a F => F.mv rfl fun a F => F.vl (x_add (by omega) (by omega) rfl rfl) fun a F => F.mv rfl fun a F => ?_
        refine s_call (R := fun u w' => (u = .bool (decide ((chk 256 1099511627776 1001 (d + 1) ri l).1 = 0)) ∧ ((chk 256 1099511627776 1001 (d + 1) ri l).1 = 0 → Blk w' g 3 [.int .i64 (1000 - ((chk 256 1099511627776 1001 (d + 1) ri l).2 : Int))])) ∧ Ktw g g w18 w') F [_, _, _] E87 rfl (by decide) (ihy (d + 1) ri w18 (by omega) (by omega) hri hB mg) ?_
        rintro _ w20 a ⟨⟨rfl, hmg⟩, k21⟩ F
        have sk21 := k21.size
        have hB := k21.under hB (by omega)
        have hK := hK.trans k21 (by omega)
        refine F.vl (x_not rfl) fun a F => ?_
        refine s_end (K60 _ _ ?_)
        refine wp_ifb F rfl (fun hc81 => ?_) (fun hc81 => ?_)
        · have hc0 : ¬ (chk 256 1099511627776 1001 (d + 1) ri l).1 = 0 := by simpa using hc81
          refine wp_rs fun _ K61 => F.sg rfl fun a F => ?_
          refine s_end (K61 _ _ ?_)
          refine wp_ret (inb_ret (then_ret (then_ret (inb_ret (then_ret (res_slot F rfl rfl ⟨_, rfl, ⟨bool_of (decide_eq_false (by rw [chk_in hnd, hck, chks_out hc0]; exact hc0)).symm, fun h => absurd (by rw [chk_in hnd, hck, chks_out hc0] at h; exact h) hc0⟩, hK⟩))))))
        · have hc0 : (chk 256 1099511627776 1001 (d + 1) ri l).1 = 0 := by simpa using hc81
          have mg := hmg hc0
          refine wp_skip (K58 _ _ ?_)
          refine wp_region_lit ?_
          refine F.vl (x_addn (i + 1) (by omega) (by omega) rfl rfl) fun a F => F.mv rfl fun a F => ?_
          refine s_end (hK' _ _ (by omega) ⟨(chk 256 1099511627776 1001 (d + 1) ri l).2, Nat.le_trans (chk_le _ _ _ _ _ _) hri, by rw [hck, chks_in hc0], mg, hB, hK, F.sub _ rfl⟩)
      · refine wp_exit (K54 _ _ ?_)
        refine wp_rs fun _ K62 => F.sg rfl fun a F => ?_
        refine s_end (K62 _ _ ?_)
        have hnil : ls.drop i = [] := List.drop_of_length_le (by omega)
        rw [hnil] at hck
        refine wp_ret (res_slot F rfl rfl ⟨_, rfl, ⟨bool_of (decide_eq_true (by rw [chk_in hnd, hck]; rfl)).symm, fun _ => by rw [chk_in hnd, hck]; exact mg⟩, hK⟩)
    · have hnb : numB 1099511627776 k n = true := numB_iff.2 (by omega)
      have hnd := nodeE_iff.2 ⟨(by omega : d ≤ 256), (by omega : r ≠ 0), hkl, hnb, (by omega : ¬ (k = 2 ∧ (n < 0 ∨ 1001 ≤ n)))⟩
      refine wp_rs fun _ K63 => F.vl (x_fa0 fa24_0 rfl) fun a F => F.ld m3 flat3 rfl rfl fun a F => ?_
      refine s_end (K63 _ _ ?_)
      refine wp_block ?_
      refine wp_rs fun _ K64 => F.vl (eqlF (by omega) rfl rfl) fun a F => F.sg rfl fun a F => ?_
      refine s_end (K64 _ _ ?_)
      refine wp_if F rfl ?_
      refine wp_rs fun _ K65 => F.vl (eqlF (by omega) rfl rfl) fun a F => F.sg rfl fun a F => ?_
      refine s_end (K65 _ _ ?_)
      refine wp_if F rfl ?_
      refine wp_rs fun _ K66 => F.vl (eqlF (by omega) rfl rfl) fun a F => F.sg rfl fun a F => ?_
      refine s_end (K66 _ _ ?_)
      refine wp_if F rfl ?_
      refine wp_skip (K14 _ _ ?_)
      refine wp_seq_k fun _ K67 => ?_
      refine wp_rs fun _ K68 => F.vl (x_fa0 fa24_2 rfl) fun a F => F.ld m3 flat22 rfl rfl fun a F => F.vl (x_len Try.underlying22 rfl) fun a F => F.mv rfl fun a F => ?_
      refine s_end (K68 _ _ ?_)
      refine wp_block ?_
      have mg : Blk w14 g 3 [.int .i64 (1000 - ((r - 1 : Nat) : Int))] := by rw [show (1000 : Int) - ((r - 1 : Nat) : Int) = 1000 - (r : Int) + 1 by omega]; exact mg
      refine wp_up xs.length (fun i a w => ∃ ri : Nat, ri ≤ 1000 ∧ chks 256 1099511627776 1001 (d + 1) (r - 1) ls = chks 256 1099511627776 1001 (d + 1) ri (ls.drop i) ∧ Blk w g 3 [.int .i64 (1000 - (ri : Int))] ∧ Below w0.heap.size w0 w ∧ Ktw g g w1 w ∧ Fs 83 a [(72, .int .i64 (i : Int)), (71, .int .i64 (xs.length : Int)), (70, .slice av xs.length cv), (1, .int .i64 d), (2, .pointer (some ⟨g, 0, none⟩))]) ⟨r - 1, by omega, rfl, mg, hB, hK, F.sub _ rfl⟩ ?_
      clear F hB hK mg
      rintro i a w hi ⟨ri, hri, hck, mg, hB, hK, F⟩ K' hK'
      have sB := hB.size
      have hgl := mg.lt
      have sK := hK.size
      have hle := kids_le hkl
      refine wp_rs fun _ K69 => F.vl (x_lss rfl rfl rfl) fun a F => ?_
      refine s_end (K69 _ _ ?_)
      refine wp_seq_k fun _ K70 => ?_
      refine wp_iff F rfl (fun hc73 => ?_) (fun hc73 => ?_)
      · obtain ⟨b, off, c, y, hve, hy, hrow⟩ := rd_row3 hR (i := i) (by omega)
        cases hve
        obtain ⟨l, hlk⟩ : ∃ l, ls[i]? = some l := ⟨_, List.getElem?_eq_getElem (by omega)⟩
        have ihy := ih i y l hy hlk
        have h1y := (hk i y l hy hlk).one1
        rw [drop_at hlk] at hck
        refine wp_skip (K70 _ _ ?_)
        refine wp_seq_k fun _ K71 => ?_
        refine wp_block ?_
        refine wp_rs fun _ K72 => F.vl (x_ixa rfl rfl (m_ixsK i Try.underlying22 el22.size rfl (by omega))) fun a F => F.vl (x_ldA wide24 (hrow _ hB) rfl rfl) fun a F => ?_
        refine s_alloc F (by decide) zero24 fun w22 b8 a eb8 m8 B23 zb8 F => ?_
        have sB23 := B23.size
        have hB := bt hB B23
        have hK := hK.below B23
        have mg := mg.old B23
        refine s_putW F rfl rfl (size_wide wide24) m8 rfl (one_lc h1y) fun w24 m8 o25 => ?_
        have so25 := o25.size
        have hB := hB.trans (o25.below (by omega))
        have hK := hK.only o25 (by omega)
        have mg := mg.only o25 (by omega)
        refine s_end (K72 _ _ ?_)
        refine wp_rs fun _ K73 => F.vl (x_ldW wide24 m8 rfl rfl) fun a F => F.mv rfl fun a F => F.vl (x_add (by omega) (by omega) rfl rfl) fun a F => F.mv rfl fun a F => ?_
        refine s_call (R := fun u w' => (u = .bool (decide ((chk 256 1099511627776 1001 (d + 1) ri l).1 = 0)) ∧ ((chk 256 1099511627776 1001 (d + 1) ri l).1 = 0 → Blk w' g 3 [.int .i64 (1000 - ((chk 256 1099511627776 1001 (d + 1) ri l).2 : Int))])) ∧ Ktw g g w24 w') F [_, _, _] E87 rfl (by decide) (ihy (d + 1) ri w24 (by omega) (by omega) hri hB mg) ?_
        rintro _ w26 a ⟨⟨rfl, hmg⟩, k27⟩ F
        have sk27 := k27.size
        have hB := k27.under hB (by omega)
        have hK := hK.trans k27 (by omega)
        refine F.vl (x_not rfl) fun a F => ?_
        refine s_end (K73 _ _ ?_)
        refine wp_ifb F rfl (fun hc81 => ?_) (fun hc81 => ?_)
        · have hc0 : ¬ (chk 256 1099511627776 1001 (d + 1) ri l).1 = 0 := by simpa using hc81
          refine wp_rs fun _ K74 => F.sg rfl fun a F => ?_
          refine s_end (K74 _ _ ?_)
          refine wp_ret (inb_ret (then_ret (then_ret (inb_ret (then_ret (res_slot F rfl rfl ⟨_, rfl, ⟨bool_of (decide_eq_false (by rw [chk_in hnd, hck, chks_out hc0]; exact hc0)).symm, fun h => absurd (by rw [chk_in hnd, hck, chks_out hc0] at h; exact h) hc0⟩, hK⟩))))))
        · have hc0 : (chk 256 1099511627776 1001 (d + 1) ri l).1 = 0 := by simpa using hc81
          have mg := hmg hc0
          refine wp_skip (K71 _ _ ?_)
          refine wp_region_lit ?_
          refine F.vl (x_addn (i + 1) (by omega) (by omega) rfl rfl) fun a F => F.mv rfl fun a F => ?_
          refine s_end (hK' _ _ (by omega) ⟨(chk 256 1099511627776 1001 (d + 1) ri l).2, Nat.le_trans (chk_le _ _ _ _ _ _) hri, by rw [hck, chks_in hc0], mg, hB, hK, F.sub _ rfl⟩)
      · refine wp_exit (K67 _ _ ?_)
        refine wp_rs fun _ K75 => F.sg rfl fun a F => ?_
        refine s_end (K75 _ _ ?_)
        have hnil : ls.drop i = [] := List.drop_of_length_le (by omega)
        rw [hnil] at hck
        refine wp_ret (res_slot F rfl rfl ⟨_, rfl, ⟨bool_of (decide_eq_true (by rw [chk_in hnd, hck]; rfl)).symm, fun _ => by rw [chk_in hnd, hck]; exact mg⟩, hK⟩)
theorem rSound17 (x : C3) (l : Lv) (w0 : World) (hL : RL w0 x l) : Calls Try.prog 43 #[lv x] w0 fun e w' => e = .returned (.bool (decide (sndL l))) ∧ Below w0.heap.size w0 w' := by
 have hB := Below.refl w0.heap.size w0
 have sB := hB.size
 refine calls_fs 6 [(0, lv x)] Try.func43 rfl rfl rfl rfl rfl fun a F => ?_
 refine wp_rs fun _ K1 => ?_
 refine s_box (lc x) F (by decide) rfl rfl fun w2 b1 a eb1 m1 B3 zb1 F => ?_
 have sB3 := B3.size
 have hB := bt hB B3
 refine F.sg rfl fun a F => ?_
 refine s_end (K1 _ _ ?_)
 refine wp_rs fun _ K2 => ?_
 refine s_alloc1 F (by decide) zero3 rfl fun w4 b3 a eb3 m3 B5 zb3 F => ?_
 have sB5 := B5.size
 have hB := bt hB B5
 have m1 := m1.old B5
 refine s_put F rfl rfl flat3 m3 (by simp) rfl fun w6 m3 o7 => ?_
 have so7 := o7.size
 have hB := hB.trans (o7.below (by omega))
 have m1 := m1.only o7 (by omega)
 refine s_end (K2 _ _ ?_)
 refine wp_rs fun _ K3 => F.vl (x_ldW wide24 m1 rfl rfl) fun a F => ?_
 refine s_call (R := fun u w' => (u = .bool (decide ((chk 256 1099511627776 1001 1 1000 l).1 = 0)) ∧ ((chk 256 1099511627776 1001 1 1000 l).1 = 0 → Blk w' b3 3 [.int .i64 (1000 - ((chk 256 1099511627776 1001 1 1000 l).2 : Int))])) ∧ Ktw b3 b3 w6 w') F [_, _, _] E87 rfl (by decide) (rsound39 w0 b3 (by omega) x l hL 1 1000 w6 (by decide) (by decide) (by decide) hB m3) ?_
 rintro _ w8 a ⟨⟨rfl, _⟩, k9⟩ F
 have sk9 := k9.size
 have hB := k9.under hB (by omega)
 refine F.sg rfl fun a F => ?_
 refine s_end (K3 _ _ ?_)
 refine wp_ret (res_slot F rfl rfl ⟨rfl, hB⟩)
/-- Its numbers are small. -/
def SL.lit : SL → Prop
 | .num n => n ≤ 1048576
 | .var _ => True
 | .succ n a => n ≤ 1048576 ∧ a.lit
 | .mx a b => a.lit ∧ b.lit
theorem RS.one1 {W : World} {s : SL} {x : C3} (h : RS W s x) : x.2.2.oneCell' = true := by
 obtain ⟨_, _, h⟩ := h.slice
 exact h.one
/-- A level of the four kinds: its kids as a list. -/
def SL.kids : SL → List SL
 | .num _ => []
 | .var _ => []
 | .succ _ a => [a]
 | .mx a b => [a, b]
theorem RS.kids {W : World} : ∀ {s : SL} {x : C3}, RS W s x → ∃ xs : List C3, Rd W x.2.2 3 xs.length (xs.flatMap lc) ∧ xs.length = s.kids.length ∧ ∀ (i : Nat) y t, xs[i]? = some y → s.kids[i]? = some t → RS W t y
 | .num _, x, h => ⟨[], by simpa using h.2.2, rfl, fun i y t h1 => by simp at h1⟩
 | .var _, x, h => ⟨[], by simpa using h.2.2, rfl, fun i y t h1 => by simp at h1⟩
 | .succ _ a, x, ⟨_, _, y, h1, h2⟩ => ⟨[y], by simpa using h1, rfl, fun i z t e1 e2 => by
  rcases i with _ | i
  ·
   simp [SL.kids] at e1 e2; subst e1 e2; exact h2
  ·
   simp at e1⟩
 | .mx a b, x, ⟨_, y, z, h1, h2, h3⟩ => ⟨[y, z], by simpa using h1, rfl, fun i u t e1 e2 => by
  rcases i with _ | _ | i
  ·
   simp [SL.kids] at e1 e2; subst e1 e2; exact h2
  ·
   simp [SL.kids] at e1 e2; subst e1 e2; exact h3
  ·
   simp at e1⟩
theorem SL.kids_le (s : SL) : s.kids.length ≤ 2 := by cases s <;> simp [SL.kids]
theorem SL.kids_size {s t : SL} {i : Nat} (h : s.kids[i]? = some t) : t.size < s.size := by
 have := List.mem_of_getElem? h
 cases s <;> simp [SL.kids] at this <;> simp only [SL.size]
 ·
  subst this; omega
 ·
  rcases this with rfl | rfl <;> omega
end Go.Proofs.Ytmkjhdiepkpdoaa

namespace Go.Proofs.Ytmkjhdiepkpdoaa
open Go.RowKit Go.Shelf
set_option linter.unusedVariables false
set_option linter.unusedSimpArgs false
def rho (vs : List Int) (i : Nat) : Int := max 0 (min (vs.getD i 0) 1099511627776)
def val : SL → (Nat → Int) → Int
 | .num n, _ => n
 | .var i, ρ => ρ i
 | .succ n a, ρ => cut (n + val a ρ)
 | .mx a b, ρ => max (val a ρ) (val b ρ)
end Go.Proofs.Ytmkjhdiepkpdoaa

namespace Go.Proofs.Ytmkjhdiepkpdoaa
open Go.RowKit Go.Shelf
set_option linter.unusedVariables false
set_option linter.unusedSimpArgs false
/-- A form (of type t) that lies in block g; its slice v lies in block o, if it has one. -/
structure FA (t base : Nat) (w : World) (g o : Nat) (v : Value) (c : Int) (ks : List Int) : Prop where
 blk : Blk w g t [.int .i64 c, v]
 own : w.ownsRow base 3 1 v ks.length (ints ks)
 at' : ∀ j, v.ownBlock = some j → j = o
 ne : v.ownBlock ≠ some g
 lo : base ≤ o ∧ base ≤ g ∧ o < w.heap.size
section
variable {t base : Nat} {w w' : World} {g o : Nat} {v : Value} {c : Int} {ks : List Int}
theorem FA.below (h : FA t base w g o v c ks) (hB : Below w.heap.size w w') : FA t base w' g o v c ks := ⟨h.blk.old hB, own_below h.own hB, h.at', h.ne, by have := h.lo; have := hB.size; omega⟩
theorem FA.only {k : Nat} (h : FA t base w g o v c ks) (hO : Only k w w') (hk : k ≠ g ∧ k ≠ o) : FA t base w' g o v c ks := ⟨h.blk.only hO (by omega), own_only h.own hO (fun e => by have := h.at' _ e; omega), h.at', h.ne, by have := h.lo; have := hO.size; omega⟩
theorem FA.k2 {a b : Nat} (h : FA t base w g o v c ks) (hK : Ktw a b w w') (hk : g ≠ a ∧ g ≠ b ∧ o ≠ a ∧ o ≠ b) : FA t base w' g o v c ks := ⟨h.blk.k2 hK (by omega), own_k2 h.own hK (fun c hc => by have := h.at' c hc; omega), h.at', h.ne, by have := h.lo; have := hK.size; omega⟩
theorem FA.form (h : FA t base w g o v c ks) : ∃ a cp, v = .slice a ks.length cp ∧ ks.length ≤ cp := by
 obtain ⟨a, cp, h1, h2, _⟩ := (Rd.own h.own).form
 exact ⟨a, cp, h1, h2⟩
theorem FA.lt (h : FA t base w g o v c ks) : g < w.heap.size := h.blk.lt
theorem FA.start (hB : Blk w g t [.int .i64 c, .slice none 0 0]) (hb : base ≤ g) : FA t base w g g (.slice none 0 0) c [] :=
 ⟨hB, World.ownsRow_nil _ _ _ _, (fun j h => by cases h), (fun h => by cases h), ⟨hb, hb, hB.lt⟩⟩
end
end Go.Proofs.Ytmkjhdiepkpdoaa

namespace Go.Proofs.Ytmkjhdiepkpdoaa
open Go.RowKit Go.Shelf
set_option linter.unusedVariables false
set_option linter.unusedSimpArgs false
end Go.Proofs.Ytmkjhdiepkpdoaa

namespace Go.Proofs.Ytmkjhdiepkpdoaa
open Go.RowKit Go.Shelf
set_option linter.unusedVariables false
set_option linter.unusedSimpArgs false
/-- x reads as s, and its memory lies in blocks of A alone. -/
def RSn (W : World) (A : Nat → Prop) : SL → C3 → Prop
 | .num n, x => x.1 = 1 ∧ x.2.1 = (n : Int) ∧ Rd W x.2.2 3 0 []
 | .var i, x => x.1 = 2 ∧ x.2.1 = (i : Int) ∧ Rd W x.2.2 3 0 []
 | .succ n a, x => x.1 = 3 ∧ x.2.1 = (n : Int) ∧ ∃ y, Rd W x.2.2 3 1 (lc y) ∧ (∀ j, x.2.2.ownBlock = some j → A j) ∧ RSn W A a y
 | .mx a b, x => x.1 = 4 ∧ ∃ y z, Rd W x.2.2 3 2 (lc y ++ lc z) ∧ (∀ j, x.2.2.ownBlock = some j → A j) ∧ RSn W A a y ∧ RSn W A b z
section
variable {W W' : World} {A B : Nat → Prop}
theorem RSn.rs : ∀ {s : SL} {x : C3}, RSn W A s x → RS W s x
 | .num _, _, h => h
 | .var _, _, h => h
 | .succ _ _, _, ⟨h1, h2, y, h3, _, h5⟩ => ⟨h1, h2, y, h3, RSn.rs h5⟩
 | .mx _ _, _, ⟨h1, y, z, h3, _, h5, h6⟩ => ⟨h1, y, z, h3, RSn.rs h5, RSn.rs h6⟩
theorem RS.n : ∀ {s : SL} {x : C3}, RS W s x → RSn W (fun k => k < W.heap.size) s x
 | .num _, _, h => h
 | .var _, _, h => h
 | .succ _ _, _, ⟨h1, h2, y, h3, h5⟩ => ⟨h1, h2, y, h3, fun j hj => h3.lt (by decide) hj, RS.n h5⟩
 | .mx _ _, _, ⟨h1, y, z, h3, h5, h6⟩ => ⟨h1, y, z, h3, fun j hj => h3.lt (by decide) hj, RS.n h5, RS.n h6⟩
theorem RSn.mono (h : ∀ k, A k → B k) : ∀ {s : SL} {x : C3}, RSn W A s x → RSn W B s x
 | .num _, _, h => h
 | .var _, _, h => h
 | .succ _ _, _, ⟨h1, h2, y, h3, h4, h5⟩ => ⟨h1, h2, y, h3, fun j hj => h j (h4 j hj), RSn.mono h h5⟩
 | .mx _ _, _, ⟨h1, y, z, h3, h4, h5, h6⟩ => ⟨h1, y, z, h3, fun j hj => h j (h4 j hj), RSn.mono h h5, RSn.mono h h6⟩
theorem RSn.valid : ∀ {s : SL} {x : C3}, RSn W A s x → RSn W (fun k => A k ∧ k < W.heap.size) s x
 | .num _, _, h => h
 | .var _, _, h => h
 | .succ _ _, _, ⟨h1, h2, y, h3, h4, h5⟩ => ⟨h1, h2, y, h3, fun j hj => ⟨h4 j hj, h3.lt (by decide) hj⟩, RSn.valid h5⟩
 | .mx _ _, _, ⟨h1, y, z, h3, h4, h5, h6⟩ => ⟨h1, y, z, h3, fun j hj => ⟨h4 j hj, h3.lt (by decide) hj⟩, RSn.valid h5, RSn.valid h6⟩
theorem rd0_any {v : Value} {cs : List Value} (h : Rd W v 3 0 cs) : Rd W' v 3 0 cs := by
 refine ⟨h.1, ?_⟩
 obtain ⟨a, c, rfl, _, h0⟩ := h.form
 exact .inl ⟨a, c, rfl, rfl, h0⟩
theorem RSn.keep (hs : W.heap.size ≤ W'.heap.size) (hk : ∀ k, A k → k < W.heap.size → W'.heap[k]? = W.heap[k]?) : ∀ {s : SL} {x : C3}, RSn W A s x → RSn W' A s x
 | .num _, _, ⟨h1, h2, h3⟩ => ⟨h1, h2, rd0_any h3⟩
 | .var _, _, ⟨h1, h2, h3⟩ => ⟨h1, h2, rd0_any h3⟩
 | .succ _ _, _, ⟨h1, h2, y, h3, h4, h5⟩ => ⟨h1, h2, y, h3.keep hs (fun b hb hl => hk b (h4 b hb) hl), h4, RSn.keep hs hk h5⟩
 | .mx _ _, _, ⟨h1, y, z, h3, h4, h5, h6⟩ => ⟨h1, y, z, h3.keep hs (fun b hb hl => hk b (h4 b hb) hl), h4, RSn.keep hs hk h5, RSn.keep hs hk h6⟩
theorem RSn.below {s : SL} {x : C3} (h : RSn W A s x) (hB : Below W.heap.size W W') : RSn W' A s x := RSn.keep hB.size (fun k _ hk => hB.block k hk) h
theorem RSn.only {s : SL} {x : C3} {c : Nat} (h : RSn W A s x) (o : Only c W W') (hc : ∀ k, A k → k ≠ c) : RSn W' A s x := RSn.keep (Nat.le_of_eq o.size.symm) (fun k ha _ => o.block k (hc k ha)) h
theorem RSn.k2 {s : SL} {x : C3} {a b : Nat} (h : RSn W A s x) (hK : Ktw a b W W') (hc : ∀ k, A k → k ≠ a ∧ k ≠ b) : RSn W' A s x := RSn.keep hK.size (fun k ha hk => hK.block k hk (hc k ha)) h
end
/-- Rows of levels. -/
def PL (W : World) (A : Nat → Prop) (zs : List C3) (ps : List SL) : Prop := zs.length = ps.length ∧ ∀ (j : Nat) z p, zs[j]? = some z → ps[j]? = some p → RSn W A p z
section
variable {W W' : World} {A B : Nat → Prop} {zs : List C3} {ps : List SL}
theorem PL.nil : PL W A [] [] := ⟨rfl, fun j z p h => by simp at h⟩
theorem PL.mono (h : PL W A zs ps) (hm : ∀ k, A k → B k) : PL W B zs ps := ⟨h.1, fun j z p h1 h2 => (h.2 j z p h1 h2).mono hm⟩
theorem PL.valid (h : PL W A zs ps) : PL W (fun k => A k ∧ k < W.heap.size) zs ps := ⟨h.1, fun j z p h1 h2 => (h.2 j z p h1 h2).valid⟩
theorem PL.keep (h : PL W A zs ps) (hs : W.heap.size ≤ W'.heap.size) (hk : ∀ k, A k → k < W.heap.size → W'.heap[k]? = W.heap[k]?) : PL W' A zs ps := ⟨h.1, fun j z p h1 h2 => RSn.keep hs hk (h.2 j z p h1 h2)⟩
theorem PL.below (h : PL W A zs ps) (hB : Below W.heap.size W W') : PL W' A zs ps := h.keep hB.size fun k _ hk => hB.block k hk
theorem PL.only {c : Nat} (h : PL W A zs ps) (o : Only c W W') (hc : ∀ k, A k → k ≠ c) : PL W' A zs ps := h.keep (Nat.le_of_eq o.size.symm) fun k ha _ => o.block k (hc k ha)
theorem PL.k2 {a b : Nat} (h : PL W A zs ps) (hK : Ktw a b W W') (hc : ∀ k, A k → k ≠ a ∧ k ≠ b) : PL W' A zs ps := h.keep hK.size fun k ha hk => hK.block k hk (hc k ha)
theorem PL.snoc {z : C3} {p : SL} (h : PL W A zs ps) (hz : RSn W A p z) : PL W A (zs ++ [z]) (ps ++ [p]) := by
 refine ⟨by simp [h.1], fun j z' p' h1 h2 => ?_⟩
 have hl := h.1
 rw [List.getElem?_append] at h1 h2
 by_cases hj : j < zs.length
 ·
  rw [if_pos hj] at h1
  rw [if_pos (by omega)] at h2
  exact h.2 j z' p' h1 h2
 ·
  rw [if_neg hj] at h1
  rw [if_neg (by omega)] at h2
  have e : j - zs.length = 0 := by
   have := (List.getElem?_eq_some_iff.1 h1).1
   simp at this
   omega
  rw [e] at h1
  rw [← hl, e] at h2
  simp at h1 h2
  subst h1 h2
  exact hz
theorem PL.at {j : Nat} {z : C3} (h : PL W A zs ps) (hz : zs[j]? = some z) : ∃ p, ps[j]? = some p ∧ RSn W A p z := by
 have hj := (List.getElem?_eq_some_iff.1 hz).1
 have hl := h.1
 exact ⟨ps[j]'(by omega), List.getElem?_eq_getElem (by omega), h.2 j z _ hz (List.getElem?_eq_getElem (by omega))⟩
end
theorem fm3_app (xs : List C3) (y : C3) : (xs ++ [y]).flatMap lc = xs.flatMap lc ++ lc y := by simp
/-! ### A form as a level -/
def part1 (i : Nat) (k : Int) : List SL := if k < 0 then [] else if k = 0 then [.var i] else [.succ k.toNat (.var i)]
def pts (c : Int) (ks : List Int) : Nat → List SL
 | 0 => if c ≠ 0 ∨ ks = [] then [.num c.toNat] else []
 | i + 1 => pts c ks i ++ part1 i (gt ks i)
def levF (c : Int) (ks : List Int) : SL := match pts c ks ks.length with
 | [] => .num 0
 | p :: ps => ps.foldl .mx p
end Go.Proofs.Ytmkjhdiepkpdoaa
