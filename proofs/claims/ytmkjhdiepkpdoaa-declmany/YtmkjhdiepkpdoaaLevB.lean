/- A walk of code with the frame known by its slots and memory by its blocks. No program is named here. -/
import Derived.WalkKit
import Derived.Below
import Derived.Shelf.Abstract
import Derived.Still
import Derived.StillTail
import Derived.Deep.Quiet
import Derived.KernelRfl
import Derived.Laws.CopyRow
import Derived.Laws.IdiomCopy
import Derived.Laws.BitsAllLaws
import Derived.Deep.LoopGhost
import Derived.Deep.RegionHeld
import Derived.Laws.MakeOwn
import Derived.Laws.BytesArg
import Derived.Laws.IdiomStrings
import Derived.Laws.StructEq
import Derived.Great.BuildSlice
import Derived.Laws.AppendOwn
import Derived.Laws.AppendOwnNone
import Derived.Great.FillDense
import Derived.RangeFuncNested
import Derived.RangeFuncBound
import Derived.RangeFuncCalls
import Derived.RangeFuncLeaves
import Derived.TacticsInMore
import Derived.Lib.ConvBytes
import Derived.Test.YtmkjhdiepkpdoaaRows
namespace Go.Proofs.Ytmkjhdiepkpdoaa
open Go.RowKit Go.Shelf
set_option linter.unusedVariables false
set_option linter.unusedSimpArgs false
/-- What a slot holds, by what is known (the newest first). -/
def lk : List (Nat × Value) → Nat → Option Value
 | [], _ => none
 | (d, v) :: l, t => bif Nat.beq d t then some v else lk l t
/-- The frame has n slots, defers ds, and holds what the list says. -/
structure Fs (n : Nat) (a : Act) (l : List (Nat × Value)) (ds : List Deferred := []) : Prop where
 size : a.tmps.size = n
 defers : a.defers = ds
 slot : ∀ t u, lk l t = some u → a.tmps[t]? = some u
def ov (l : List (Nat × Value)) : Operand → Option Value
 | .tmp t => lk l t
 | .const v => some v
 | .func f => some (.func (.func f) #[] #[])
 | .global g => some (.pointer (some ⟨g, 0, none⟩))
theorem Fs.ov {ds : List Deferred} {n : Nat} {a : Act} {l : List (Nat × Value)} (h : Fs n a l (ds := ds)) {x : Operand} {v : Value} (e : ov l x = some v) : a.eval x = v := by
 cases x with
 | tmp t =>
  have := h.slot t v e
  simp [Act.eval, this]
 | const u => simpa [Ytmkjhdiepkpdoaa.ov, Act.eval] using e
 | global g => simpa [Ytmkjhdiepkpdoaa.ov, Act.eval] using e
 | func f => simpa [Ytmkjhdiepkpdoaa.ov, Act.eval] using e
theorem Fs.put {ds : List Deferred} {n : Nat} {a : Act} {l : List (Nat × Value)} (h : Fs n a l (ds := ds)) (d : Nat) (hd : d < n) (v : Value) : Fs n (a.put (some d) v) ((d, v) :: l) (ds := ds) := by
 refine ⟨by simp [Act.put, h.size], h.defers, fun t u e => ?_⟩
 simp only [lk] at e
 cases hb : Nat.beq d t with
 | true =>
  rw [hb] at e
  cases e
  have := Nat.eq_of_beq_eq_true hb
  subst this
  simp [Act.put, h.size, hd]
 | false =>
  rw [hb] at e
  have hne : d ≠ t := Nat.ne_of_beq_eq_false hb
  simp only [Act.put]
  rw [Array.getElem?_setIfInBounds_ne hne]
  exact h.slot t u e
/-- Fewer slots known. -/
theorem Fs.sub {ds : List Deferred} {n : Nat} {a : Act} {l : List (Nat × Value)} (h : Fs n a l (ds := ds)) (L : List (Nat × Value)) (e : L.map (fun p => lk l p.1) = L.map (fun p => some p.2)) : Fs n a L (ds := ds) := by
 refine ⟨h.size, h.defers, fun t u ht => h.slot t u ?_⟩
 induction L with
 | nil => cases ht
 | cons p L ih =>
  obtain ⟨d, v⟩ := p
  simp only [List.map_cons, List.cons.injEq] at e
  simp only [lk] at ht
  cases hb : Nat.beq d t with
  | true =>
   rw [hb] at ht
   cases ht
   have := Nat.eq_of_beq_eq_true hb
   subst this
   exact e.1
  | false =>
   rw [hb] at ht
   exact ih e.2 ht
theorem lk_args : ∀ (vs : List Value) (k t : Nat) (u : Value), lk (vs.zipIdx k |>.map fun p => (p.2, p.1)) t = some u → ∃ j, t = k + j ∧ vs[j]? = some u
 | [], _, _, _, h => by cases h
 | v :: vs, k, t, u, h => by
  simp only [List.zipIdx_cons, List.map_cons, lk] at h
  cases hb : Nat.beq k t with
  | true =>
   rw [hb] at h
   cases h
   exact ⟨0, by have := Nat.eq_of_beq_eq_true hb; omega, rfl⟩
  | false =>
   rw [hb] at h
   obtain ⟨j, h1, h2⟩ := lk_args vs (k + 1) t u h
   exact ⟨j + 1, by omega, by simpa using h2⟩
/-- A function's frame as it begins. -/
theorem Fs.start (vs : List Value) (m : Nat) : Fs (vs.length + m) { tmps := vs.toArray ++ Array.replicate m undef, defers := [] } (vs.zipIdx 0 |>.map fun p => (p.2, p.1)) := by
 refine ⟨by simp, rfl, fun t u h => ?_⟩
 obtain ⟨j, h1, h2⟩ := lk_args vs 0 t u h
 have : t = j := by omega
 subst this
 have hlt : t < vs.length := by
  rcases Nat.lt_or_ge t vs.length with h | h
  ·
   exact h
  ·
   rw [List.getElem?_eq_none h] at h2; cases h2
 simp only [Array.getElem?_append, List.size_toArray, hlt, if_true]
 simpa using h2
/-- A call, out of its body's walk. -/
theorem calls_fs {P : Program} {f : FuncId} {fn : Func} {c : Code} {w : World} {R : Ending → World → Prop} (n : Nat) (L : List (Nat × Value)) {vs : List Value}
    (hf : P.funcs[f]? = some fn) (hb : fn.body = some c) (hn : fn.ntmps = n) (hl : L.map (·.2) = vs) (hi : L.map (·.1) = List.range L.length) (hm : Nat.ble L.length n = true)
    (h : ∀ a, Fs n a L → c.wp P (bodyPost P fn R) a w) : Calls P f vs.toArray w R := by
  refine calls_of_wp hf hb (h _ ?_)
  have hlen : vs.length = L.length := by rw [← hl]; simp
  have hm := Nat.le_of_ble_eq_true hm
  have hL : (vs.zipIdx 0 |>.map fun p => (p.2, p.1)) = L := by
    rw [← hl]
    apply List.ext_getElem?
    intro j
    simp only [List.getElem?_map, List.getElem?_zipIdx, Option.map_map]
    have := congrArg (·[j]?) hi
    simp only [List.getElem?_map] at this
    cases hj : L[j]? with
    | none => simp
    | some p =>
      have hlt : j < L.length := by
        rcases Nat.lt_or_ge j L.length with h | h
        · exact h
        · rw [List.getElem?_eq_none h] at hj; cases hj
      rw [hj, List.getElem?_range hlt] at this
      simp at this
      simp [← this]
  rw [hn]
  have := Fs.start vs (n - vs.length)
  rw [hL, show vs.length + (n - vs.length) = n by omega] at this
  simpa using this
/-! ### Operations that leave the world alone -/
def Runs (P : Program) (n : Nat) (l : List (Nat × Value)) (w : World) (op : Op) (v : Value) : Prop :=
 ∀ (ds : List Deferred) a, Fs n a l (ds := ds) → ∀ o : Oper, o.op = op → (execOp a.eval o).run P w = .ok (.value v) w
section
variable {P : Program} {n : Nat} {l : List (Nat × Value)} {w : World}
theorem x_move {x : Operand} {v : Value} (hx : ov l x = some v) : Runs P n l w (.move x) v := fun ds a hF o ho => by simp [execOp, ho, hF.ov hx]
theorem x_assign {x : Operand} {v : Value} (hx : ov l x = some v) : Runs P n l w (.assign x) v := fun ds a hF o ho => by simp [execOp, ho, hF.ov hx]
theorem x_pick {c x y : Operand} {b : Bool} {v : Value} (hc : ov l c = some (.bool b)) (hx : ov l (bif b then x else y) = some v) : Runs P n l w (.pick c x y) v := fun ds a hF o ho => by
 have := hF.ov hx
 cases b <;> simp at this <;> simp [execOp, ho, hF.ov hc, asBool, this]
/-- What a comparison or arithmetic gives. -/
def Bin (P : Program) (bop : BinOp) (t : TypeId) (x y : Operand) (u1 u2 v : Value) : Prop := ∀ W, (eqGuard bop t x y u1 u2).run P W = .ok () W ∧ (binOp bop t u1 u2).run P W = .ok v W
theorem x_bin {bop : BinOp} {t t' : TypeId} {x y : Operand} {u1 u2 v : Value} (hx : ov l x = some u1) (hy : ov l y = some u2) (hr : Bin P bop t x y u1 u2 v) : Runs P n l w (.binOp bop t x y t') v :=
 fun ds a hF o ho => by simp [execOp, ho, hF.ov hx, hF.ov hy, (hr w).1, (hr w).2]
theorem b_int {bop : BinOp} {t : TypeId} {x y : Operand} {k : IntKind} {p q : Int} {v : Value} (hr : ∀ W, (binOp bop t (.int k p) (.int k q)).run P W = .ok v W) : Bin P bop t x y (.int k p) (.int k q) v :=
 fun W => ⟨by cases bop <;> simp [eqGuard], hr W⟩
theorem b_sh {bop : BinOp} {t : TypeId} {x y : Operand} {k k' : IntKind} {p q : Int} {v : Value} (hr : ∀ W, (binOp bop t (.int k p) (.int k' q)).run P W = .ok v W) : Bin P bop t x y (.int k p) (.int k' q) v :=
 fun W => ⟨by cases bop <;> simp [eqGuard], hr W⟩
theorem x_lss {t t' : TypeId} {x y : Operand} {k : IntKind} {p q : Int} {b : Bool} (hb : decide (p < q) = b) (hx : ov l x = some (.int k p)) (hy : ov l y = some (.int k q)) : Runs P n l w (.binOp .lss t x y t') (.bool b) :=
 x_bin hx hy (b_int fun W => by subst hb; simp [binOp, Op.intCmp])
theorem x_leq {t t' : TypeId} {x y : Operand} {k : IntKind} {p q : Int} {b : Bool} (hb : decide (p ≤ q) = b) (hx : ov l x = some (.int k p)) (hy : ov l y = some (.int k q)) : Runs P n l w (.binOp .leq t x y t') (.bool b) :=
 x_bin hx hy (b_int fun W => by subst hb; simp [binOp, Op.intCmp])
theorem x_gtr {t t' : TypeId} {x y : Operand} {k : IntKind} {p q : Int} {b : Bool} (hb : decide (q < p) = b) (hx : ov l x = some (.int k p)) (hy : ov l y = some (.int k q)) : Runs P n l w (.binOp .gtr t x y t') (.bool b) :=
 x_bin hx hy (b_int fun W => by subst hb; simp [binOp, Op.intCmp])
theorem x_geq {t t' : TypeId} {x y : Operand} {k : IntKind} {p q : Int} {b : Bool} (hb : decide (q ≤ p) = b) (hx : ov l x = some (.int k p)) (hy : ov l y = some (.int k q)) : Runs P n l w (.binOp .geq t x y t') (.bool b) :=
 x_bin hx hy (b_int fun W => by subst hb; simp [binOp, Op.intCmp])
theorem x_eql {t t' : TypeId} {x y : Operand} {k : IntKind} {p q : Int} {b : Bool} (hb : decide (p = q) = b) (hx : ov l x = some (.int k p)) (hy : ov l y = some (.int k q)) : Runs P n l w (.binOp .eql t x y t') (.bool b) :=
 x_bin hx hy (b_int fun W => by subst hb; simp [binOp, Op.intCmp]; rw [Bool.eq_iff_iff]; simp)
theorem x_neq {t t' : TypeId} {x y : Operand} {k : IntKind} {p q : Int} {b : Bool} (hb : decide (p ≠ q) = b) (hx : ov l x = some (.int k p)) (hy : ov l y = some (.int k q)) : Runs P n l w (.binOp .neq t x y t') (.bool b) :=
 x_bin hx hy (b_int fun W => by subst hb; simp [binOp, Op.intCmp]; rw [Bool.eq_iff_iff]; simp)
theorem wrap_i64 {z : Int} (h1 : -9223372036854775808 ≤ z) (h2 : z < 9223372036854775808) : IntKind.i64.wrap z = z := by
 simp [IntKind.wrap, IntKind.bits, IntKind.signed]
 split <;> omega
/-- int and int64, where nothing is too great. -/
theorem x_add {t t' : TypeId} {x y : Operand} {p q : Int} (h1 : -9223372036854775808 ≤ p + q) (h2 : p + q < 9223372036854775808) (hx : ov l x = some (.int .i64 p)) (hy : ov l y = some (.int .i64 q)) : Runs P n l w (.binOp .add t x y t') (.int .i64 (p + q)) :=
 x_bin hx hy (b_int fun W => by simp [binOp, Op.intArith, wrap_i64 h1 h2])
theorem x_sub {t t' : TypeId} {x y : Operand} {p q : Int} (h1 : -9223372036854775808 ≤ p - q) (h2 : p - q < 9223372036854775808) (hx : ov l x = some (.int .i64 p)) (hy : ov l y = some (.int .i64 q)) : Runs P n l w (.binOp .sub t x y t') (.int .i64 (p - q)) :=
 x_bin hx hy (b_int fun W => by simp [binOp, Op.intArith, wrap_i64 h1 h2])
/-- The same, told as a natural number r. -/
theorem x_addn {t t' : TypeId} {x y : Operand} {p q : Int} (r : Nat) (h1 : p + q = (r : Int)) (h2 : r < 9223372036854775808) (hx : ov l x = some (.int .i64 p)) (hy : ov l y = some (.int .i64 q)) : Runs P n l w (.binOp .add t x y t') (.int .i64 (r : Int)) := by
 have := x_add (P := P) (n := n) (w := w) (t := t) (t' := t') (by omega) (by omega) hx hy
 rwa [h1] at this
theorem x_subn {t t' : TypeId} {x y : Operand} {p q : Int} (r : Nat) (h1 : p - q = (r : Int)) (h2 : r < 9223372036854775808) (hx : ov l x = some (.int .i64 p)) (hy : ov l y = some (.int .i64 q)) : Runs P n l w (.binOp .sub t x y t') (.int .i64 (r : Int)) := by
 have := x_sub (P := P) (n := n) (w := w) (t := t) (t' := t') (by omega) (by omega) hx hy
 rwa [h1] at this
theorem x_conv {s d : TypeId} {x : Operand} {u v : Value} (hx : ov l x = some u) (hr : (convert s d u).run P w = .ok v w) : Runs P n l w (.convert s d x) v :=
 fun ds a hF o ho => by simp [execOp, ho, hF.ov hx, hr]
theorem x_un {uop : UnOp} {t : TypeId} {x : Operand} {u v : Value} (hx : ov l x = some u) (hr : (Op.unary uop u).run P w = .ok v w) : Runs P n l w (.unOp uop t x) v :=
 fun ds a hF o ho => by simp [execOp, ho, hF.ov hx, hr]
theorem x_nil {x : Operand} {ad : Addr} (hx : ov l x = some (.pointer (some ad))) : Runs P n l w (.nilCheck x) (.pointer (some ad)) :=
 fun ds a hF o ho => by simp [execOp, ho, hF.ov hx]
theorem x_load {t : TypeId} {x : Operand} {u v : Value} (hx : ov l x = some u) (hr : (Instr.loadAt t u).run P w = .ok v w) : Runs P n l w (.load t x) v :=
 fun ds a hF o ho => by simp [execOp, ho, hF.ov hx, hr]
theorem x_field {t : TypeId} {x : Operand} {f : Nat} {u v : Value} (hx : ov l x = some u) (hr : (Instr.fieldAt t u f).run P w = .ok v w) : Runs P n l w (.fieldAddr t x f) v :=
 fun ds a hF o ho => by simp [execOp, ho, hF.ov hx, hr]
theorem x_ixa {t : TypeId} {x y : Operand} {u1 u2 v : Value} (hx : ov l x = some u1) (hy : ov l y = some u2) (hr : (Instr.indexAt t u1 u2).run P w = .ok v w) : Runs P n l w (.indexAddr t x y) v :=
 fun ds a hF o ho => by simp [execOp, ho, hF.ov hx, hF.ov hy, hr]
theorem x_ix {t : TypeId} {x y : Operand} {u1 u2 v : Value} (hx : ov l x = some u1) (hy : ov l y = some u2) (hr : (Instr.index t u1 u2).run P w = .ok v w) : Runs P n l w (.index t x y) v :=
 fun ds a hF o ho => by simp [execOp, ho, hF.ov hx, hF.ov hy, hr]
theorem x_slice {t : TypeId} {x : Operand} {lo hi mx : Option Operand} {u v : Value} {vlo vhi vmx : Option Value} (hx : ov l x = some u) (hlo : lo.map (ov l) = vlo.map some) (hhi : hi.map (ov l) = vhi.map some) (hmx : mx.map (ov l) = vmx.map some) (hr : (Instr.sliceAt t u vlo vhi vmx).run P w = .ok v w) : Runs P n l w (.slice t x lo hi mx) v :=
 fun ds a hF o ho => by
  have key : ∀ {z : Option Operand} {vz : Option Value}, z.map (ov l) = vz.map some → z.map a.eval = vz := by
   intro z vz h
   cases z <;> cases vz <;> simp at h ⊢
   exact hF.ov h
  simp [execOp, ho, hF.ov hx, key hlo, key hhi, key hmx, hr]
theorem x_len {x : Operand} {ty : TypeId} {ad : Option Addr} {m c : Nat} {e : TypeId} (ht : P.underlying ty = some (.slice e)) (hx : ov l x = some (.slice ad m c)) : Runs P n l w (.call { callee := .builtin .len, args := #[x], argTypes := #[ty] }) (.int .i64 (m : Int)) :=
 fun ds a hF o ho => by
  simp [execOp, ho, resolve, invoke, builtin, hF.ov hx]
  go_simp
theorem ov_parts {ds : List Deferred} {a : Act} (hF : Fs n a l (ds := ds)) : ∀ (ys : List (Nat × Operand)) (vs : List (Nat × Value)), ys.map (fun p => (p.1, ov l p.2)) = vs.map (fun p => (p.1, some p.2)) → ys.map (fun p => (p.1, a.eval p.2)) = vs
 | [], [], _ => rfl
 | [], _ :: _, h => by simp at h
 | _ :: _, [], h => by simp at h
 | (i, y) :: ys, (j, v) :: vs, h => by
  simp only [List.map_cons, List.cons.injEq, Prod.mk.injEq] at h
  obtain ⟨⟨rfl, hy⟩, h⟩ := h
  simp only [List.map_cons, hF.ov hy, ov_parts hF ys vs h]
theorem ov_args {ds : List Deferred} {a : Act} (hF : Fs n a l (ds := ds)) : ∀ (ys : List Operand) (vs : List Value), ys.map (ov l) = vs.map some → ys.map a.eval = vs
 | [], [], _ => rfl
 | [], _ :: _, h => by simp at h
 | _ :: _, [], h => by simp at h
 | y :: ys, v :: vs, h => by
  simp only [List.map_cons, List.cons.injEq] at h
  simp only [List.map_cons, hF.ov h.1, ov_args hF ys vs h.2]
theorem x_build {t : TypeId} {parts : List (Nat × Operand)} {vs : List (Nat × Value)} {v : Value} (hx : parts.map (fun p => (p.1, ov l p.2)) = vs.map (fun p => (p.1, some p.2))) (hr : (Instr.build t vs.toArray).run P w = .ok v w) : Runs P n l w (.build t parts.toArray) v :=
 fun ds a hF o ho => by
  have hv : (parts.toArray.map fun (i, x) => (i, a.eval x)) = vs.toArray := by
   rw [← ov_parts hF parts vs hx]
   simp
  simp [execOp, ho, hv, hr]
end
/-! ### Steps -/
section
variable {P : Program} {n d : Nat} {l : List (Nat × Value)} {w : World} {a : Act} {ops : Array Oper} {Q : Exit → Act → World → Prop} {C : World → Prop} {K : Act → Prop} {rest : List Oper} {op : Op} {v : Value} {ty : TypeId} {pos : String} {af : Array Edge}
theorem wanted_none (o : Oper) (h : o.guard = none) (y) : Region.wanted o y = true := by simp [Region.wanted, h]
theorem s_val {ds : List Deferred} (hF : Fs n a l (ds := ds)) (hr : Runs P n l w op v) (hd : d < n) (h : ∀ a', Fs n a' ((d, v) :: l) (ds := ds) → wpList P ops Q rest a' w) : wpList P ops Q (⟨some d, op, ty, pos, af, none⟩ :: rest) a w := by
 unfold wpList
 rw [if_pos (wanted_none _ rfl _)]
 refine .inl ?_
 unfold Oper.wp
 rw [hr _ a hF _ rfl]
 exact h _ (hF.put d hd v)
/-- A call of a declared function: what it runs to. -/
theorem run_call {ds : List Deferred} (hF : Fs n a l (ds := ds)) {f : FuncId} {xs : List Operand} {ts : Array TypeId} {vals : List Value} (hent : Enters P f) (hargs : xs.map (ov l) = vals.map some) (o : Oper) (ho : o.op = .call { callee := .value (.func f), args := xs.toArray, argTypes := ts }) :
    (execOp a.eval o).run P w = .ok (.enter f vals.toArray) w := by
  have hv : xs.toArray.map a.eval = vals.toArray := by
    rw [← ov_args hF xs vals hargs]
    simp
  have := hent vals.toArray w
  simp [execOp, ho, resolve, Deferred.ofValue, invoke, Act.eval, hv, this]
theorem s_call {ds : List Deferred} (hF : Fs n a l (ds := ds)) {f : FuncId} {xs : List Operand} {ts : Array TypeId} (vals : List Value) {R : Value → World → Prop} (hent : Enters P f) (hargs : xs.map (ov l) = vals.map some) (hd : d < n)
    (hC : Calls P f vals.toArray w fun e w' => ∃ v, e = .returned v ∧ R v w')
    (h : ∀ v w' a', R v w' → Fs n a' ((d, v) :: l) (ds := ds) → wpList P ops Q rest a' w') : wpList P ops Q (⟨some d, .call { callee := .value (.func f), args := xs.toArray, argTypes := ts }, ty, pos, af, none⟩ :: rest) a w := by
  unfold wpList
  rw [if_pos (wanted_none _ rfl _)]
  refine .inl ?_
  unfold Oper.wp
  rw [run_call hF hent hargs _ rfl]
  refine Calls.mono hC ?_
  rintro e w' ⟨v, rfl, hR⟩
  exact h v w' _ hR (hF.put d hd v)
/-- Guards ('&&', '||'). -/
theorem wanted_some {ds : List Deferred} {o : Oper} {j : Nat} {want b : Bool} {dj : Nat} (hF : Fs n a l (ds := ds)) (hg : o.guard = some (j, want)) (hj : (ops[j]?).bind (·.dst) = some dj) (hb : lk l dj = some (.bool b)) : Region.wanted o (yielded ops a.tmps) = (b == want) := by
 have := hF.slot dj _ hb
 simp [Region.wanted, hg, yielded, hj, this]
/-- A step with a guard: it says yes. -/
theorem s_grd {ds : List Deferred} {o : Oper} {j : Nat} {want : Bool} (dj : Nat) (hF : Fs n a l (ds := ds)) (hg : o.guard = some (j, want)) (hj : (ops[j]?).bind (·.dst) = some dj) (hb : lk l dj = some (.bool want))
    (h : wpList P ops Q ({ o with guard := none } :: rest) a w) : wpList P ops Q (o :: rest) a w := by
  unfold wpList at h ⊢
  rw [if_pos (wanted_none _ rfl _)] at h
  rw [if_pos (by rw [wanted_some hF hg hj hb]; simp)]
  exact h
/-- It says no. -/
theorem s_grdn {ds : List Deferred} {j : Nat} {want : Bool} (dj : Nat) (hF : Fs n a l (ds := ds)) (hj : (ops[j]?).bind (·.dst) = some dj) (hb : lk l dj = some (.bool (!want))) (hd : d < n)
    (h : ∀ a', Fs n a' ((d, undef) :: l) (ds := ds) → wpList P ops Q rest a' w) : wpList P ops Q (⟨some d, op, ty, pos, af, some (j, want)⟩ :: rest) a w := by
  unfold wpList
  rw [if_neg (by rw [wanted_some hF rfl hj hb]; simp)]
  exact h _ (hF.put d hd _)
theorem s_end (h : Q .normal a w) : wpList P ops Q [] a w := h
/-- An operation that makes another world. -/
theorem s_new {ds : List Deferred} {w' : World} (hF : Fs n a l (ds := ds)) (hr : ∀ o : Oper, o.op = op → (execOp a.eval o).run P w = .ok (.value v) w') (hd : d < n) (h : ∀ a', Fs n a' ((d, v) :: l) (ds := ds) → wpList P ops Q rest a' w') : wpList P ops Q (⟨some d, op, ty, pos, af, none⟩ :: rest) a w := by
 unfold wpList
 rw [if_pos (wanted_none _ rfl _)]
 refine .inl ?_
 unfold Oper.wp
 rw [hr _ rfl]
 exact h _ (hF.put d hd v)
theorem s_sto {ds : List Deferred} {w' : World} {t : TypeId} {x y : Operand} {u1 u2 : Value} (hF : Fs n a l (ds := ds)) (hx : ov l x = some u1) (hy : ov l y = some u2) (hr : (Instr.storeAt t u1 u2).run P w = .ok () w') (h : wpList P ops Q rest a w') : wpList P ops Q (⟨none, .store t x y, ty, pos, af, none⟩ :: rest) a w := by
 unfold wpList
 rw [if_pos (wanted_none _ rfl _)]
 refine .inl ?_
 unfold Oper.wp
 rw [show (execOp a.eval ⟨none, .store t x y, ty, pos, af, none⟩).run P w = .ok .skip w' from by simp [execOp, hF.ov hx, hF.ov hy, hr]]
 exact h
end
/-! ### Memory -/
/-- Block b is a variable of type t with these cells. -/
def Blk (w : World) (b : Nat) (t : TypeId) (cs : List Value) : Prop := w.heap[b]? = some (.cells cs.toArray t (0, 0))
/-- No block but b has turned. -/
structure Only (b : Nat) (w w' : World) : Prop where
 os : w'.os = w.os
 tape : w'.tape = w.tape
 output : w'.output = w.output
 size : w'.heap.size = w.heap.size
 block : ∀ k, k ≠ b → w'.heap[k]? = w.heap[k]?
theorem Blk.lt {w : World} {b t : Nat} {cs : List Value} (h : Blk w b t cs) : b < w.heap.size := by
 rcases Nat.lt_or_ge b w.heap.size with h' | h'
 ·
  exact h'
 ·
  unfold Blk at h
  rw [Array.getElem?_eq_none h'] at h; cases h
theorem Blk.cell {w : World} {b t : Nat} {cs : List Value} (h : Blk w b t cs) {j : Nat} {v : Value} (hj : cs[j]? = some v) : w.cell? ⟨b, j, none⟩ = some v := by
 unfold Blk at h
 simp [World.cell?, h, hj]
theorem Blk.free {w : World} {b t : Nat} {cs : List Value} (h : Blk w b t cs) (j : Nat) : w.frozen? ⟨b, j, none⟩ = false := by
 unfold Blk at h
 simp [World.frozen?, h]
theorem Blk.below {B : Nat} {w w' : World} {b t : Nat} {cs : List Value} (h : Blk w b t cs) (hB : Below B w w') (hb : b < B) : Blk w' b t cs := (hB.block b hb).trans h
theorem Blk.old {w w' : World} {b t : Nat} {cs : List Value} (h : Blk w b t cs) (hB : Below w.heap.size w w') : Blk w' b t cs := h.below hB h.lt
theorem Blk.only {k : Nat} {w w' : World} {b t : Nat} {cs : List Value} (h : Blk w b t cs) (ho : Only k w w') (hb : b ≠ k) : Blk w' b t cs := (ho.block b hb).trans h
theorem Only.below {b B : Nat} {w w' : World} (h : Only b w w') (hB : B ≤ b) : Below B w w' := ⟨h.os, h.tape, h.output, Nat.le_of_eq h.size.symm, fun k hk => h.block k (by omega)⟩
theorem Only.trans {b : Nat} {w w' w'' : World} (h : Only b w w') (h' : Only b w' w'') : Only b w w'' := ⟨h'.os.trans h.os, h'.tape.trans h.tape, h'.output.trans h.output, h'.size.trans h.size, fun k hk => (h'.block k hk).trans (h.block k hk)⟩
theorem addr_add0 (b j : Nat) : (⟨b, 0, none⟩ : Addr).add j = ⟨b, j, none⟩ := by
 unfold Addr.add
 split
 ·
  next h => subst h; rfl
 ·
  simp
theorem addr_addn (b off j : Nat) : (⟨b, off, none⟩ : Addr).add j = ⟨b, off + j, none⟩ := by
 unfold Addr.add
 split
 ·
  next h => subst h; rfl
 ·
  rfl
section
variable {P : Program} {n d : Nat} {l : List (Nat × Value)} {w : World} {a : Act} {ops : Array Oper} {Q : Exit → Act → World → Prop} {rest : List Oper} {op : Op} {v : Value} {ty : TypeId} {pos : String} {af : Array Edge} {ds : List Deferred} {t t' : TypeId} {x y : Operand} {k : IntKind} {p q : Int}
theorem Fs.mv (hF : Fs n a l (ds := ds)) (hx : Ytmkjhdiepkpdoaa.ov l x = some v) (h : ∀ a', Fs n a' ((d, v) :: l) (ds := ds) → wpList P ops Q rest a' w) (hd : d < n := by decide) : wpList P ops Q (⟨some d, .move x, ty, pos, af, none⟩ :: rest) a w := s_val hF (x_move hx) hd h
theorem Fs.sg (hF : Fs n a l (ds := ds)) (hx : Ytmkjhdiepkpdoaa.ov l x = some v) (h : ∀ a', Fs n a' ((d, v) :: l) (ds := ds) → wpList P ops Q rest a' w) (hd : d < n := by decide) : wpList P ops Q (⟨some d, .assign x, ty, pos, af, none⟩ :: rest) a w := s_val hF (x_assign hx) hd h
theorem Fs.vl (hF : Fs n a l (ds := ds)) (hr : Runs P n l w op v) (h : ∀ a', Fs n a' ((d, v) :: l) (ds := ds) → wpList P ops Q rest a' w) (hd : d < n := by decide) : wpList P ops Q (⟨some d, op, ty, pos, af, none⟩ :: rest) a w := s_val hF hr hd h
theorem lssT (h : p < q) (hx : ov l x = some (.int k p)) (hy : ov l y = some (.int k q)) : Runs P n l w (.binOp .lss t x y t') (.bool true) := x_lss (decide_eq_true h) hx hy
theorem leqT (h : p ≤ q) (hx : ov l x = some (.int k p)) (hy : ov l y = some (.int k q)) : Runs P n l w (.binOp .leq t x y t') (.bool true) := x_leq (decide_eq_true h) hx hy
theorem gtrT (h : q < p) (hx : ov l x = some (.int k p)) (hy : ov l y = some (.int k q)) : Runs P n l w (.binOp .gtr t x y t') (.bool true) := x_gtr (decide_eq_true h) hx hy
theorem geqT (h : q ≤ p) (hx : ov l x = some (.int k p)) (hy : ov l y = some (.int k q)) : Runs P n l w (.binOp .geq t x y t') (.bool true) := x_geq (decide_eq_true h) hx hy
theorem eqlT (h : p = q) (hx : ov l x = some (.int k p)) (hy : ov l y = some (.int k q)) : Runs P n l w (.binOp .eql t x y t') (.bool true) := x_eql (decide_eq_true h) hx hy
theorem neqT (h : p ≠ q) (hx : ov l x = some (.int k p)) (hy : ov l y = some (.int k q)) : Runs P n l w (.binOp .neq t x y t') (.bool true) := x_neq (decide_eq_true h) hx hy
theorem lssF (h : ¬ p < q) (hx : ov l x = some (.int k p)) (hy : ov l y = some (.int k q)) : Runs P n l w (.binOp .lss t x y t') (.bool false) := x_lss (decide_eq_false h) hx hy
theorem leqF (h : ¬ p ≤ q) (hx : ov l x = some (.int k p)) (hy : ov l y = some (.int k q)) : Runs P n l w (.binOp .leq t x y t') (.bool false) := x_leq (decide_eq_false h) hx hy
theorem gtrF (h : ¬ q < p) (hx : ov l x = some (.int k p)) (hy : ov l y = some (.int k q)) : Runs P n l w (.binOp .gtr t x y t') (.bool false) := x_gtr (decide_eq_false h) hx hy
theorem geqF (h : ¬ q ≤ p) (hx : ov l x = some (.int k p)) (hy : ov l y = some (.int k q)) : Runs P n l w (.binOp .geq t x y t') (.bool false) := x_geq (decide_eq_false h) hx hy
theorem eqlF (h : ¬ p = q) (hx : ov l x = some (.int k p)) (hy : ov l y = some (.int k q)) : Runs P n l w (.binOp .eql t x y t') (.bool false) := x_eql (decide_eq_false h) hx hy
theorem neqF (h : ¬ p ≠ q) (hx : ov l x = some (.int k p)) (hy : ov l y = some (.int k q)) : Runs P n l w (.binOp .neq t x y t') (.bool false) := x_neq (decide_eq_false h) hx hy
end
theorem bt {w w' w'' : World} (h : Below w.heap.size w w') (k : Below w'.heap.size w' w'') : Below w.heap.size w w'' := h.trans (k.mono h.size)
end Go.Proofs.Ytmkjhdiepkpdoaa

namespace Go.Proofs.Ytmkjhdiepkpdoaa
open Go.RowKit Go.Shelf
set_option linter.unusedVariables false
set_option linter.unusedSimpArgs false
/-- A type of one cell that is no struct and no array. -/
def Flat (P : Program) (t : TypeId) : Bool := (match P.underlying t with | some (.struct _) | some (.array _ _) | none => false | _ => true) && ((P.info? t).map (·.size) == some 1)
/-- An array or struct of k cells. -/
def Wide (P : Program) (t : TypeId) (k : Nat) : Bool := (match P.underlying t with | some (.struct _) | some (.array _ _) => true | _ => false) && ((P.info? t).map (·.size) == some k)
section
variable {P : Program} {w : World}
theorem run_isAgg_flat {t : TypeId} (h : Flat P t = true) : (isAgg t).run P w = .ok false w := by
 simp only [Flat, Bool.and_eq_true] at h
 obtain ⟨h, _⟩ := h
 cases hu : P.underlying t with
 | none => rw [hu] at h; simp at h
 | some d => rw [hu] at h; cases d <;> simp at h <;> simp [isAgg, run_underlying hu]
theorem run_isAgg_wide {t : TypeId} {k : Nat} (h : Wide P t k = true) : (isAgg t).run P w = .ok true w := by
 simp only [Wide, Bool.and_eq_true] at h
 obtain ⟨h, _⟩ := h
 cases hu : P.underlying t with
 | none => rw [hu] at h; simp at h
 | some d => rw [hu] at h; cases d <;> simp at h <;> simp [isAgg, run_underlying hu]
theorem size_flat {t : TypeId} (h : Flat P t = true) : (P.info? t).map (·.size) = some 1 := by
 simp only [Flat, Bool.and_eq_true] at h
 simpa using h.2
theorem size_wide {t : TypeId} {k : Nat} (h : Wide P t k = true) : (P.info? t).map (·.size) = some k := by
 simp only [Wide, Bool.and_eq_true] at h
 simpa using h.2
theorem run_sizeOf_of {t : TypeId} {k : Nat} (h : (P.info? t).map (·.size) = some k) : (sizeOf t).run P w = .ok k w := by
 cases hi : P.info? t with
 | none => simp [hi] at h
 | some i =>
  simp [hi] at h
  simp [sizeOf, typeInfo, hi, h]
theorem m_load {t : TypeId} {ad : Addr} {v : Value} (ht : Flat P t = true) (hc : w.cell? ad = some v) : (Instr.loadAt t (.pointer (some ad))).run P w = .ok v w := by
 simp [Instr.loadAt, Instr.sureAddr, loadVar, run_isAgg_flat ht, hc]
theorem m_loadA {t : TypeId} {ad : Addr} {cs : List Value} (ht : Wide P t cs.length = true) (hc : ∀ j v, cs[j]? = some v → w.cell? (ad.add j) = some v) : (Instr.loadAt t (.pointer (some ad))).run P w = .ok (.agg cs.toArray) w := by
 have := run_loadCells_list (P := P) w ad cs hc
 simp [Instr.loadAt, Instr.sureAddr, loadVar, run_isAgg_wide ht, run_sizeOf_of (size_wide ht), this]
theorem m_loadW {t t0 : TypeId} {b : Nat} {cs : List Value} (ht : Wide P t cs.length = true) (hB : Blk w b t0 cs) : (Instr.loadAt t (.pointer (some ⟨b, 0, none⟩))).run P w = .ok (.agg cs.toArray) w :=
 m_loadA ht fun j v hj => by rw [addr_add0]; exact hB.cell hj
/-- A part of a block: a field. -/
theorem m_loadP {t t0 : TypeId} {b o : Nat} {cs vs : List Value} (ht : Wide P t vs.length = true) (hB : Blk w b t0 cs) (hv : (cs.drop o).take vs.length = vs) : (Instr.loadAt t (.pointer (some ⟨b, o, none⟩))).run P w = .ok (.agg vs.toArray) w :=
 m_loadA ht fun j v hj => by
  rw [addr_addn]
  refine hB.cell ?_
  rw [← hv, List.getElem?_take] at hj
  split at hj
  ·
   rwa [List.getElem?_drop] at hj
  ·
   cases hj
theorem m_store {ty t0 : TypeId} {b o : Nat} {cs vs : List Value} {v : Value} (hB : Blk w b t0 cs) (hv : v.cells = vs.toArray) (hi : (P.info? ty).map (·.size) = some vs.length) (ho : o + vs.length ≤ cs.length) (h1 : ∀ u ∈ vs, u.oneCell' = true) :
    (Instr.storeAt ty (.pointer (some ⟨b, o, none⟩)) v).run P w = .ok () (w.setRow b (cs.take o ++ vs ++ cs.drop (o + vs.length)).toArray) := by
  have := run_storeCells_at P b o t0 vs 0 cs.toArray w hB (by simpa using ho) h1
  simp at this
  simp [Instr.storeAt, Instr.sureAddr, storeVar, hv, run_sizeOf_of hi, this]
theorem blk_setRow {b t0 : Nat} {cs : List Value} (hB : Blk w b t0 cs) (ns : List Value) : Blk (w.setRow b ns.toArray) b t0 ns := setRow_heap w b cs.toArray _ t0 _ hB
theorem only_setRow {b : Nat} (ns : Array Value) : Only b w (w.setRow b ns) := by
 refine ⟨rfl, rfl, rfl, by simp [World.setRow], fun k hk => ?_⟩
 simp only [World.setRow, Array.getElem?_modify]
 rw [if_neg (by omega)]
theorem blk_alloc (t : TypeId) (cs : List Value) : Blk (w.alloc (.cells cs.toArray t)) w.heap.size t cs := by
 show (w.heap.push _)[w.heap.size]? = _
 simp
theorem below_alloc (o : Obj) : Below w.heap.size w (w.alloc o) := (Below.refl _ _).alloc (Nat.le_refl _) o
theorem size_alloc (o : Obj) : (w.alloc o).heap.size = w.heap.size + 1 := by
 show (w.heap.push o).size = _
 simp
theorem m_alloc {t : TypeId} {z : Value} {zs : List Value} (hz : (P.info? t).bind (·.zero) = some z) (hc : z.cells = zs.toArray) : (Instr.alloc t true (.tuple #[])).run P w = .ok (.pointer (some ⟨w.heap.size, 0, none⟩)) (w.alloc (.cells zs.toArray t)) := by
 cases hi : P.info? t with
 | none => simp [hi] at hz
 | some i =>
  simp [hi] at hz
  simp [Instr.alloc, zeroValue, typeInfo, hi, hz, newVar, newRow, hc]
theorem m_box {t : TypeId} {v : Value} {vs : List Value} (hc : v.cells = vs.toArray) : (Instr.box t v).run P w = .ok (.pointer (some ⟨w.heap.size, 0, none⟩)) (w.alloc (.cells vs.toArray t)) := by
 simp [Instr.box, newVar, newRow, hc]
/-- A string's byte. -/
theorem m_ixstr {t : TypeId} {s : ByteArray} {ik : IntKind} {i : Int} {c : UInt8} (j : Nat) (hu : P.underlying t = some .string) (hi : i = (j : Int)) (hc : s.data.toList[j]? = some c) :
    (Instr.index t (.string s) (.int ik i)).run P w = .ok (.int .u8 (c.toNat : Int)) w := by
  subst hi
  have hlt : j < s.size := by
    rcases Nat.lt_or_ge j s.data.toList.length with h | h
    · simpa using h
    · rw [List.getElem?_eq_none h] at hc; cases hc
  have : s[j]? = some c := by
    rw [getElem?_pos s j hlt]
    have : s.data.toList[j]? = some s.data[j] := by simp [hlt]
    rw [this] at hc
    cases hc
    rfl
  simp [Instr.index, asIntOf, run_underlying hu, this]
theorem m_field {s : TypeId} {fs : Array Field} {f : Nat} {fd : Field} {b o : Nat} (hu : P.underlying s = some (.struct fs)) (hf : fs[f]? = some fd) (hz : ((P.info? fd.type).map (·.size) == some 0) = false) (hs : ((P.info? fd.type).map (·.size)).isSome = true) :
    (Instr.fieldAt s (.pointer (some ⟨b, o, none⟩)) f).run P w = .ok (.pointer (some ⟨b, o + fd.offset, none⟩)) w := by
  obtain ⟨k, hk⟩ := Option.isSome_iff_exists.1 hs
  have hk0 : k ≠ 0 := by
    rintro rfl
    rw [hk] at hz
    simp at hz
  simp [Instr.fieldAt, run_underlying hu, hf, Instr.sureAddr, fieldPlace, run_sizeOf_of hk, hk0, addr_addn]
end
section
variable {P : Program} {n d : Nat} {l : List (Nat × Value)} {w : World} {a : Act} {ops : Array Oper} {Q : Exit → Act → World → Prop} {rest : List Oper} {ty : TypeId} {pos : String} {af : Array Edge}
theorem s_alloc {ds : List Deferred} {t : TypeId} {zs : List Value} (hF : Fs n a l (ds := ds)) (hd : d < n) (hz : (P.info? t).bind (·.zero) = some (.agg zs.toArray))
    (h : ∀ w' b a', b = w.heap.size → Blk w' b t zs → Below w.heap.size w w' → w'.heap.size = w.heap.size + 1 → Fs n a' ((d, .pointer (some ⟨b, 0, none⟩)) :: l) (ds := ds) → wpList P ops Q rest a' w') :
    wpList P ops Q (⟨some d, .alloc t, ty, pos, af, none⟩ :: rest) a w :=
  s_new hF (fun o ho => by simp [execOp, ho, m_alloc hz rfl]) hd fun a' hF' => h _ _ a' rfl (blk_alloc t zs) (below_alloc _) (size_alloc _) hF'
theorem s_box {ds : List Deferred} {t : TypeId} {x : Operand} {v : Value} (vs : List Value) (hF : Fs n a l (ds := ds)) (hd : d < n) (hx : ov l x = some v) (hc : v.cells = vs.toArray)
    (h : ∀ w' b a', b = w.heap.size → Blk w' b t vs → Below w.heap.size w w' → w'.heap.size = w.heap.size + 1 → Fs n a' ((d, .pointer (some ⟨b, 0, none⟩)) :: l) (ds := ds) → wpList P ops Q rest a' w') :
    wpList P ops Q (⟨some d, .box t x, ty, pos, af, none⟩ :: rest) a w :=
  s_new hF (fun o ho => by simp [execOp, ho, hF.ov hx, m_box hc]) hd fun a' hF' => h _ _ a' rfl (blk_alloc t vs) (below_alloc _) (size_alloc _) hF'
/-- A store of one cell. -/
theorem s_put {ds : List Deferred} {t t0 : TypeId} {x y : Operand} {v : Value} {b o : Nat} {cs : List Value} (hF : Fs n a l (ds := ds)) (hx : ov l x = some (.pointer (some ⟨b, o, none⟩))) (hy : ov l y = some v) (ht : Flat P t = true) (hB : Blk w b t0 cs) (ho : o < cs.length) (h1 : v.oneCell' = true)
    (h : ∀ w', Blk w' b t0 (cs.set o v) → Only b w w' → wpList P ops Q rest a w') : wpList P ops Q (⟨none, .store t x y, ty, pos, af, none⟩ :: rest) a w := by
  have hc : v.cells = [v].toArray := by cases v <;> simp_all [Value.cells, Value.oneCell']
  refine s_sto hF hx hy (m_store hB hc (size_flat ht) (by simp; omega) (by simpa using h1)) (h _ ?_ (only_setRow _))
  have e : cs.take o ++ [v] ++ cs.drop (o + [v].length) = cs.set o v := by
    rw [List.set_eq_take_append_cons_drop, if_pos ho]
    simp
  rw [e]
  exact blk_setRow hB _
/-- A store of a whole block. -/
theorem s_putW {ds : List Deferred} {t t0 : TypeId} {x y : Operand} {b : Nat} {cs vs : List Value} (hF : Fs n a l (ds := ds)) (hx : ov l x = some (.pointer (some ⟨b, 0, none⟩))) (hy : ov l y = some (.agg vs.toArray)) (hi : (P.info? t).map (·.size) = some vs.length) (hB : Blk w b t0 cs) (ho : cs.length = vs.length) (h1 : ∀ u ∈ vs, u.oneCell' = true)
    (h : ∀ w', Blk w' b t0 vs → Only b w w' → wpList P ops Q rest a w') : wpList P ops Q (⟨none, .store t x y, ty, pos, af, none⟩ :: rest) a w := by
  refine s_sto hF hx hy (m_store hB rfl hi (by omega) h1) (h _ ?_ (only_setRow _))
  have e : cs.take 0 ++ vs ++ cs.drop (0 + vs.length) = vs := by simp [← ho]
  rw [e]
  exact blk_setRow hB _
/-- The result in a variable of its own. -/
theorem res_cell {fn : Func} {t : TypeId} {r : Nat} {b : Nat} {t0 : TypeId} {cs : List Value} {R : Ending → World → Prop} (hF : Fs n a l) (hr : fn.results = #[.cell r t]) (hl : lk l r = some (.pointer (some ⟨b, 0, none⟩))) (hB : Blk w b t0 cs) (ht : Wide P t cs.length = true) (h : R (.returned (.agg cs.toArray)) w) : bodyPost P fn R .ret a w := by
 refine ⟨hF.defers, _, ?_, h⟩
 have h1 := hF.slot r _ hl
 have h2 := m_loadW (P := P) ht hB
 simp [Instr.loadAt, Instr.sureAddr] at h2
 simp [results, hr, h1, asAddr, h2]
theorem res_slot {fn : Func} {r : Nat} {v : Value} {R : Ending → World → Prop} (hF : Fs n a l) (hr : fn.results = #[.tmp r]) (hl : lk l r = some v) (h : R (.returned v) w) : bodyPost P fn R .ret a w := by
 refine ⟨hF.defers, _, ?_, h⟩
 have h1 := hF.slot r _ hl
 simp [results, hr, h1]
theorem res_two {fn : Func} {r1 r2 : Nat} {v1 v2 : Value} {R : Ending → World → Prop} (hF : Fs n a l) (hr : fn.results = #[.tmp r1, .tmp r2]) (h1 : lk l r1 = some v1) (h2 : lk l r2 = some v2) (h : R (.returned (.tuple #[v1, v2])) w) : bodyPost P fn R .ret a w := by
 refine ⟨hF.defers, _, ?_, h⟩
 have h1 := hF.slot r1 _ h1
 have h2 := hF.slot r2 _ h2
 simp [results, hr, h1, h2]
theorem then_ret {K : Act → World → Prop} (h : Q .ret a w) : Exit.then K Q .ret a w := h
theorem inb_ret {id : Nat} (h : Q .ret a w) : Exit.inBlock id Q .ret a w := h
theorem post_normal {fn : Func} {R : Ending → World → Prop} (h : bodyPost P fn R .ret a w) : bodyPost P fn R .normal a w := h
theorem res_none {fn : Func} {R : Ending → World → Prop} (hF : Fs n a l) (hr : fn.results = #[]) (h : R (.returned (.tuple #[])) w) : bodyPost P fn R .ret a w := by
 refine ⟨hF.defers, _, ?_, h⟩
 simp [results, hr]
end
section
variable {P : Program} {n d : Nat} {l : List (Nat × Value)} {w : World} {a : Act} {ops : Array Oper} {Q : Exit → Act → World → Prop} {rest : List Oper} {v : Value} {ty : TypeId} {pos : String} {af : Array Edge} {ds : List Deferred} {t : TypeId} {x : Operand}
theorem Fs.ld {b t0 j : Nat} {cs : List Value} (hF : Fs n a l (ds := ds)) (m : Blk w b t0 cs) (ht : Flat P t = true) (hx : Ytmkjhdiepkpdoaa.ov l x = some (.pointer (some ⟨b, j, none⟩))) (hj : cs[j]? = some v) (h : ∀ a', Fs n a' ((d, v) :: l) (ds := ds) → wpList P ops Q rest a' w) (hd : d < n := by decide) : wpList P ops Q (⟨some d, .load t x, ty, pos, af, none⟩ :: rest) a w := s_val hF (x_load hx (m_load ht (m.cell hj))) hd h
end
end Go.Proofs.Ytmkjhdiepkpdoaa

namespace Go.Proofs.Ytmkjhdiepkpdoaa
open Go.RowKit Go.Shelf
set_option linter.unusedVariables false
set_option linter.unusedSimpArgs false
def encW (x : UInt32) : Value := .int .u32 (x.toNat : Int)
def encB (x : UInt8) : Value := .int .u8 (x.toNat : Int)
def encD (x : UInt64) : Value := .int .u64 (x.toNat : Int)
theorem wrap_u8 (z : Int) : IntKind.u8.wrap z = z % 256 := by simp [IntKind.wrap, IntKind.bits, IntKind.signed]
theorem wrap_u64 (z : Int) : IntKind.u64.wrap z = z % 18446744073709551616 := by simp [IntKind.wrap, IntKind.bits, IntKind.signed]
theorem nat8 (m : Nat) : IntKind.u8.wrap (m : Int) = (((UInt8.ofNat m).toNat : Nat) : Int) := by
 rw [wrap_u8, UInt8.toNat_ofNat']
 simp
theorem nat64 (m : Nat) : IntKind.u64.wrap (m : Int) = (((UInt64.ofNat m).toNat : Nat) : Int) := by
 rw [wrap_u64, UInt64.toNat_ofNat']
 simp
theorem bv8 (x : UInt8) : BitVec.ofInt 8 (x.toNat : Int) = x.toBitVec := by
 apply BitVec.eq_of_toNat_eq
 have := x.toNat_lt
 simp [BitVec.toNat_ofInt]
theorem bv64 (x : UInt64) : BitVec.ofInt 64 (x.toNat : Int) = x.toBitVec := by
 apply BitVec.eq_of_toNat_eq
 have := x.toNat_lt
 simp [BitVec.toNat_ofInt]
section
variable {P : Program} {n : Nat} {l : List (Nat × Value)} {w : World} {t t' : TypeId} {x y : Operand}
/-- Conversions between kinds of integers. -/
theorem run_conv_int {s d : TypeId} {k : IntKind} {k0 : IntKind} {z : Int} {ds : TypeDesc} (hs : P.underlying s = some ds) (hd : P.underlying d = some (.int k)) (W : World) : (convert s d (.int k0 z)).run P W = .ok (.int k (k.wrap z)) W := by
 simp [convert, run_underlying hs, run_underlying hd, Conv.intToInt]
theorem x_cvt {s d : TypeId} {k k0 : IntKind} {z r : Int} {ds : TypeDesc} (hs : P.underlying s = some ds) (hd : P.underlying d = some (.int k)) (hr : k.wrap z = r) (hx : ov l x = some (.int k0 z)) : Runs P n l w (.convert s d x) (.int k r) :=
 x_conv hx (by rw [run_conv_int hs hd, hr])
theorem x_d2b {s d : TypeId} {ds : TypeDesc} {p : UInt64} (hs : P.underlying s = some ds) (hd : P.underlying d = some (.int .u8)) (hx : ov l x = some (encD p)) : Runs P n l w (.convert s d x) (encB p.toUInt8) :=
 x_conv hx (by
  unfold encB encD
  rw [run_conv_int hs hd, nat8]
  rfl)
end
end Go.Proofs.Ytmkjhdiepkpdoaa

namespace Go.Proofs.Ytmkjhdiepkpdoaa
open Go.RowKit Go.Shelf
set_option linter.unusedVariables false
set_option linter.unusedSimpArgs false
section
variable {P : Program} {n d : Nat} {l : List (Nat × Value)} {w : World} {a : Act} {ops : Array Oper} {Q : Exit → Act → World → Prop} {C : World → Prop} {K : Act → Prop} {rest : List Oper} {ty : TypeId} {pos : String} {af : Array Edge} {f : FuncId} {ts : Array TypeId} {x y : Operand} {u1 u2 v : Value}
end
section
variable {P : Program} {Q : Exit → Act → World → Prop} {a : Act} {w : World} {c x y : Code} {K : Act → World → Prop} {n : Nat} {l : List (Nat × Value)}
/-- A loop that counts up to N. -/
theorem wp_up (N : Nat) (J : Nat → Act → World → Prop) (h0 : J 0 a w)
    (round : ∀ k a w, k ≤ N → J k a w → ∀ K : Act → World → Prop, (∀ a' w', k < N → J (k + 1) a' w' → K a' w') → c.wp P (Exit.then K Q) a w) : (Code.loop c).wp P Q a w := by
  refine wp_loop_ghost (fun m a w => m ≤ N ∧ J (N - m) a w) N ⟨Nat.le_refl _, by simpa using h0⟩ ?_
  rintro m a w ⟨hm, hJ⟩
  refine round (N - m) a w (by omega) hJ _ ?_
  intro a' w' hlt hJ'
  refine ⟨m - 1, by omega, by omega, ?_⟩
  rwa [show N - (m - 1) = N - m + 1 by omega]
/-- A region, then the rest. -/
theorem wp_rs {id : Nat} {l : List Oper} (h : ∀ K : Act → World → Prop, (∀ a w, y.wp P Q a w → K a w) → wpList P l.toArray (Exit.then K Q) l a w) : (Code.seq (.region id l.toArray false) y).wp P Q a w :=
 wp_seq_k fun K hK => wp_region_lit (h K hK)
/-- A condition that is known. -/
theorem wp_if {ds : List Deferred} {c : Operand} {b : Bool} (hF : Fs n a l (ds := ds)) (hc : ov l c = some (.bool b)) (h : (bif b then x else y).wp P Q a w) : (Code.cond c x y).wp P Q a w := by
 refine wp_cond (hF.ov hc) ?_
 cases b <;> exact h
/-- Both ways of a condition. -/
theorem wp_iff {ds : List Deferred} {c : Operand} {p : Prop} [Decidable p] (hF : Fs n a l (ds := ds)) (hc : ov l c = some (.bool (decide p))) (h1 : p → x.wp P Q a w) (h2 : ¬ p → y.wp P Q a w) : (Code.cond c x y).wp P Q a w := by
 refine wp_cond (hF.ov hc) ?_
 by_cases hp : p
 ·
  simpa [hp] using h1 hp
 ·
  simpa [hp] using h2 hp
theorem wp_ifb {ds : List Deferred} {c : Operand} {b : Bool} (hF : Fs n a l (ds := ds)) (hc : ov l c = some (.bool b)) (h1 : b = true → x.wp P Q a w) (h2 : b = false → y.wp P Q a w) : (Code.cond c x y).wp P Q a w := by
 refine wp_cond (hF.ov hc) ?_
 cases b
 ·
  exact h2 rfl
 ·
  exact h1 rfl
theorem drawn_below (w : World) : Below w.heap.size w { w with drawn := w.drawn + 1 } := (Below.refl _ _).drew
theorem Blk.drawn {b t : Nat} {cs : List Value} (h : Blk w b t cs) : Blk { w with drawn := w.drawn + 1 } b t cs := h
end
end Go.Proofs.Ytmkjhdiepkpdoaa

namespace Go.Proofs.Ytmkjhdiepkpdoaa
open Go.RowKit Go.Shelf
set_option linter.unusedVariables false
set_option linter.unusedSimpArgs false
/-- Which have come up, the newest first. -/
def lst (N : Nat) : List Nat → Array Bool
 | [] => Array.replicate N false
 | i :: d => (lst N d).setIfInBounds i true
def okTake (ops : Array Oper) (listed : Array Bool) (i : Nat) : Bool := Region.noSelect ops && Region.free .any ops listed i && (Region.ready .any ops listed).contains i
def QN (K : Act → World → Prop) : Exit → Act → World → Prop
 | .normal, a, w => K a w
 | _, _, _ => False
/-- An operation without a guard: its slot and kind. -/
def look (ops : Array Oper) (i : Nat) : Option (Option Tmp × Op) := (ops[i]?).bind fun o => match o.guard with | none => some (o.dst, o.op) | some _ => none
section
variable {P : Program} {ops : Array Oper} {K : Act → World → Prop} {S : World → Prop} {N n : Nat} {done : List Nat} {fuel : Nat} {a : Act} {w : World} {l : List (Nat × Value)}
theorem h_start {id : Nat} {Q : Exit → Act → World → Prop} (hm : P.follows .mixedOrders = true) (hN : ops.size = N) (hK : ∀ a w, K a w → Q .normal a w)
    (h : wpAnyH P .any ops (QN K) S N (lst N []) a w.drew) : (Code.region id ops true).wp P Q a w := by
  subst hN
  refine Code.wp_mono (fun e a w h => ?_) (wp_region_held hm h)
  cases e <;> first | exact hK _ _ h | exact (h : False).elim
end
end Go.Proofs.Ytmkjhdiepkpdoaa

namespace Go.Proofs.Ytmkjhdiepkpdoaa
open Go.RowKit Go.Shelf
set_option linter.unusedVariables false
set_option linter.unusedSimpArgs false
section
variable {P : Program} {ops : Array Oper} {K : Act → World → Prop} {S : World → Prop} {N n : Nat} {done : List Nat} {fuel : Nat} {a : Act} {w : World} {l : List (Nat × Value)}
theorem upon_QN {o : Oper} {R K K' : Act → World → Prop} {r : Result Next} (h : o.upon P a R (QN K) r) : o.upon P a R (QN K') r := by
 cases r with
 | ok x w' =>
  cases x with
  | enter f args =>
   refine Calls.mono h ?_
   intro e w'' he
   cases e with
   | returned v => exact he
   | panicked c => exact (he : False).elim
   | outgrown =>
    obtain ⟨a', w3, h3⟩ := he
    exact (h3 : False).elim
  | _ => exact h
 | halt x w' =>
  cases x with
  | panic v => exact (h : False).elim
  | _ => exact h
theorem h_one (i : Nat) {o : Oper} (ho : ops[i]? = some o) (hg : o.guard = none) (hr : Region.ready .any ops (lst N done) = [i])
    (h : wpList P ops (QN fun a' w' => S w' ∧ wpAnyH P .any ops (QN K) S fuel (lst N (i :: done)) a' w') [o] a w) : wpAnyH P .any ops (QN K) S (fuel + 1) (lst N done) a w := by
  refine wpAnyH_all hr (by simp) (fun j hj => ?_)
  simp at hj
  subst hj
  unfold wpOp
  simp only [ho]
  unfold wpList at h
  rw [if_pos (wanted_none o hg _)] at h ⊢
  rcases h with h | ⟨_, a', w', h⟩
  · exact .inl (upon_QN h)
  · exact (h : False).elim
/-- A step whose guard was itself passed over. -/
theorem s_grdu {ds : List Deferred} {Q : Exit → Act → World → Prop} {rest : List Oper} {op : Op} {ty : TypeId} {pos : String} {af : Array Edge} {d j : Nat} {want : Bool} (dj : Nat) (hF : Fs n a l (ds := ds)) (hj : (ops[j]?).bind (·.dst) = some dj) (hb : lk l dj = some undef) (hd : d < n)
    (h : ∀ a', Fs n a' ((d, undef) :: l) (ds := ds) → wpList P ops Q rest a' w) : wpList P ops Q (⟨some d, op, ty, pos, af, some (j, want)⟩ :: rest) a w := by
  have hs := hF.slot dj _ hb
  have hw : Region.wanted (⟨some d, op, ty, pos, af, some (j, want)⟩ : Oper) (yielded ops a.tmps) = false := by
    simp [Region.wanted, yielded, hj, hs, undef]
  unfold wpList
  rw [if_neg (by rw [hw]; exact Bool.false_ne_true)]
  exact h _ (hF.put d hd _)
end
end Go.Proofs.Ytmkjhdiepkpdoaa

namespace Go.Proofs.Ytmkjhdiepkpdoaa
open Go.RowKit Go.Shelf
set_option linter.unusedVariables false
set_option linter.unusedSimpArgs false
/-- An operation: its slot, kind and guard. -/
def lookG (ops : Array Oper) (i : Nat) : Option (Option Tmp × Op × Option (Nat × Bool)) := (ops[i]?).map fun o => (o.dst, o.op, o.guard)
theorem lookG_some {ops : Array Oper} {i : Nat} {d : Option Tmp} {op : Op} {g : Option (Nat × Bool)} (h : lookG ops i = some (d, op, g)) : ∃ o, ops[i]? = some o ∧ o.dst = d ∧ o.op = op ∧ o.guard = g := by
 unfold lookG at h
 cases ho : ops[i]? with
 | none => rw [ho] at h; cases h
 | some o =>
  rw [ho] at h
  simp at h
  exact ⟨o, rfl, h.1, h.2.1, h.2.2⟩
/-- A region's operations, out of a function's body. -/
def opsOf (k : Nat) : Code → Option (Array Oper)
 | .region id ops _ => if id = k then some ops else none
 | .seq a b => match opsOf k a with
  | some x => some x
  | none => opsOf k b
 | .cond _ a b => match opsOf k a with
  | some x => some x
  | none => opsOf k b
 | .block _ a => opsOf k a
 | .loop a => opsOf k a
 | .scope a => opsOf k a
 | .rangeFunc _ _ a b => match opsOf k a with
  | some x => some x
  | none => opsOf k b
 | _ => none
def regOps (f : Func) (k : Nat) : Array Oper := ((f.body.bind (opsOf k)).getD #[])
section
variable {P : Program} {ops : Array Oper} {K : Act → World → Prop} {S : World → Prop} {N n : Nat} {done : List Nat} {fuel : Nat} {a : Act} {w : World} {l : List (Nat × Value)}
/-- The region begins. -/
theorem d_start {id : Nat} {ops0 : Array Oper} {Q : Exit → Act → World → Prop} (S : World → Prop) (ho : ops = ops0) (hm : P.follows .mixedOrders = true) (hN : ops.size = N)
    (h : ∀ K : Act → World → Prop, (∀ a w, Q .normal a w → K a w) → wpAnyH P .any ops (QN K) S N (lst N []) a w.drew) : (Code.region id ops0 true).wp P Q a w := by
  subst ho
  exact h_start (K := fun a w => Q .normal a w) hm hN (fun _ _ h => h) (h _ fun _ _ h => h)
/-- Then the rest. -/
theorem d_seq {id : Nat} {ops0 : Array Oper} {Q : Exit → Act → World → Prop} {y : Code} (S : World → Prop) (ho : ops = ops0) (hm : P.follows .mixedOrders = true) (hN : ops.size = N)
    (h : ∀ K : Act → World → Prop, (∀ a w, y.wp P Q a w → K a w) → wpAnyH P .any ops (QN K) S N (lst N []) a w.drew) : (Code.seq (.region id ops0 true) y).wp P Q a w :=
  wp_seq_k fun K hK => d_start S ho hm hN fun K' hK' => h K' fun a w hy => hK' _ _ (hK _ _ hy)
/-- What only reads, wherever S holds. -/
theorem d_val {ds : List Deferred} (i d : Nat) {op : Op} {v : Value} (hF : Fs n a l (ds := ds)) (hS : S w) (hop : lookG ops i = some (some d, op, none)) (hr : ∀ W, S W → Runs P n l W op v) (hok : okTake ops (lst N done) i = true) (hd : d < n)
    (h : ∀ a', Fs n a' ((d, v) :: l) (ds := ds) → wpAnyH P .any ops (QN K) S fuel (lst N (i :: done)) a' w) : wpAnyH P .any ops (QN K) S (fuel + 1) (lst N done) a w := by
  obtain ⟨o, ho, hdst, hopp, hgu⟩ := lookG_some hop
  simp only [okTake, Bool.and_eq_true] at hok
  refine wpAnyH_take ho hok.1.1 hok.1.2 hok.2 (fun _ _ _ h => h) (.inl ⟨wanted_none o hgu _, fun W hW => hr W hW _ a hF o hopp⟩) hS ?_
  rw [hdst]
  exact h _ (hF.put d hd v)
/-- With a guard that says yes. -/
theorem d_valg {ds : List Deferred} (i d dj : Nat) {j : Nat} {want : Bool} {op : Op} {v : Value} (hF : Fs n a l (ds := ds)) (hS : S w) (hop : lookG ops i = some (some d, op, some (j, want))) (hj : (ops[j]?).bind (·.dst) = some dj) (hb : lk l dj = some (.bool want)) (hr : ∀ W, S W → Runs P n l W op v) (hok : okTake ops (lst N done) i = true) (hd : d < n)
    (h : ∀ a', Fs n a' ((d, v) :: l) (ds := ds) → wpAnyH P .any ops (QN K) S fuel (lst N (i :: done)) a' w) : wpAnyH P .any ops (QN K) S (fuel + 1) (lst N done) a w := by
  obtain ⟨o, ho, hdst, hopp, hgu⟩ := lookG_some hop
  simp only [okTake, Bool.and_eq_true] at hok
  refine wpAnyH_take ho hok.1.1 hok.1.2 hok.2 (fun _ _ _ h => h) (.inl ⟨by rw [wanted_some hF hgu hj hb]; simp, fun W hW => hr W hW _ a hF o hopp⟩) hS ?_
  rw [hdst]
  exact h _ (hF.put d hd v)
/-- With one that says no. -/
theorem d_skip {ds : List Deferred} (i d dj : Nat) {j : Nat} {want : Bool} {op : Op} (hF : Fs n a l (ds := ds)) (hS : S w) (hop : lookG ops i = some (some d, op, some (j, want))) (hj : (ops[j]?).bind (·.dst) = some dj) (hb : lk l dj = some (.bool (!want))) (hok : okTake ops (lst N done) i = true) (hd : d < n)
    (h : ∀ a', Fs n a' ((d, undef) :: l) (ds := ds) → wpAnyH P .any ops (QN K) S fuel (lst N (i :: done)) a' w) : wpAnyH P .any ops (QN K) S (fuel + 1) (lst N done) a w := by
  obtain ⟨o, ho, hdst, hopp, hgu⟩ := lookG_some hop
  simp only [okTake, Bool.and_eq_true] at hok
  refine wpAnyH_take ho hok.1.1 hok.1.2 hok.2 (fun _ _ _ h => h) (.inr ⟨by rw [wanted_some hF hgu hj hb]; cases want <;> rfl, rfl⟩) hS ?_
  rw [hdst]
  exact h _ (hF.put d hd _)
/-- With one that was itself passed over. -/
theorem d_skipu {ds : List Deferred} (i d dj : Nat) {j : Nat} {want : Bool} {op : Op} (hF : Fs n a l (ds := ds)) (hS : S w) (hop : lookG ops i = some (some d, op, some (j, want))) (hj : (ops[j]?).bind (·.dst) = some dj) (hb : lk l dj = some undef) (hok : okTake ops (lst N done) i = true) (hd : d < n)
    (h : ∀ a', Fs n a' ((d, undef) :: l) (ds := ds) → wpAnyH P .any ops (QN K) S fuel (lst N (i :: done)) a' w) : wpAnyH P .any ops (QN K) S (fuel + 1) (lst N done) a w := by
  obtain ⟨o, ho, hdst, hopp, hgu⟩ := lookG_some hop
  simp only [okTake, Bool.and_eq_true] at hok
  have hs := hF.slot dj _ hb
  refine wpAnyH_take ho hok.1.1 hok.1.2 hok.2 (fun _ _ _ h => h) (.inr ⟨by simp [Region.wanted, hgu, yielded, hj, hs, undef], rfl⟩) hS ?_
  rw [hdst]
  exact h _ (hF.put d hd _)
/-- What comes up alone, by the steps of a list. -/
theorem d_one (i : Nat) (d : Option Tmp) (op : Op) (ho : (ops[i]?).map (fun o => (o.dst, o.op, o.guard)) = some (d, op, none)) (hr : Region.ready .any ops (lst N done) = [i])
    (h : ∀ ty pos af, wpList P ops (QN fun a' w' => S w' ∧ wpAnyH P .any ops (QN K) S fuel (lst N (i :: done)) a' w') [⟨d, op, ty, pos, af, none⟩] a w) : wpAnyH P .any ops (QN K) S (fuel + 1) (lst N done) a w := by
  cases ho' : ops[i]? with
  | none => rw [ho'] at ho; cases ho
  | some o =>
    rw [ho'] at ho
    obtain ⟨d', op', ty, pos, af, g⟩ := o
    simp at ho
    obtain ⟨rfl, rfl, rfl⟩ := ho
    exact h_one i ho' rfl hr (h ty pos af)
/-- With a guard that says yes. -/
theorem d_oneg {ds : List Deferred} (i dj : Nat) (d : Option Tmp) (op : Op) {j : Nat} {want : Bool} (hF : Fs n a l (ds := ds)) (ho : (ops[i]?).map (fun o => (o.dst, o.op, o.guard)) = some (d, op, some (j, want))) (hr : Region.ready .any ops (lst N done) = [i]) (hj : (ops[j]?).bind (·.dst) = some dj) (hb : lk l dj = some (.bool want))
    (h : ∀ ty pos af, wpList P ops (QN fun a' w' => S w' ∧ wpAnyH P .any ops (QN K) S fuel (lst N (i :: done)) a' w') [⟨d, op, ty, pos, af, none⟩] a w) : wpAnyH P .any ops (QN K) S (fuel + 1) (lst N done) a w := by
  cases ho' : ops[i]? with
  | none => rw [ho'] at ho; cases ho
  | some o =>
    rw [ho'] at ho
    obtain ⟨d', op', ty, pos, af, g⟩ := o
    simp at ho
    obtain ⟨rfl, rfl, rfl⟩ := ho
    refine wpAnyH_all hr (by simp) (fun j' hj' => ?_)
    simp at hj'
    subst hj'
    unfold wpOp
    simp only [ho']
    have h := h ty pos af
    unfold wpList at h
    rw [if_pos (wanted_none _ rfl _)] at h
    rw [if_pos (by rw [wanted_some hF rfl hj hb]; simp)]
    rcases h with h | ⟨_, a', w', h⟩
    · exact .inl (upon_QN h)
    · exact (h : False).elim
/-- One of two that may come up. -/
theorem d_op (i : Nat) (d : Option Tmp) (op : Op) {R : Act → World → Prop} (ho : (ops[i]?).map (fun o => (o.dst, o.op, o.guard)) = some (d, op, none))
    (h : ∀ ty pos af, wpList P ops (QN R) [⟨d, op, ty, pos, af, none⟩] a w) : wpOp P ops (QN K) i R a w := by
  cases ho' : ops[i]? with
  | none => rw [ho'] at ho; cases ho
  | some o =>
    rw [ho'] at ho
    obtain ⟨d', op', ty, pos, af, g⟩ := o
    simp at ho
    obtain ⟨rfl, rfl, rfl⟩ := ho
    unfold wpOp
    simp only [ho']
    have h := h ty pos af
    unfold wpList at h
    rw [if_pos (wanted_none _ rfl _)] at h ⊢
    rcases h with h | ⟨_, a', w', h⟩
    · exact .inl (upon_QN h)
    · exact (h : False).elim
theorem d_end (hr : Region.ready .any ops (lst N done) = []) (h : K a w) : wpAnyH P .any ops (QN K) S fuel (lst N done) a w := wpAnyH_done hr h _
end
section
variable {P : Program} {ops : Array Oper} {K : Act → World → Prop} {S : World → Prop} {N n : Nat} {done : List Nat} {fuel : Nat} {a : Act} {w : World} {l : List (Nat × Value)} {ds : List Deferred}
theorem Fs.dv (hF : Fs n a l (ds := ds)) (i d : Nat) (op : Op) {v : Value} (hS : S w) (hr : ∀ W, S W → Runs P n l W op v) (h : ∀ a', Fs n a' ((d, v) :: l) (ds := ds) → wpAnyH P .any ops (QN K) S fuel (lst N (i :: done)) a' w) (hop : lookG ops i = some (some d, op, none) := by kernel_rfl) (hok : okTake ops (lst N done) i = true := by kernel_rfl) (hd : d < n := by decide) : wpAnyH P .any ops (QN K) S (fuel + 1) (lst N done) a w := d_val i d hF hS hop hr hok hd h
theorem Fs.dg (hF : Fs n a l (ds := ds)) (i d dj j : Nat) (want : Bool) (op : Op) {v : Value} (hS : S w) (hb : lk l dj = some (.bool want)) (hr : ∀ W, S W → Runs P n l W op v) (h : ∀ a', Fs n a' ((d, v) :: l) (ds := ds) → wpAnyH P .any ops (QN K) S fuel (lst N (i :: done)) a' w) (hop : lookG ops i = some (some d, op, some (j, want)) := by kernel_rfl) (hj : (ops[j]?).bind (·.dst) = some dj := by kernel_rfl) (hok : okTake ops (lst N done) i = true := by kernel_rfl) (hd : d < n := by decide) : wpAnyH P .any ops (QN K) S (fuel + 1) (lst N done) a w := d_valg i d dj hF hS hop hj hb hr hok hd h
theorem d1 (i : Nat) (d : Option Tmp) (op : Op) (h : ∀ ty pos af, wpList P ops (QN fun a' w' => S w' ∧ wpAnyH P .any ops (QN K) S fuel (lst N (i :: done)) a' w') [⟨d, op, ty, pos, af, none⟩] a w) (ho : (ops[i]?).map (fun o => (o.dst, o.op, o.guard)) = some (d, op, none) := by kernel_rfl) (hr : Region.ready .any ops (lst N done) = [i] := by kernel_rfl) : wpAnyH P .any ops (QN K) S (fuel + 1) (lst N done) a w := d_one i d op ho hr h
end
end Go.Proofs.Ytmkjhdiepkpdoaa

/- SHA-256 on lists. No program is named here. -/
namespace Go.Proofs.Ytmkjhdiepkpdoaa
set_option linter.unusedVariables false
def rotr (x : UInt32) (n : Nat) : UInt32 := (x <<< UInt32.ofNat (32 - n)) ||| (x >>> UInt32.ofNat n)
/-- A list that grows by what it holds. -/
def grow {α : Type} (f : List α → α) : Nat → List α → List α
 | 0, l => l
 | n + 1, l => grow f n (l ++ [f l])
def word4 (bs : List UInt8) (t : Nat) : UInt32 := (((bs.getD (4 * t) 0).toUInt32 <<< UInt32.ofNat 24 ||| (bs.getD (4 * t + 1) 0).toUInt32 <<< UInt32.ofNat 16) ||| (bs.getD (4 * t + 2) 0).toUInt32 <<< UInt32.ofNat 8) ||| (bs.getD (4 * t + 3) 0).toUInt32
def sig0 (x : UInt32) : UInt32 := (rotr x 7 ^^^ rotr x 18) ^^^ (x >>> UInt32.ofNat 3)
def sig1 (x : UInt32) : UInt32 := (rotr x 17 ^^^ rotr x 19) ^^^ (x >>> UInt32.ofNat 10)
def nextw (ws : List UInt32) : UInt32 := ((ws.getD (ws.length - 16) 0 + sig0 (ws.getD (ws.length - 15) 0)) + ws.getD (ws.length - 7) 0) + sig1 (ws.getD (ws.length - 2) 0)
@[irreducible] def first16 (bs : List UInt8) : List UInt32 := grow (fun l => word4 bs l.length) 16 []
@[irreducible] def sched (bs : List UInt8) : List UInt32 := grow nextw 48 (first16 bs)
/-- The rest of a list that is being filled. -/
def pad {α : Type} (n : Nat) (z : α) (l : List α) : List α := l ++ List.replicate (n - l.length) z
theorem getD_get {α : Type} (l : List α) (j : Nat) (z : α) (h : j < l.length) : l[j]? = some (l.getD j z) := by
 rw [List.getD_eq_getElem?_getD, List.getElem?_eq_getElem h]
 rfl
/-- The eight words of a round. -/
structure S8 where
 a : UInt32
 b : UInt32
 c : UInt32
 d : UInt32
 e : UInt32
 f : UInt32
 g : UInt32
 h : UInt32
def tmp1 (s : S8) (k w : UInt32) : UInt32 := (((s.h + ((rotr s.e 6 ^^^ rotr s.e 11) ^^^ rotr s.e 25)) + ((s.e &&& s.f) ^^^ (~~~s.e &&& s.g))) + k) + w
def tmp2 (s : S8) : UInt32 := ((rotr s.a 2 ^^^ rotr s.a 13) ^^^ rotr s.a 22) + (((s.a &&& s.b) ^^^ (s.a &&& s.c)) ^^^ (s.b &&& s.c))
def rnd (s : S8) (k w : UInt32) : S8 := ⟨tmp1 s k w + tmp2 s, s.a, s.b, s.c, s.d + tmp1 s k w, s.e, s.f, s.g⟩
/-- So many rounds more, from the tth on. -/
def rounds (ks ws : List UInt32) : Nat → Nat → S8 → S8
 | 0, _, s => s
 | n + 1, t, s => rounds ks ws n (t + 1) (rnd s (ks.getD t 0) (ws.getD t 0))
def S8.list (s : S8) : List UInt32 := [s.a, s.b, s.c, s.d, s.e, s.f, s.g, s.h]
def s8 (ws : List UInt32) : S8 := ⟨ws.getD 0 0, ws.getD 1 0, ws.getD 2 0, ws.getD 3 0, ws.getD 4 0, ws.getD 5 0, ws.getD 6 0, ws.getD 7 0⟩
/-- Of so many words the first have been added to. -/
def addUp (ws vs : List UInt32) (k : Nat) : List UInt32 := (List.range ws.length).map fun i => if i < k then ws.getD i 0 + vs.getD i 0 else ws.getD i 0
def mixW (ks : List UInt32) (ws : List UInt32) (bs : List UInt8) : List UInt32 := addUp ws (rounds ks (sched bs) 64 0 (s8 ws)).list 8
end Go.Proofs.Ytmkjhdiepkpdoaa

namespace Go.Proofs.Ytmkjhdiepkpdoaa
open Go.RowKit Go.Shelf
set_option linter.unusedVariables false
set_option linter.unusedSimpArgs false
section
variable {P : Program} {n : Nat} {l : List (Nat × Value)} {w : World} {t t' : TypeId} {x y : Operand}
theorem x_and64 {p q : UInt64} (hx : ov l x = some (encD p)) (hy : ov l y = some (encD q)) : Runs P n l w (.binOp .and t x y t') (encD (p &&& q)) :=
 x_bin hx hy (b_int fun W => by
  show Result.ok (Value.int .u64 (IntKind.u64.wrap ((BitVec.ofInt 64 (p.toNat : Int) &&& BitVec.ofInt 64 (q.toNat : Int)).toNat : Int))) W = _
  rw [bv64, bv64, ← UInt64.toBitVec_and, wrap_u64, encD]
  have := (p &&& q).toNat_lt
  congr 2
  show ((p &&& q).toNat : Int) % 18446744073709551616 = _
  omega)
theorem x_shr64 {p : UInt64} {k : IntKind} {q : Int} (m : Nat) (hq : q = (m : Int)) (hm : m < 64) (hx : ov l x = some (encD p)) (hy : ov l y = some (.int k q)) : Runs P n l w (.binOp .shr t x y t') (encD (p >>> UInt64.ofNat m)) :=
 x_bin hx hy (b_sh fun W => by
  subst hq
  have hmin : min m 64 = m := by omega
  simp only [binOp, Op.shift, show ¬ ((m : Int) < 0) from by omega, if_false, Int.toNat_natCast, IntKind.bits, hmin, encD]
  show Result.ok (Value.int .u64 _) W = _
  congr 2
  rw [UInt64.toNat_shiftRight, UInt64.toNat_ofNat', Nat.mod_eq_of_lt (show m < 2 ^ 64 by omega), Nat.mod_eq_of_lt hm, Nat.shiftRight_eq_div_pow, Int.fdiv_eq_ediv_of_nonneg _ (by exact_mod_cast Nat.zero_le _)]
  norm_cast)
theorem x_i2d {s d : TypeId} {ds : TypeDesc} {m : Nat} (hs : P.underlying s = some ds) (hd : P.underlying d = some (.int .u64)) (hx : ov l x = some (.int .i64 (m : Int))) : Runs P n l w (.convert s d x) (encD (UInt64.ofNat m)) :=
 x_conv hx (by
  unfold encD
  rw [run_conv_int hs hd, nat64])
theorem x_add8 {p q : UInt8} (hx : ov l x = some (encB p)) (hy : ov l y = some (encB q)) : Runs P n l w (.binOp .add t x y t') (encB (p + q)) :=
 x_bin hx hy (b_int fun W => by
  show Result.ok (Value.int .u8 (IntKind.u8.wrap ((p.toNat : Int) + (q.toNat : Int)))) W = _
  rw [show (p.toNat : Int) + (q.toNat : Int) = ((p.toNat + q.toNat : Nat) : Int) from by simp, nat8, encB]
  congr 4)
theorem x_or8 {p q : UInt8} (hx : ov l x = some (encB p)) (hy : ov l y = some (encB q)) : Runs P n l w (.binOp .or t x y t') (encB (p ||| q)) :=
 x_bin hx hy (b_int fun W => by
  show Result.ok (Value.int .u8 (IntKind.u8.wrap ((BitVec.ofInt 8 (p.toNat : Int) ||| BitVec.ofInt 8 (q.toNat : Int)).toNat : Int))) W = _
  rw [bv8, bv8, ← UInt8.toBitVec_or, wrap_u8, encB]
  have := (p ||| q).toNat_lt
  congr 2
  show ((p ||| q).toNat : Int) % 256 = _
  omega)
end
/-! ### Slices -/
section
variable {P : Program} {w : World}
/-- The slice v reads as the bytes bs; they don't lie in block ex. -/
def RB (ex : Nat) (W : World) (v : Value) (bs : List UInt8) : Prop :=
 (∃ a c, v = .slice a 0 c ∧ bs = [] ∧ (a = none → c = 0)) ∨
 ∃ b off cap, v = .slice (some ⟨b, off, none⟩) bs.length cap ∧ bs.length ≤ cap ∧ b ≠ ex ∧ b < W.heap.size ∧ ∀ j u, bs[j]? = some u → W.cell? ⟨b, off + j, none⟩ = some (encB u)
theorem RB.form {ex : Nat} {W : World} {v : Value} {bs : List UInt8} (h : RB ex W v bs) : ∃ a c, v = .slice a bs.length c ∧ bs.length ≤ c ∧ (a = none → c = 0) := by
 rcases h with ⟨a, c, rfl, rfl, h⟩ | ⟨b, off, cap, rfl, h, _⟩
 ·
  exact ⟨a, c, rfl, Nat.zero_le _, h⟩
 ·
  exact ⟨_, cap, rfl, h, by simp⟩
theorem RB.below {ex : Nat} {W W' : World} {v : Value} {bs : List UInt8} (h : RB ex W v bs) (hB : Below W.heap.size W W') : RB ex W' v bs := by
 rcases h with h | ⟨b, off, cap, rfl, h1, hx, hl, h2⟩
 ·
  exact .inl h
 ·
  exact .inr ⟨b, off, cap, rfl, h1, hx, Nat.lt_of_lt_of_le hl hB.size, fun j u hj => (hB.cell (p := ⟨b, off + j, none⟩) hl).trans (h2 j u hj)⟩
theorem RB.only {ex : Nat} {W W' : World} {v : Value} {bs : List UInt8} (h : RB ex W v bs) (ho : Only ex W W') : RB ex W' v bs := by
 rcases h with h | ⟨b, off, cap, rfl, h1, hx, hl, h2⟩
 ·
  exact .inl h
 ·
  exact .inr ⟨b, off, cap, rfl, h1, hx, by rw [ho.size]; exact hl, fun j u hj => (World.cell?_of_block (w := W) (a := ⟨b, off + j, none⟩) (ho.block b hx)).trans (h2 j u hj)⟩
/-- It lies apart from a younger block. -/
theorem RB.young {ex ex' : Nat} {W : World} {v : Value} {bs : List UInt8} (h : RB ex W v bs) (he : W.heap.size ≤ ex') : RB ex' W v bs := by
 rcases h with h | ⟨b, off, cap, rfl, h1, hx, hl, h2⟩
 ·
  exact .inl h
 ·
  exact .inr ⟨b, off, cap, rfl, h1, by omega, hl, h2⟩
/-- All of it behind its first k. -/
theorem RB.from {ex : Nat} {W : World} {a : Option Addr} {N c : Nat} {bs : List UInt8} (h : RB ex W (.slice a N c) bs) {k : Nat} (hk : k ≤ bs.length) : RB ex W (.slice (if c = k then a else a.map (·.add k)) (N - k) (c - k)) (bs.drop k) := by
 rcases h with ⟨a', c', e, rfl, h⟩ | ⟨b, off, cap, e, h1, hx, hl, h2⟩
 ·
  cases e
  obtain rfl : k = 0 := by simpa using hk
  refine .inl ⟨_, _, rfl, by simp, ?_⟩
  intro h0
  have : a = none := by
   split at h0
   ·
    exact h0
   ·
    cases a <;> simp at h0 ⊢
  have := h this
  omega
 ·
  cases e
  by_cases hc : c = k
  ·
   have : bs.length = k := by omega
   refine .inl ⟨some ⟨b, off, none⟩, c - k, ?_, by rw [← this]; simp, by simp⟩
   simp [hc, this]
  ·
   refine .inr ⟨b, off + k, c - k, ?_, by simp; omega, hx, hl, fun j u hj => ?_⟩
   ·
    simp [hc, addr_addn]
   ·
    rw [List.getElem?_drop] at hj
    rw [Nat.add_assoc]
    exact h2 _ u hj
theorem RB.blk {ex : Nat} {W : World} {b t : Nat} {bs : List UInt8} (h : Blk W b t (bs.map encB)) (hx : b ≠ ex) : RB ex W (.slice (some ⟨b, 0, none⟩) bs.length bs.length) bs :=
 .inr ⟨b, 0, bs.length, rfl, Nat.le_refl _, hx, h.lt, fun j u hj => by rw [Nat.zero_add]; exact h.cell (by rw [List.getElem?_map, hj]; rfl)⟩
end
section
variable {P : Program} {n d : Nat} {l : List (Nat × Value)} {w : World} {a : Act} {ops : Array Oper} {Q : Exit → Act → World → Prop} {rest : List Oper} {ty : TypeId} {pos : String} {af : Array Edge}
end
end Go.Proofs.Ytmkjhdiepkpdoaa

namespace Go.Proofs.Ytmkjhdiepkpdoaa
open Go.RowKit Go.Shelf
set_option linter.unusedVariables false
set_option linter.unusedSimpArgs false
section
variable {P : Program} {n : Nat} {l : List (Nat × Value)} {w : World} {t t' : TypeId} {x y : Operand}
theorem x_not {b : Bool} (hx : ov l x = some (.bool b)) : Runs P n l w (.unOp .not t x) (.bool (!b)) := x_un hx (by simp [Op.unary])
theorem x_ext {vs : Array Value} {i : Nat} {v : Value} (hx : ov l x = some (.tuple vs)) (hv : vs[i]? = some v) : Runs P n l w (.extract x i) v :=
 fun ds a hF o ho => by simp [execOp, ho, hF.ov hx, Instr.extract, hv]
theorem x_lenS {ty : TypeId} {s : ByteArray} (ht : P.underlying ty = some .string) (hx : ov l x = some (.string s)) : Runs P n l w (.call { callee := .builtin .len, args := #[x], argTypes := #[ty] }) (.int .i64 (s.size : Int)) :=
 fun ds a hF o ho => by
  simp [execOp, ho, resolve, invoke, builtin, hF.ov hx]
  go_simp
theorem x_eqS {p q : ByteArray} {b : Bool} (h : decide (p = q) = b) (hx : ov l x = some (.string p)) (hy : ov l y = some (.string q)) : Runs P n l w (.binOp .eql t x y t') (.bool b) :=
 x_bin hx hy fun W => ⟨by simp [eqGuard], by
  subst h
  simp [binOp, Op.stringOp]
  rw [Bool.eq_iff_iff]
  simp only [beq_iff_eq, decide_eq_true_eq]
  constructor
  ·
   intro h
   rw [ByteArray.toList_eq, ByteArray.toList_eq] at h
   exact ByteArray.ext (Array.ext' h)
  ·
   rintro rfl
   rfl⟩
/-- Of an array's elements from the kth on. -/
def eqFrom (P : Program) (d e : Nat) (xs ys : Array Value) : List Nat → Sem Bool
 | [] => pure true
 | i :: is => do
  let a ← part e xs i
  let b ← part e ys i
  let r ← Op.equalIn d e a b
  if (!r) = true then pure false else eqFrom P d e xs ys is
/-- string(b). -/
theorem x_str {ex s d e : Nat} {v : Value} {bs : List UInt8} (hs : P.underlying s = some (.slice e)) (he : P.underlying e = some (.int .u8)) (hd : P.underlying d = some .string) (hR : RB ex w v bs) (hx : ov l x = some v) : Runs P n l w (.convert s d x) (.string ⟨bs.toArray⟩) :=
 x_conv hx (by
  rcases hR with ⟨a, c, rfl, rfl, h⟩ | ⟨b, off, cap, rfl, h1, _, _, h2⟩
  ·
   rw [run_convert_bytes_string w s d e a 0 c hs he hd]
   cases a <;> simp [Conv.bytesToString, loadCells] <;> rfl
  ·
   refine run_convert_bytes_back w s d e ⟨b, off, none⟩ cap bs hs he hd fun j hj => ?_
   rw [addr_addn]
   exact h2 j _ (List.getElem?_eq_getElem hj))
end
section
variable {P : Program} {n d : Nat} {l : List (Nat × Value)} {w : World} {a : Act} {ops : Array Oper} {Q : Exit → Act → World → Prop} {rest : List Oper} {ty : TypeId} {pos : String} {af : Array Edge}
end
end Go.Proofs.Ytmkjhdiepkpdoaa

namespace Go.Proofs.Ytmkjhdiepkpdoaa
open Go.RowKit Go.Shelf
set_option linter.unusedVariables false
set_option linter.unusedSimpArgs false
/-- The slice v has n elements of k cells each; they read as cs. -/
def Rd (W : World) (v : Value) (k n : Nat) (cs : List Value) : Prop :=
 cs.length = n * k ∧ ((∃ a c, v = .slice a 0 c ∧ n = 0 ∧ (a = none → c = 0)) ∨
 ∃ b off cap, v = .slice (some ⟨b, off, none⟩) n cap ∧ n ≤ cap ∧ b < W.heap.size ∧ ∀ j u, cs[j]? = some u → W.cell? ⟨b, off + j, none⟩ = some u)
section
variable {W W' : World} {v : Value} {k n : Nat} {cs : List Value}
theorem Rd.nil (W : World) (k : Nat) : Rd W (.slice none 0 0) k 0 [] := ⟨by simp, .inl ⟨_, _, rfl, rfl, fun _ => rfl⟩⟩
theorem Rd.form (h : Rd W v k n cs) : ∃ a c, v = .slice a n c ∧ n ≤ c ∧ (a = none → c = 0) := by
 rcases h.2 with ⟨a, c, rfl, rfl, h0⟩ | ⟨b, off, cap, rfl, h0, _⟩
 ·
  exact ⟨a, c, rfl, Nat.zero_le _, h0⟩
 ·
  exact ⟨_, cap, rfl, h0, by simp⟩
theorem Rd.keep (h : Rd W v k n cs) (hs : W.heap.size ≤ W'.heap.size) (hk : ∀ b, v.ownBlock = some b → b < W.heap.size → W'.heap[b]? = W.heap[b]?) : Rd W' v k n cs := by
 refine ⟨h.1, ?_⟩
 rcases h.2 with h | ⟨b, off, cap, rfl, h1, hl, h2⟩
 ·
  exact .inl h
 ·
  exact .inr ⟨b, off, cap, rfl, h1, Nat.lt_of_lt_of_le hl hs, fun j u hj => (World.cell?_of_block (w := W) (a := ⟨b, off + j, none⟩) (hk b rfl hl)).trans (h2 j u hj)⟩
theorem Rd.below (h : Rd W v k n cs) (hB : Below W.heap.size W W') : Rd W' v k n cs := h.keep hB.size fun b _ hb => hB.block b hb
theorem Rd.upto {a : Option Addr} {N c : Nat} (h : Rd W (.slice a N c) k n cs) (m : Nat) (hm : m ≤ n) : Rd W (.slice a m c) k m (cs.take (m * k)) := by
 have hl : (cs.take (m * k)).length = m * k := by
  rw [List.length_take, h.1]
  exact Nat.min_eq_left (Nat.mul_le_mul_right k hm)
 refine ⟨hl, ?_⟩
 rcases h.2 with ⟨a', c', e, rfl, h0⟩ | ⟨b, off, cap, e, h1, hl, h2⟩
 ·
  cases e
  exact .inl ⟨_, _, by rw [Nat.le_zero.1 hm], Nat.le_zero.1 hm, h0⟩
 ·
  cases e
  refine .inr ⟨b, off, c, rfl, by omega, hl, fun j u hj => h2 j u ?_⟩
  rw [List.getElem?_take] at hj
  split at hj
  ·
   exact hj
  ·
   cases hj
theorem Rd.from {a : Option Addr} {N c : Nat} (h : Rd W (.slice a N c) k n cs) (m : Nat) (hm : m ≤ n) : Rd W (.slice (if c = m then a else a.map (·.add (m * k))) (N - m) (c - m)) k (n - m) (cs.drop (m * k)) := by
 refine ⟨by rw [List.length_drop, h.1, Nat.sub_mul], ?_⟩
 rcases h.2 with ⟨a', c', e, rfl, h0⟩ | ⟨b, off, cap, e, h1, hl, h2⟩
 ·
  cases e
  obtain rfl : m = 0 := Nat.le_zero.1 hm
  refine .inl ⟨_, _, rfl, rfl, ?_⟩
  intro hn
  have : a = none := by
   split at hn
   ·
    exact hn
   ·
    cases a <;> simp at hn ⊢
  have := h0 this
  omega
 ·
  cases e
  by_cases hc : c = m
  ·
   refine .inl ⟨some ⟨b, off, none⟩, c - m, ?_, by omega, by simp⟩
   rw [if_pos hc]
   congr 1
   omega
  ·
   refine .inr ⟨b, off + m * k, c - m, ?_, by omega, hl, fun j u hj => ?_⟩
   ·
    rw [if_neg hc]
    simp [addr_addn]
   ·
    rw [List.getElem?_drop] at hj
    have := h2 _ u hj
    rwa [Nat.add_assoc]
theorem Rd.cell {b off N c : Nat} (h : Rd W (.slice (some ⟨b, off, none⟩) N c) k n cs) {j : Nat} {u : Value} (hj : cs[j]? = some u) : W.cell? ⟨b, off + j, none⟩ = some u := by
 rcases h.2 with ⟨a', c', e, rfl, h0⟩ | ⟨b', off', cap, e, h1, hl, h2⟩
 ·
  obtain rfl : cs = [] := List.eq_nil_of_length_eq_zero (by simpa using h.1)
  simp at hj
 ·
  cases e
  exact h2 j u hj
theorem Rd.some (h : Rd W v k n cs) (hn : 0 < n) : ∃ b off c, v = .slice (some ⟨b, off, none⟩) n c ∧ b < W.heap.size := by
 rcases h.2 with ⟨a', c', e, rfl, h0⟩ | ⟨b', off', cap, e, h1, hl, h2⟩
 ·
  omega
 ·
  exact ⟨b', off', cap, e, hl⟩
theorem Rd.blk {b e : Nat} (hB : Blk W b e cs) (hl : cs.length = n * k) : Rd W (.slice (Option.some ⟨b, 0, none⟩) n n) k n cs :=
 ⟨hl, .inr ⟨b, 0, n, rfl, Nat.le_refl _, hB.lt, fun j u hj => by rw [Nat.zero_add]; exact hB.cell hj⟩⟩
theorem Rd.own {base e : Nat} (h : W.ownsRow base e k v n cs) : Rd W v k n cs := by
 have hh := h
 refine ⟨h.1, ?_⟩
 rcases h.2 with ⟨rfl, h0⟩ | ⟨g, cap, cur, rfl, hg, hb, h1, h2, h3, h4⟩
 ·
  exact .inl ⟨_, _, rfl, h0, fun _ => rfl⟩
 ·
  refine .inr ⟨g, 0, cap, rfl, h1, (Array.getElem?_eq_some_iff.1 hb).1, fun j u hj => ?_⟩
  have := hh.cells (g := g) rfl j u hj
  rwa [addr_addn] at this
theorem Rd.lt (h : Rd W v k n cs) (hn : 0 < n) {b : Nat} (hb : v.ownBlock = Option.some b) : b < W.heap.size := by
 obtain ⟨b', off, c, rfl, hl⟩ := h.some hn
 cases hb
 exact hl
/-- Bytes. -/
theorem Rd.rb {ex : Nat} {bs : List UInt8} (h : Rd W v 1 bs.length (bs.map encB)) (hx : v.ownBlock ≠ Option.some ex) : RB ex W v bs := by
 rcases h.2 with ⟨a, c, rfl, h0, hn⟩ | ⟨b, off, cap, rfl, h1, hl, h2⟩
 ·
  exact .inl ⟨_, _, rfl, List.eq_nil_of_length_eq_zero h0, hn⟩
 ·
  exact .inr ⟨b, off, cap, rfl, h1, fun e => hx (by rw [e]; rfl), hl, fun j u hj => h2 j _ (by rw [List.getElem?_map, hj]; rfl)⟩
theorem RB.rd {ex : Nat} {bs : List UInt8} (h : RB ex W v bs) : Rd W v 1 bs.length (bs.map encB) := by
 refine ⟨by simp, ?_⟩
 rcases h with ⟨a, c, rfl, rfl, h⟩ | ⟨b, off, cap, rfl, h1, hx, hl, h2⟩
 ·
  exact .inl ⟨a, c, rfl, rfl, h⟩
 ·
  refine .inr ⟨b, off, cap, rfl, h1, hl, fun j u hj => ?_⟩
  simp only [List.getElem?_map, Option.map_eq_some_iff] at hj
  obtain ⟨c, hc, rfl⟩ := hj
  exact h2 j c hc
end
/-- A slice of slices of bytes. -/
def RM (W : World) (v : Value) (ls : List (List UInt8)) : Prop := ∃ vals, Rd W v 1 ls.length vals ∧ ∀ (i : Nat) u l, vals[i]? = some u → ls[i]? = some l → RB W.heap.size W u l
section
variable {W W' : World} {v : Value} {ls : List (List UInt8)}
theorem RM.nil (W : World) : RM W (.slice none 0 0) [] := ⟨[], Rd.nil W 1, fun i v l h => by simp at h⟩
theorem RM.form (h : RM W v ls) : ∃ a c, v = .slice a ls.length c ∧ ls.length ≤ c := by
 obtain ⟨vals, hv, _⟩ := h
 obtain ⟨a, c, h1, h2, _⟩ := hv.form
 exact ⟨a, c, h1, h2⟩
theorem RM.below (h : RM W v ls) (hB : Below W.heap.size W W') : RM W' v ls := by
 obtain ⟨vals, hv, hr⟩ := h
 exact ⟨vals, hv.below hB, fun i u l h1 h2 => ((hr i u l h1 h2).below hB).young (ex' := W'.heap.size) (Nat.le_refl _)⟩
theorem RM.row (h : RM W v ls) {i : Nat} (hi : i < ls.length) :
    ∃ b off c u, v = .slice (some ⟨b, off, none⟩) ls.length c ∧ ∀ W', Below W.heap.size W W' → W'.cell? ⟨b, off + i, none⟩ = some u ∧ ∀ ex, W.heap.size ≤ ex → RB ex W' u (ls.getD i []) := by
  obtain ⟨vals, hv, hr⟩ := h
  obtain ⟨b, off, c, rfl, hb⟩ := hv.some (by omega)
  have hl := hv.1
  obtain ⟨u, hu⟩ : ∃ u, vals[i]? = some u := ⟨_, List.getElem?_eq_getElem (by omega)⟩
  exact ⟨b, off, c, u, rfl, fun W' hB => ⟨(hB.cell (p := ⟨b, off + i, none⟩) hb).trans (hv.cell hu), fun ex hx => ((hr i u _ hu (getD_get ls i [] hi)).young hx).below hB⟩⟩
theorem RM.upto {a : Option Addr} {N c : Nat} (h : RM W (.slice a N c) ls) (m : Nat) (hm : m ≤ ls.length) : RM W (.slice a m c) (ls.take m) := by
 obtain ⟨vals, hv, hr⟩ := h
 refine ⟨vals.take m, ?_, fun i u l h1 h2 => ?_⟩
 ·
  have := hv.upto m hm
  rw [Nat.mul_one] at this
  rwa [show (ls.take m).length = m by rw [List.length_take]; omega]
 ·
  rw [List.getElem?_take] at h1 h2
  split at h1
  ·
   next hi => rw [if_pos hi] at h2; exact hr i u l h1 h2
  ·
   cases h1
theorem RM.from {a : Option Addr} {N c : Nat} (h : RM W (.slice a N c) ls) (m : Nat) (hm : m ≤ ls.length) : RM W (.slice (if c = m then a else a.map (·.add (m * 1))) (N - m) (c - m)) (ls.drop m) := by
 obtain ⟨vals, hv, hr⟩ := h
 refine ⟨vals.drop m, ?_, fun i u l h1 h2 => ?_⟩
 ·
  have := hv.from m hm
  rw [List.length_drop]
  simpa only [Nat.mul_one] using this
 ·
  rw [List.getElem?_drop] at h1 h2
  exact hr _ u l h1 h2
end
/-! ### Addresses -/
section
variable {P : Program} {w : World}
theorem m_ixsK {t : TypeId} {e k : Nat} {b o n c : Nat} {ik : IntKind} {i : Int} (j : Nat) (hu : P.underlying t = some (.slice e)) (he : (P.info? e).map (·.size) = some k) (hi : i = (j : Int)) (hj : j < n) :
    (Instr.indexAt t (.slice (some ⟨b, o, none⟩) n c) (.int ik i)).run P w = .ok (.pointer (some ⟨b, o + j * k, none⟩)) w := by
  subst hi
  simp [Instr.indexAt, asIntOf, run_underlying hu, run_sizeOf_of he, addr_addn, hj]
theorem m_sliceUK {t : TypeId} {e k : Nat} {a : Option Addr} {N c : Nat} {ik : IntKind} {i : Int} (j : Nat) (hu : P.underlying t = some (.slice e)) (he : (P.info? e).map (·.size) = some k) (hi : i = (j : Int)) (hj : j ≤ c) :
    (Instr.sliceAt t (.slice a N c) none (some (.int ik i)) none).run P w = .ok (.slice a j c) w := by
  subst hi
  have h1 : (j : Int) ≤ (c : Int) := by omega
  cases a <;> simp [Instr.sliceAt, Instr.slice, run_underlying hu, Instr.sliceBounds, Instr.sliceBound, asIntOf, h1, run_sizeOf_of he, Addr.add] <;> (intro hh; omega)
end
/-! ### An element's type -/
/-- t is a slice of e; an element has k cells and kb bytes. -/
structure Elem (P : Program) (t e k kb : Nat) : Prop where
 under : P.underlying t = some (.slice e)
 info : ∃ i z, P.info? e = some i ∧ i.zero = some z ∧ i.size = k ∧ i.bytes = kb ∧ z.cells.size = k
 pos : 0 < k
def elemB (P : Program) (t e k kb : Nat) : Bool :=
 (match P.underlying t with | some (.slice e') => Nat.beq e' e | _ => false) && (match P.info? e with | some i => Nat.beq i.size k && Nat.beq i.bytes kb && (match i.zero with | some z => Nat.beq z.cells.size k | none => false) | none => false) && Nat.ble 1 k
theorem elem_of {P : Program} {t e k kb : Nat} (h : elemB P t e k kb = true) : Elem P t e k kb := by
 simp only [elemB, Bool.and_eq_true] at h
 obtain ⟨⟨h1, h2⟩, h3⟩ := h
 refine ⟨?_, ?_, Nat.le_of_ble_eq_true h3⟩
 ·
  split at h1
  ·
   next e' he => rw [he, Nat.eq_of_beq_eq_true h1]
  ·
   cases h1
 ·
  split at h2
  ·
   next i hi =>
   simp only [Bool.and_eq_true] at h2
   obtain ⟨⟨h4, h5⟩, h6⟩ := h2
   split at h6
   ·
    next z hz => exact ⟨i, z, hi, hz, Nat.eq_of_beq_eq_true h4, Nat.eq_of_beq_eq_true h5, Nat.eq_of_beq_eq_true h6⟩
   ·
    cases h6
  ·
   cases h2
theorem Elem.size {P : Program} {t e k kb : Nat} (h : Elem P t e k kb) : (P.info? e).map (·.size) = some k := by
 obtain ⟨i, z, h1, _, h2, _⟩ := h.info
 rw [h1, ← h2]
 rfl
/-- Behind an append the slice lies where it lay, or in a new block. -/
theorem append_whereG {P : Program} (w : World) (base : Nat) (t ty e : TypeId) (i : TypeInfo) (z : Value) (ht : P.underlying t = some (.slice e)) (hi : P.info? e = some i) (hz : i.zero = some z)
    (v : Value) (n : Nat) (xs : List Value) (hown : w.ownsRow base e i.size v n xs)
    (a : Addr) (m c : Nat) (news : List Value) (hl : news.length = m * i.size) (hnews : ∀ j u, news[j]? = some u → w.cell? (a.add j) = some u) (h1 : ∀ u ∈ news, u.oneCell' = true)
    (h63 : n + m ≤ maxLen) (hbytes : (n + m) * i.bytes ≤ 140737488355328) {v' : Value} {w' : World} (hr : (Builtin.append_ #[t, t] ty #[v, .slice (some a) m c]).run P w = .ok v' w') (hnil : v' = .slice none 0 0 ↔ v = .slice none 0 0 ∧ m = 0) :
    ∀ k, v'.ownBlock = some k → v.ownBlock = some k ∨ w.heap.size ≤ k := by
  have hsmall : n + m ≤ 9223372036854775807 := by simp only [maxLen] at h63; omega
  rcases hown.2 with ⟨rfl, rfl⟩ | ⟨g, cap, cur, rfl, _⟩
  · rcases Nat.eq_zero_or_pos m with hm | hm
    · have := hnil.2 ⟨rfl, hm⟩
      subst this
      intro k hk
      cases hk
    · have h2 := run_append_nil (P := P) w t ty e i z ht hi hz a m c news hl hnews hm (by omega) (by simp only [Nat.zero_add] at hbytes; omega)
      rw [hr] at h2
      simp only [Result.ok.injEq] at h2
      intro k hk
      rw [h2.1] at hk
      cases hk
      exact .inr (Nat.le_refl _)
  · by_cases hroom : n + m ≤ cap
    · obtain ⟨w2, h2, _⟩ := run_append_fits (P := P) w base t ty e i i.size ht hi rfl g n cap xs hown a m c news hl hnews h1 hroom
      rw [hr] at h2
      simp only [Result.ok.injEq] at h2
      intro k hk
      rw [h2.1] at hk
      exact .inl hk
    · have h2 := run_append_grow (P := P) w t ty e i z ht hi hz ⟨g, 0, none⟩ n cap xs hown.1 (hown.cells (g := g) rfl) a m c news hl hnews (by omega) (by omega) (growslice_fits (by omega) hbytes)
      rw [hr] at h2
      simp only [Result.ok.injEq] at h2
      intro k hk
      rw [h2.1] at hk
      cases hk
      exact .inr (Nat.le_refl _)
theorem own_below {base e k n : Nat} {v : Value} {xs : List Value} {w w' : World} (h : w.ownsRow base e k v n xs) (hB : Below w.heap.size w w') : w'.ownsRow base e k v n xs := by
 refine ⟨h.1, ?_⟩
 rcases h.2 with h0 | ⟨g, cap, cur, rfl, hg, hb, h1⟩
 ·
  exact .inl h0
 ·
  exact .inr ⟨g, cap, cur, rfl, hg, (hB.block g (Array.getElem?_eq_some_iff.1 hb).1).trans hb, h1⟩
theorem own_keep {base e k n : Nat} {v : Value} {xs : List Value} {w w' : World} (h : w.ownsRow base e k v n xs) (hk : ∀ j, v.ownBlock = some j → w'.heap[j]? = w.heap[j]?) : w'.ownsRow base e k v n xs := by
 refine ⟨h.1, ?_⟩
 rcases h.2 with h0 | ⟨g, cap, cur, rfl, hg, hb, h1⟩
 ·
  exact .inl h0
 ·
  exact .inr ⟨g, cap, cur, rfl, hg, (hk g rfl).trans hb, h1⟩
section
variable {P : Program} {n d : Nat} {l : List (Nat × Value)} {w : World} {a : Act} {ops : Array Oper} {Q : Exit → Act → World → Prop} {rest : List Oper} {ty : TypeId} {pos : String} {af : Array Edge} {x y : Operand} {v u : Value} {base t e k kb m p : Nat} {xs ys : List Value}
/-- An append to a slice that the call owns. -/
theorem s_appG {ds : List Deferred} (hE : Elem P t e k kb) (hF : Fs n a l (ds := ds)) (hd : d < n) (hx : ov l x = some v) (hy : ov l y = some u) (hO : w.ownsRow base e k v m xs) (hR : Rd w u k p ys) (h1 : ∀ u ∈ ys, u.oneCell' = true) (hlen : (m + p) * kb ≤ 140737488355328) (hml : m + p ≤ maxLen) (hb : base ≤ w.heap.size)
    (h : ∀ v' w' a', w'.ownsRow base e k v' (m + p) (xs ++ ys) → w.grownBy w' v.ownBlock → (∀ j, v'.ownBlock = some j → v.ownBlock = some j ∨ w.heap.size ≤ j) → Fs n a' ((d, v') :: l) (ds := ds) → wpList P ops Q rest a' w') :
    wpList P ops Q (⟨some d, .call { callee := .builtin .append, args := #[x, y], argTypes := #[t, t] }, ty, pos, af, none⟩ :: rest) a w := by
  obtain ⟨i, z, hi, hz, hs, hby, hzc⟩ := hE.info
  have ht := hE.under
  have key : ∀ (ad : Addr) (q c : Nat), u = .slice (some ad) q c → q = p → (∀ j u, ys[j]? = some u → w.cell? (ad.add j) = some u) → wpList P ops Q (⟨some d, .call { callee := .builtin .append, args := #[x, y], argTypes := #[t, t] }, ty, pos, af, none⟩ :: rest) a w := by
    rintro ad q c rfl rfl hsrc
    have hO' : w.ownsRow base e i.size v m xs := by rw [hs]; exact hO
    obtain ⟨v', w', hr, h2, h3, h4⟩ := run_append_own (P := P) w base t ty e i z k kb ht hi hz hs hby hzc hE.pos v m xs hO ad q c ys hR.1 hsrc h1 hml hlen hb
    have hw := append_whereG w base t ty e i z ht hi hz v m xs hO' ad q c ys (by rw [hs]; exact hR.1) hsrc h1 hml (by rw [hby]; exact hlen) hr h4
    unfold wpList
    rw [if_pos (wanted_none _ rfl _)]
    refine .inl ?_
    unfold Oper.wp
    rw [show (execOp a.eval ⟨some d, .call { callee := .builtin .append, args := #[x, y], argTypes := #[t, t] }, ty, pos, af, none⟩).run P w = .ok (.value v') w' from by simp [execOp, resolve, invoke, builtin, hF.ov hx, hF.ov hy, hr]]
    exact h v' w' _ h2 h3 hw (hF.put d hd v')
  have hR' := hR
  rcases hR.2 with ⟨ad, c, rfl, rfl, hn⟩ | ⟨b, off, cap, rfl, h2, hl, h3⟩
  · obtain rfl : ys = [] := List.eq_nil_of_length_eq_zero (by simpa using hR.1)
    cases ad with
    | none =>
      have := hn rfl
      subst this
      refine wpList_append_own_none rfl x y t rfl base e i k ht hi v m xs (hF.ov hx) hO (hF.ov hy) ?_
      exact h v w _ (by simpa using hO) ⟨rfl, rfl, rfl, Nat.le_refl _, fun _ _ _ => rfl⟩ (fun k hk => .inl hk) (hF.put d hd v)
    | some ad => exact key ad 0 c rfl rfl (fun j u hj => by simp at hj)
  · refine key ⟨b, off, none⟩ p cap rfl rfl fun j u hj => ?_
    rw [addr_addn]
    exact h3 j u hj
/-- A slice literal. -/
theorem s_litG {ds : List Deferred} {len : Nat} {parts : List (Nat × Operand)} (vs : List Value) (hE : Elem P t e k kb) (hF : Fs n a l (ds := ds)) (hd : d < n) (hx : parts.map (fun p => (p.1, ov l p.2)) = (vs.zipIdx 0).map (fun p => (p.2, some p.1))) (hv : ∀ v ∈ vs, v.cells.size = k) (hl : len = vs.length) (hp : 0 < len) (hm : len * k ≤ 2 ^ 24)
    (h : ∀ w' b a', b = w.heap.size → Blk w' b e (vs.flatMap fun v => v.cells.toList) → Below w.heap.size w w' → w'.heap.size = w.heap.size + 1 → Fs n a' ((d, .slice (some ⟨b, 0, none⟩) len len) :: l) (ds := ds) → wpList P ops Q rest a' w') :
    wpList P ops Q (⟨some d, .buildSlice t len parts.toArray, ty, pos, af, none⟩ :: rest) a w := by
  obtain ⟨i, z, hi, hz, hs, hby, hzc⟩ := hE.info
  have hk := hE.pos
  have hpk : 0 < len * k := Nat.mul_pos hp hk
  refine s_new (w' := w.alloc (.cells (vs.flatMap fun v => v.cells.toList).toArray e)) (v := .slice (some ⟨w.heap.size, 0, none⟩) len len) hF (fun o ho => ?_) hd fun a' hF' => h _ _ a' rfl (blk_alloc e _) (below_alloc _) (size_alloc _) hF'
  have hv' : (parts.toArray.map fun (i, x) => (i, a.eval x)).toList = (vs.zipIdx 0).map fun x => (x.2, x.1) := by
    have := ov_parts hF parts ((vs.zipIdx 0).map fun x => (x.2, x.1)) (by rw [hx, List.map_map]; rfl)
    rw [← this]
    simp
  have := run_buildSlice (P := P) w t e len (parts.toArray.map fun (i, x) => (i, a.eval x)) (vs.flatMap fun v => v.cells.toList).toArray i z hE.under hi hz (by rw [hs]; omega) (by rw [hs]; omega) (by
    rw [hv', hs]
    exact Great.fill_whole hk vs _ hv (by rw [← hl]; simp))
  unfold execOp
  simp only [ho, Sem.run_bind, this, Result.andThen_ok]
  rfl
end
end Go.Proofs.Ytmkjhdiepkpdoaa

namespace Go.Proofs.Ytmkjhdiepkpdoaa
open Go.RowKit Go.Shelf
set_option linter.unusedVariables false
set_option linter.unusedSimpArgs false
section
variable {P : Program} {n d : Nat} {l : List (Nat × Value)} {w : World} {a : Act} {ops : Array Oper} {Q : Exit → Act → World → Prop} {rest : List Oper} {ty : TypeId} {pos : String} {af : Array Edge} {f : FuncId} {ts : Array TypeId} {v : Value}
/-- A call that tells v and makes memory at most. -/
theorem s_callB {ds : List Deferred} {xs : List Operand} (vals : List Value) (hF : Fs n a l (ds := ds)) (hent : Enters P f) (hargs : xs.map (ov l) = vals.map some) (hd : d < n) (hC : Calls P f vals.toArray w fun e w' => e = .returned v ∧ Below w.heap.size w w')
    (h : ∀ w' a', Below w.heap.size w w' → Fs n a' ((d, v) :: l) (ds := ds) → wpList P ops Q rest a' w') : wpList P ops Q (⟨some d, .call { callee := .value (.func f), args := xs.toArray, argTypes := ts }, ty, pos, af, none⟩ :: rest) a w :=
  s_call (R := fun u w' => u = v ∧ Below w.heap.size w w') hF vals hent hargs hd (hC.mono fun e w' he => ⟨v, he.1, rfl, he.2⟩) (by rintro _ w' a' ⟨rfl, B⟩ hF'; exact h w' a' B hF')
/-- One that leaves the world. -/
theorem s_callS {ds : List Deferred} {xs : List Operand} (vals : List Value) (hF : Fs n a l (ds := ds)) (hent : Enters P f) (hargs : xs.map (ov l) = vals.map some) (hd : d < n) (hC : Calls P f vals.toArray w fun e w' => e = .returned v ∧ w' = w)
    (h : ∀ a', Fs n a' ((d, v) :: l) (ds := ds) → wpList P ops Q rest a' w) : wpList P ops Q (⟨some d, .call { callee := .value (.func f), args := xs.toArray, argTypes := ts }, ty, pos, af, none⟩ :: rest) a w :=
  s_call (R := fun u w' => u = v ∧ w' = w) hF vals hent hargs hd (hC.mono fun e w' he => ⟨v, he.1, rfl, he.2⟩) (by rintro _ _ a' ⟨rfl, rfl⟩ hF'; exact h a' hF')
/-- One of whose answer R is known. -/
theorem s_callR {ds : List Deferred} {xs : List Operand} {R : Value → World → Prop} (vals : List Value) (hF : Fs n a l (ds := ds)) (hent : Enters P f) (hargs : xs.map (ov l) = vals.map some) (hd : d < n) (hC : Calls P f vals.toArray w fun e w' => ∃ v, e = .returned v ∧ R v w' ∧ Below w.heap.size w w')
    (h : ∀ v w' a', R v w' → Below w.heap.size w w' → Fs n a' ((d, v) :: l) (ds := ds) → wpList P ops Q rest a' w') : wpList P ops Q (⟨some d, .call { callee := .value (.func f), args := xs.toArray, argTypes := ts }, ty, pos, af, none⟩ :: rest) a w :=
  s_call (R := fun u w' => R u w' ∧ Below w.heap.size w w') hF vals hent hargs hd hC (by rintro v w' a' ⟨hR, B⟩ hF'; exact h v w' a' hR B hF')
end
/-- No old block but b has turned. -/
structure Kq (b : Nat) (w w' : World) : Prop where
 os : w'.os = w.os
 tape : w'.tape = w.tape
 output : w'.output = w.output
 size : w.heap.size ≤ w'.heap.size
 block : ∀ k, k < w.heap.size → k ≠ b → w'.heap[k]? = w.heap[k]?
section
variable {b : Nat} {w w' w'' : World}
theorem Kq.refl (b : Nat) (w : World) : Kq b w w := ⟨rfl, rfl, rfl, Nat.le_refl _, fun _ _ _ => rfl⟩
theorem Kq.below (h : Kq b w w') (B : Below w'.heap.size w' w'') : Kq b w w'' :=
 ⟨B.os.trans h.os, B.tape.trans h.tape, B.output.trans h.output, Nat.le_trans h.size B.size, fun k hk hb => (B.block k (Nat.lt_of_lt_of_le hk h.size)).trans (h.block k hk hb)⟩
theorem Kq.only {c : Nat} (h : Kq b w w') (o : Only c w' w'') (hc : c = b ∨ w.heap.size ≤ c) : Kq b w w'' :=
 ⟨o.os.trans h.os, o.tape.trans h.tape, o.output.trans h.output, by rw [o.size]; exact h.size, fun k hk hb => (o.block k (by omega)).trans (h.block k hk hb)⟩
/-- What was behind w0 stays, if b is younger. -/
theorem Kq.under {w0 : World} (h : Kq b w w') (h0 : Below w0.heap.size w0 w) (hb : w0.heap.size ≤ b) : Below w0.heap.size w0 w' :=
 h0.trans ⟨h.os, h.tape, h.output, h.size, fun k hk => h.block k (Nat.lt_of_lt_of_le hk h0.size) (by omega)⟩
end
section
variable {P : Program} {ops : Array Oper} {N : Nat} {a : Act} {w : World}
end
end Go.Proofs.Ytmkjhdiepkpdoaa

namespace Go.Proofs.Ytmkjhdiepkpdoaa
open Go.RowKit Go.Shelf
set_option linter.unusedVariables false
set_option linter.unusedSimpArgs false
/-- No old block but a and b has turned. -/
structure Ktw (a b : Nat) (w w' : World) : Prop where
 os : w'.os = w.os
 tape : w'.tape = w.tape
 output : w'.output = w.output
 size : w.heap.size ≤ w'.heap.size
 block : ∀ k, k < w.heap.size → k ≠ a ∧ k ≠ b → w'.heap[k]? = w.heap[k]?
section
variable {a b : Nat} {w w' w'' : World}
theorem Ktw.refl (a b : Nat) (w : World) : Ktw a b w w := ⟨rfl, rfl, rfl, Nat.le_refl _, fun _ _ _ => rfl⟩
theorem Ktw.of_below (h : Below w.heap.size w w') : Ktw a b w w' := ⟨h.os, h.tape, h.output, h.size, fun k hk _ => h.block k hk⟩
theorem Ktw.below (h : Ktw a b w w') (B : Below w'.heap.size w' w'') : Ktw a b w w'' :=
 ⟨B.os.trans h.os, B.tape.trans h.tape, B.output.trans h.output, Nat.le_trans h.size B.size, fun k hk hb => (B.block k (Nat.lt_of_lt_of_le hk h.size)).trans (h.block k hk hb)⟩
theorem Ktw.only {c : Nat} (h : Ktw a b w w') (o : Only c w' w'') (hc : c = a ∨ c = b ∨ w.heap.size ≤ c) : Ktw a b w w'' :=
 ⟨o.os.trans h.os, o.tape.trans h.tape, o.output.trans h.output, by rw [o.size]; exact h.size, fun k hk hb => (o.block k (by omega)).trans (h.block k hk hb)⟩
theorem Ktw.trans {c d : Nat} (h : Ktw a b w w') (h' : Ktw c d w' w'') (hc : (c = a ∨ c = b ∨ w.heap.size ≤ c) ∧ (d = a ∨ d = b ∨ w.heap.size ≤ d)) : Ktw a b w w'' :=
 ⟨h'.os.trans h.os, h'.tape.trans h.tape, h'.output.trans h.output, Nat.le_trans h.size h'.size, fun k hk hb => (h'.block k (Nat.lt_of_lt_of_le hk h.size) (by omega)).trans (h.block k hk hb)⟩
theorem Ktw.under {w0 : World} (h : Ktw a b w w') (h0 : Below w0.heap.size w0 w) (hb : w0.heap.size ≤ a ∧ w0.heap.size ≤ b) : Below w0.heap.size w0 w' :=
 h0.trans ⟨h.os, h.tape, h.output, h.size, fun k hk => h.block k (Nat.lt_of_lt_of_le hk h0.size) (by omega)⟩
theorem Blk.k2 {c t : Nat} {cs : List Value} (m : Blk w c t cs) (h : Ktw a b w w') (hb : c ≠ a ∧ c ≠ b) : Blk w' c t cs := (h.block c m.lt hb).trans m
theorem Rd.k2 {v : Value} {k n : Nat} {cs : List Value} (m : Rd w v k n cs) (h : Ktw a b w w') (hb : ∀ c, v.ownBlock = Option.some c → c ≠ a ∧ c ≠ b) : Rd w' v k n cs := m.keep h.size fun c hc hl => h.block c hl (hb c hc)
theorem own_k2 {base e k n : Nat} {v : Value} {xs : List Value} (m : w.ownsRow base e k v n xs) (h : Ktw a b w w') (hb : ∀ c, v.ownBlock = some c → c ≠ a ∧ c ≠ b) : w'.ownsRow base e k v n xs := own_keep m fun j hj => h.block j (m.lt j hj).2 (hb j hj)
theorem own_only {base e k n c : Nat} {v : Value} {xs : List Value} (m : w.ownsRow base e k v n xs) (h : Only c w w') (hb : v.ownBlock ≠ some c) : w'.ownsRow base e k v n xs := own_keep m fun j hj => h.block j (fun e => hb (by rw [hj, e]))
end
section
variable {P : Program} {ops : Array Oper} {N : Nat} {a : Act} {w : World}
theorem dk2_seq {id : Nat} {ops0 : Array Oper} {Q : Exit → Act → World → Prop} {y : Code} (b c : Nat) (ho : ops = ops0) (hm : P.follows .mixedOrders = true) (hN : ops.size = N)
    (h : ∀ wd, wd.heap = w.heap → Below w.heap.size w wd → Ktw b c wd wd → ∀ K : Act → World → Prop, (∀ a w, y.wp P Q a w → K a w) → wpAnyH P .any ops (QN K) (Ktw b c wd) N (lst N []) a wd) : (Code.seq (.region id ops0 true) y).wp P Q a w :=
  d_seq (Ktw b c w.drew) ho hm hN (h w.drew rfl (drawn_below w) (Ktw.refl b c _))
theorem dk2_one {id : Nat} {ops0 : Array Oper} {Q : Exit → Act → World → Prop} (b c : Nat) (ho : ops = ops0) (hm : P.follows .mixedOrders = true) (hN : ops.size = N)
    (h : ∀ wd, wd.heap = w.heap → Below w.heap.size w wd → Ktw b c wd wd → ∀ K : Act → World → Prop, (∀ a w, Q .normal a w → K a w) → wpAnyH P .any ops (QN K) (Ktw b c wd) N (lst N []) a wd) : (Code.region id ops0 true).wp P Q a w :=
  d_start (Ktw b c w.drew) ho hm hN (h w.drew rfl (drawn_below w) (Ktw.refl b c _))
end
/-- Field number f of t lies k cells on. -/
def fldB (P : Program) (t f k : Nat) : Bool :=
 match P.underlying t with
 | some (.struct fs) => match fs[f]? with
  | some fd => Nat.beq fd.offset k && (match (P.info? fd.type).map (·.size) with | some s => !(Nat.beq s 0) | none => false)
  | none => false
 | _ => false
section
variable {P : Program} {n d : Nat} {l : List (Nat × Value)} {w : World} {x y : Operand}
theorem x_fa {t f k : Nat} (h : fldB P t f k = true) {b o : Nat} (hx : ov l x = some (.pointer (some ⟨b, o, none⟩))) : Runs P n l w (.fieldAddr t x f) (.pointer (some ⟨b, o + k, none⟩)) := x_field hx (by
 unfold fldB at h
 split at h
 ·
  next fs hu =>
  split at h
  ·
   next fd hf =>
   simp only [Bool.and_eq_true] at h
   obtain ⟨h1, h2⟩ := h
   obtain rfl := Nat.eq_of_beq_eq_true h1
   split at h2
   ·
    next s hs =>
    refine m_field hu hf ?_ (by rw [hs]; rfl)
    rw [hs]
    cases s
    ·
     simp at h2
    ·
     rfl
   ·
    cases h2
  ·
   cases h
 ·
  cases h)
theorem x_fa0 {t f k : Nat} (h : fldB P t f k = true) {b : Nat} (hx : ov l x = some (.pointer (some ⟨b, 0, none⟩))) : Runs P n l w (.fieldAddr t x f) (.pointer (some ⟨b, k, none⟩)) := by
 have := x_fa (P := P) (n := n) (w := w) h hx
 rwa [Nat.zero_add] at this
theorem x_imax {ts : Array TypeId} {p q : Int} (hx : ov l x = some (.int .i64 p)) (hy : ov l y = some (.int .i64 q)) : Runs P n l w (.call { callee := .builtin .max, args := #[x, y], argTypes := ts }) (.int .i64 (max p q)) :=
 fun ds a hF o ho => by
  have e : (if q > p then q else p) = max p q := by split <;> omega
  simp [execOp, ho, resolve, invoke, builtin, hF.ov hx, hF.ov hy, Builtin.max_, Builtin.max2, e]
end
section
variable {P : Program} {n d : Nat} {l : List (Nat × Value)} {w : World} {a : Act} {ops : Array Oper} {Q : Exit → Act → World → Prop} {rest : List Oper} {ty : TypeId} {pos : String} {af : Array Edge}
/-- A variable of whatever type. -/
theorem s_alloc1 {ds : List Deferred} {t : TypeId} {z : Value} {zs : List Value} (hF : Fs n a l (ds := ds)) (hd : d < n) (hz : (P.info? t).bind (·.zero) = some z) (hc : z.cells = zs.toArray)
    (h : ∀ w' b a', b = w.heap.size → Blk w' b t zs → Below w.heap.size w w' → w'.heap.size = w.heap.size + 1 → Fs n a' ((d, .pointer (some ⟨b, 0, none⟩)) :: l) (ds := ds) → wpList P ops Q rest a' w') :
    wpList P ops Q (⟨some d, .alloc t, ty, pos, af, none⟩ :: rest) a w :=
  s_new hF (fun o ho => by simp [execOp, ho, m_alloc hz hc]) hd fun a' hF' => h _ _ a' rfl (blk_alloc t zs) (below_alloc _) (size_alloc _) hF'
end
/-! ### A slice that the call owns, and an append of one element -/
section
variable {P : Program} {n d : Nat} {l : List (Nat × Value)} {w : World} {a : Act} {ops : Array Oper} {Q : Exit → Act → World → Prop} {rest : List Oper} {ty : TypeId} {pos : String} {af : Array Edge} {x y : Operand} {v : Value} {base t e k kb m o : Nat} {xs ys : List Value}
end
theorem own_of {w : World} {base e k n o cap : Nat} {cur xs : List Value} (h1 : base ≤ o) (h2 : Blk w o e cur) (h3 : n ≤ cap) (h4 : cap ≤ maxLen) (h5 : cur.length = cap * k) (h6 : cur.take (n * k) = xs) : w.ownsRow base e k (.slice (some ⟨o, 0, none⟩) n cap) n xs := by
 refine ⟨?_, .inr ⟨o, cap, cur.toArray, rfl, h1, h2, h3, h4, by simpa using h5, by simpa using h6⟩⟩
 rw [← h6, List.length_take, h5]
 exact Nat.min_eq_left (Nat.mul_le_mul_right k h3)
end Go.Proofs.Ytmkjhdiepkpdoaa

namespace Go.Proofs.Ytmkjhdiepkpdoaa
open Go.RowKit Go.Shelf
set_option linter.unusedVariables false
set_option linter.unusedSimpArgs false
/-- Of what lay, no block below lo and none from hi on has turned. -/
structure Mid (lo hi : Nat) (w w' : World) : Prop where
 os : w'.os = w.os
 tape : w'.tape = w.tape
 output : w'.output = w.output
 size : w.heap.size ≤ w'.heap.size
 block : ∀ k, k < w.heap.size → (k < lo ∨ hi ≤ k) → w'.heap[k]? = w.heap[k]?
section
variable {lo hi : Nat} {w w' w'' : World}
theorem Mid.refl (lo hi : Nat) (w : World) : Mid lo hi w w := ⟨rfl, rfl, rfl, Nat.le_refl _, fun _ _ _ => rfl⟩
theorem Mid.trans (h : Mid lo hi w w') (k : Mid lo hi w' w'') : Mid lo hi w w'' :=
 ⟨k.os.trans h.os, k.tape.trans h.tape, k.output.trans h.output, Nat.le_trans h.size k.size, fun i hi hn => (k.block i (Nat.lt_of_lt_of_le hi h.size) hn).trans (h.block i hi hn)⟩
theorem Mid.mono {lo' hi' : Nat} (h : Mid lo hi w w') (h1 : lo' ≤ lo) (h2 : hi ≤ hi') : Mid lo' hi' w w' := ⟨h.os, h.tape, h.output, h.size, fun i hi hn => h.block i hi (by omega)⟩
theorem Mid.of_below {B : Nat} (h : Below B w w') (hB : lo ≤ B) (hs : w.heap.size ≤ hi) : Mid lo hi w w' := ⟨h.os, h.tape, h.output, h.size, fun i hi hn => h.block i (by omega)⟩
theorem Mid.of_old (h : Below w.heap.size w w') : Mid lo hi w w' := ⟨h.os, h.tape, h.output, h.size, fun i hi hn => h.block i hi⟩
theorem Mid.below (h : Mid lo hi w w') (hl : lo ≤ w.heap.size) : Below lo w w' := ⟨h.os, h.tape, h.output, h.size, fun i hi => h.block i (by omega) (.inl hi)⟩
/-- Behind a step of one's own, in a block that did not lie. -/
theorem Mid.only {b : Nat} (h : Mid lo hi w w') (o : Only b w' w'') (hb : (lo ≤ b ∧ b < hi) ∨ w.heap.size ≤ b) : Mid lo hi w w'' :=
 ⟨o.os.trans h.os, o.tape.trans h.tape, o.output.trans h.output, by rw [o.size]; exact h.size, fun i hi hn => (o.block i (by omega)).trans (h.block i hi hn)⟩
theorem Mid.old (h : Mid lo hi w w') (o : Below w'.heap.size w' w'') : Mid lo hi w w'' := h.trans (Mid.of_old o)
theorem Blk.mid {b t : Nat} {cs : List Value} (m : Blk w b t cs) (h : Mid lo hi w w') (hb : b < lo ∨ hi ≤ b) : Blk w' b t cs := (h.block b m.lt hb).trans m
end
/-! ### Operations -/
section
variable {P : Program} {n d : Nat} {l : List (Nat × Value)} {w : World}
/-- A closure. -/
theorem x_mkf {f : FuncId} {xs : List Operand} (vals : List Value) (hx : xs.map (ov l) = vals.map some) : Runs P n l w (.makeFunc (.func f) #[] xs.toArray) (.func (.func f) #[] vals.toArray) := fun ds a hF o ho => by
 have hv : xs.toArray.map a.eval = vals.toArray := by
  rw [← ov_args hF xs vals hx]
  simp
 simp [execOp, ho, hv, Instr.makeFunc]
end
section
variable {P : Program} {n d : Nat} {l : List (Nat × Value)} {w : World} {a : Act} {ops : Array Oper} {Q : Exit → Act → World → Prop} {rest : List Oper} {ty : TypeId} {pos : String} {af : Array Edge} {ds : List Deferred}
theorem run_callV (hF : Fs n a l (ds := ds)) {g : Operand} {fn : Fn} {lb : Array Value} {xs : List Operand} {ts : Array TypeId} {vals : List Value} (hg : ov l g = some (.func fn #[] lb)) (hargs : xs.map (ov l) = vals.map some) (o : Oper) (ho : o.op = .call { callee := .value g, args := xs.toArray, argTypes := ts }) :
    (execOp a.eval o).run P w = (invoke (.fn fn lb) vals.toArray).run P w := by
  have hv : xs.toArray.map a.eval = vals.toArray := by
    rw [← ov_args hF xs vals hargs]
    simp
  obtain ⟨dst, op, type, pos, after, guard⟩ := o
  simp only at ho
  subst ho
  have h1 : execOp a.eval { dst, op := .call { callee := .value g, args := xs.toArray, argTypes := ts }, type, pos, after, guard } =
    (do let d ← Deferred.ofValue (a.eval g) (xs.toArray.map a.eval); invoke d.target d.args) := rfl
  rw [h1, hF.ov hg, hv]
  have h2 : Deferred.ofValue (.func fn #[] lb) vals.toArray = pure { target := .fn fn lb, args := #[] ++ vals.toArray } := rfl
  rw [h2]
  simp only [Sem.run_bind, Sem.run_pure, Result.andThen, Array.empty_append]
/-- A call of a closure. -/
theorem s_callC (hF : Fs n a l (ds := ds)) {g : Operand} {f : FuncId} {lb : List Value} {xs : List Operand} {ts : Array TypeId} (vals : List Value) {R : Value → World → Prop} (hg : ov l g = some (.func (.func f) #[] lb.toArray)) (hent : Enters P f) (hargs : xs.map (ov l) = vals.map some) (hd : d < n)
    (hC : Calls P f (vals ++ lb).toArray w fun e w' => ∃ v, e = .returned v ∧ R v w')
    (h : ∀ v w' a', R v w' → Fs n a' ((d, v) :: l) (ds := ds) → wpList P ops Q rest a' w') : wpList P ops Q (⟨some d, .call { callee := .value g, args := xs.toArray, argTypes := ts }, ty, pos, af, none⟩ :: rest) a w := by
  unfold wpList
  rw [if_pos (wanted_none _ rfl _)]
  refine .inl ?_
  unfold Oper.wp
  rw [run_callV hF hg hargs _ rfl]
  have := hent (vals.toArray ++ lb.toArray) w
  simp only [invoke] at this ⊢
  rw [this]
  rw [List.append_toArray]
  refine Calls.mono hC ?_
  rintro e w' ⟨v, rfl, hR⟩
  exact h v w' _ hR (hF.put d hd v)
end
/-- The fence that lets everything in, in a round or not. -/
def Fw (r : Option Nat) : Fence := { fn := fun _ => True, depth := none, alive := false, round := r }
def noDefer (o : Oper) : Bool := match o.op with | .defer _ => false | _ => true
theorem callsIn_Fw {r : Option Nat} {m : Nat} {P : Program} {f : FuncId} {args : Array Value} {w : World} {R : Ending → World → Prop} (h : Calls P f args w R) : CallsIn (Fw r) m P f args w R := (callsIn_wide (n := m)).2 h
/-- A walk of a list holds within a round, too. -/
theorem listIn {r : Option Nat} {m : Nat} {P : Program} {ops : Array Oper} {Q : Exit → Act → World → Prop} (hQ : ∀ c a w, ¬ Q (.panic c) a w) (hO : ∀ a w, ¬ Q .outgrown a w) : ∀ (l : List Oper) (a : Act) (w : World), (l.all noDefer) = true → wpList P ops Q l a w → wpListIn (Fw r) m P ops Q l a w
 | [], a, w, _, h => h
 | o :: rest, a, w, hn, h => by
  simp only [List.all_cons, Bool.and_eq_true] at hn
  obtain ⟨hn1, hn2⟩ := hn
  have hnd : ∀ c, o.op ≠ .defer c := by
   intro c e
   simp [noDefer, e] at hn1
  unfold wpList at h
  unfold wpListIn
  split
  ·
   next hw =>
   rw [if_pos hw] at h
   rcases h with h | ⟨_, a', w', h⟩
   ·
    refine ⟨fun _ _ => trivial, ?_⟩
    rw [Oper.semAt_eq _ _ _ hnd]
    unfold Oper.wp at h
    cases hr : (execOp a.eval o).run P w with
    | ok x w' =>
     rw [hr] at h
     cases x with
     | value v => exact listIn hQ hO rest _ _ hn2 h
     | skip => exact listIn hQ hO rest _ _ hn2 h
     | defer d => exact listIn hQ hO rest _ _ hn2 h
     | enter f args =>
      refine ⟨fun h => absurd h (by simp [Fw]), callsIn_Fw (h.mono ?_)⟩
      intro e w'' he
      cases e with
      | returned v => exact listIn hQ hO rest _ _ hn2 he
      | panicked c => exact he
      | outgrown => exact he
     | row nm args =>
      refine ⟨fun h => absurd h (by simp [Fw]), ?_⟩
      exact fun c cs _ => let ⟨v, w', q, st⟩ := Rows.mono h (fun v w'' he => listIn hQ hO rest _ _ hn2 he) c cs; ⟨v, w', q, stepsIn_wide.2 st⟩
     | _ => exact (h : False).elim
    | halt x w' =>
     rw [hr] at h
     cases x with
     | panic v => exact h
     | _ => exact (h : False).elim
   ·
    exact absurd h (hO _ _)
  ·
   next hw =>
   rw [if_neg hw] at h
   exact ⟨fun _ _ => trivial, listIn hQ hO rest _ _ hn2 h⟩
/-! ### Code, in a round or not -/
section
variable {r : Option Nat} {m : Nat} {P : Program} {Q : Exit → Act → World → Prop} {a : Act} {w : World} {x y : Code} {n : Nat} {l : List (Nat × Value)} {ds : List Deferred}
/-- A way out that is a panic, or none at all, is not asked for. -/
structure Calm (Q : Exit → Act → World → Prop) : Prop where
 panic : ∀ c a w, ¬ Q (.panic c) a w
 outgrown : ∀ a w, ¬ Q .outgrown a w
theorem Calm.then (h : Calm Q) (K : Act → World → Prop) : Calm (Exit.then K Q) := ⟨h.panic, h.outgrown⟩
theorem Calm.block (h : Calm Q) (id : Nat) : Calm (Exit.inBlock id Q) := ⟨h.panic, h.outgrown⟩
theorem wpI_rs {id : Nat} {l : List Oper} (hQ : Calm Q) (hn : (l.all noDefer) = true) (h : ∀ K : Act → World → Prop, (∀ a w, y.wpIn (Fw r) m P Q a w → K a w) → wpList P l.toArray (Exit.then K Q) l a w) : (Code.seq (.region id l.toArray false) y).wpIn (Fw r) m P Q a w :=
 wpIn_seq_k fun K hK => wpIn_region_lit (listIn (hQ.then K).panic (hQ.then K).outgrown _ _ _ hn (h K hK))
theorem wpI_r {id : Nat} {l : List Oper} (hQ : Calm Q) (hn : (l.all noDefer) = true) (h : wpList P l.toArray Q l a w) : (Code.region id l.toArray false).wpIn (Fw r) m P Q a w :=
 wpIn_region_lit (listIn hQ.panic hQ.outgrown _ _ _ hn h)
theorem wpI_if {c : Operand} {b : Bool} (hF : Fs n a l (ds := ds)) (hc : ov l c = some (.bool b)) (h : (bif b then x else y).wpIn (Fw r) m P Q a w) : (Code.cond c x y).wpIn (Fw r) m P Q a w := by
 refine wpIn_cond (hF.ov hc) ?_
 cases b <;> exact h
theorem wpI_iff {c : Operand} {p : Prop} [Decidable p] (hF : Fs n a l (ds := ds)) (hc : ov l c = some (.bool (decide p))) (h1 : p → x.wpIn (Fw r) m P Q a w) (h2 : ¬ p → y.wpIn (Fw r) m P Q a w) : (Code.cond c x y).wpIn (Fw r) m P Q a w := by
 refine wpIn_cond (hF.ov hc) ?_
 by_cases hp : p
 ·
  simpa [hp] using h1 hp
 ·
  simpa [hp] using h2 hp
/-- A region that is walked within the fence. -/
theorem wp_rsI {id : Nat} {l : List Oper} (h : ∀ K : Act → World → Prop, (∀ a w, y.wp P Q a w → K a w) → wpListIn (Fw none) 0 P l.toArray (Exit.then K Q) l a w) : (Code.seq (.region id l.toArray false) y).wp P Q a w :=
 wp_seq_k fun K hK => (wpIn_wide (n := 0)).1 (wpIn_region_lit (h K hK))
end
/-! ### Yields -/
section
variable {P : Program} {n d : Nat} {l : List (Nat × Value)} {w : World} {a : Act} {ops : Array Oper} {Q : Exit → Act → World → Prop} {rest : List Oper} {ty : TypeId} {pos : String} {af : Array Edge} {ds : List Deferred} {op : Op} {v : Value} {r : Option Nat} {m : Nat}
theorem roundIn_wide' {n m : Nat} {P : Program} {l : Nat} {f : FuncId} {tmps : Array Value} {assign body : Code} {w : World} {R : Ending → World → Prop}
    (h : RoundIn Fence.wide n P l f tmps assign body w R) : RoundIn Fence.wide m P l f tmps assign body w R :=
  ⟨h.1, fun c cs _ => h.2 c cs (room_wide _)⟩
theorem i_val (hF : Fs n a l (ds := ds)) (hr : Runs P n l w op v) (hnd : noDefer ⟨some d, op, ty, pos, af, none⟩ = true) (hd : d < n) (h : ∀ a', Fs n a' ((d, v) :: l) (ds := ds) → wpListIn (Fw r) m P ops Q rest a' w) : wpListIn (Fw r) m P ops Q (⟨some d, op, ty, pos, af, none⟩ :: rest) a w := by
 unfold wpListIn
 rw [if_pos (wanted_none _ rfl _)]
 refine ⟨fun _ _ => trivial, ?_⟩
 rw [Oper.semAt_eq _ _ _ (by intro c e; simp only at e; subst e; cases hnd), hr _ a hF _ rfl]
 exact h _ (hF.put d hd v)
/-- The yield of a loop is called. -/
theorem i_yield (hF : Fs n a l (ds := ds)) {g : Operand} {L : Nat} {xs : List Operand} {ts : Array TypeId} (vals : List Value) {R : Value → World → Prop} (hg : ov l g = some (.func (.yield L) #[] #[])) (hargs : xs.map (ov l) = vals.map some) (hd : d < n)
    (hC : YieldAt Fence.wide 0 P L vals.toArray w fun e w' => ∃ v, e = .returned v ∧ R v w')
    (h : ∀ v w' a', R v w' → Fs n a' ((d, v) :: l) (ds := ds) → wpListIn (Fw r) m P ops Q rest a' w') : wpListIn (Fw r) m P ops Q (⟨some d, .call { callee := .value g, args := xs.toArray, argTypes := ts }, ty, pos, af, none⟩ :: rest) a w := by
  unfold wpListIn
  rw [if_pos (wanted_none _ rfl _)]
  refine ⟨fun _ _ => trivial, ?_⟩
  rw [Oper.semAt_eq _ _ _ (by intro c; simp), run_callV hF hg hargs _ rfl]
  obtain ⟨fn, tmps, assign, body, hy, hc⟩ := hC
  have hrun : (invoke (.fn (.yield L) #[]) vals.toArray).run P w = .ok (.round L fn tmps assign body) w := hy
  rw [hrun]
  refine ⟨fun h => absurd h (by simp [Fw]), ?_⟩
  refine RoundIn.mono (F := Fence.wide) (roundIn_wide' hc) ?_
  rintro e w' ⟨v, rfl, hR⟩
  exact h v w' _ hR (hF.put d hd v)
theorem i_end (h : Q .normal a w) : wpListIn (Fw r) m P ops Q [] a w := h
end
/-! ### 'for .. := range f' -/
/-- THE FUNCTION g (with what it holds, lb) HANDS evs ON, one by one, till it is told no. -/
def Hands (P : Program) (g : FuncId) (lb : Array Value) (lo hi : Nat) (w0 : World) (S : World → Prop) {E : Type} (Bd : E → Prop) (enc : E → List Value → Prop) (evs : List E) : Prop :=
 ∀ (L : Nat) (J Jx : List E → World → Prop), (∀ p W W', J p W → Below hi W W' → J p W') → (∀ p W W', Jx p W → Below hi W W' → Jx p W') → (∀ p e W, J (p ++ [e]) W → Bd e) →
  (∀ p e rest W vs, evs = p ++ e :: rest → enc e vs → J p W → hi ≤ W.heap.size → Below lo w0 W → YieldAt Fence.wide 0 P L vs.toArray W fun en W' => Mid lo hi W W' ∧ ((en = .returned (.bool true) ∧ J (p ++ [e]) W') ∨ (en = .returned (.bool false) ∧ Jx (p ++ [e]) W'))) →
  ∀ W, S W → J [] W → hi ≤ W.heap.size → Below lo w0 W → Calls P g (#[.func (.yield L) #[] #[]] ++ lb) W fun en W' => (∃ v, en = .returned v) ∧ Mid lo hi W W' ∧ (J evs W' ∨ ∃ p, p <+: evs ∧ Jx p W')
theorem only_putObj {l : Nat} {w : World} (o : Obj) : Only l w (w.putObj l o) := ⟨rfl, rfl, rfl, by simp, fun k hk => World.putObj_heap_other hk⟩
/-- How a round's body may be left. -/
def rndPost {E : Type} (lo hi : Nat) (I : List E → World → Prop) (Ix : Code → List E → World → Prop) (q : List E) (W : World) : Exit → Act → World → Prop
 | .normal, _, W' => Mid lo hi W W' ∧ I q W'
 | .ret, _, W' => Mid lo hi W W' ∧ Ix .ret q W'
 | .exit id, _, W' => Mid lo hi W W' ∧ Ix (.exit id) q W'
 | .goto t, _, W' => Mid lo hi W W' ∧ Ix (.goto t) q W'
 | .panic _, _, _ => False
 | .outgrown, _, _ => False
theorem rndPost.calm {E : Type} {lo hi : Nat} {I : List E → World → Prop} {Ix : Code → List E → World → Prop} {q : List E} {W : World} : Calm (rndPost lo hi I Ix q W) := ⟨fun _ _ _ h => h, fun _ _ h => h⟩
theorem false.calm : Calm (fun _ _ _ => False) := ⟨fun _ _ _ h => h, fun _ _ h => h⟩
theorem fold_put {n : Nat} {a : Act} {l : List (Nat × Value)} {ds : List Deferred} (hF : Fs n a l (ds := ds)) : ∀ (ps : List Nat) (vs : List Value), (∀ p ∈ ps, p < n) →
    Fs n { tmps := (ps.zip vs).foldl (fun t (p : Nat × Value) => t.setIfInBounds p.1 p.2) a.tmps, defers := [] } ((ps.zip vs).reverse ++ l) := by
  intro ps
  suffices H : ∀ (ps : List Nat) (vs : List Value) (a : Act) (l : List (Nat × Value)), Fs n a l → (∀ p ∈ ps, p < n) →
      Fs n { tmps := (ps.zip vs).foldl (fun t (p : Nat × Value) => t.setIfInBounds p.1 p.2) a.tmps, defers := [] } ((ps.zip vs).reverse ++ l) from
    fun vs hp => H ps vs { tmps := a.tmps, defers := [] } l ⟨hF.size, rfl, hF.slot⟩ hp
  intro ps
  induction ps with
  | nil => intro vs a l hF _; exact ⟨hF.size, rfl, hF.slot⟩
  | cons p ps ih =>
    intro vs a l hF hp
    cases vs with
    | nil => exact ⟨hF.size, rfl, hF.slot⟩
    | cons v vs =>
      have h1 := hF.put p (hp p (by simp)) v
      have h2 := ih vs _ _ h1 (fun q hq => hp q (by simp [hq]))
      simp only [List.zip_cons_cons, List.foldl_cons, List.reverse_cons, List.append_assoc, List.singleton_append]
      exact h2
/-- **'for p, .. := range g { .. }'**, outside every other such loop. -/
theorem wp_range {E : Type} {P : Program} {n : Nat} {g : Operand} {ps : List Nat} {assign body : Code} {Q : Exit → Act → World → Prop} {a : Act} {w w0 : World} {l : List (Nat × Value)}
    {gf : FuncId} {lb : Array Value} {enc : E → List Value → Prop} {evs : List E} (hF : Fs n a l) (hg : ov l g = some (.func (.func gf) #[] lb)) (hent : Enters P gf)
    (hi : Nat) (hhi : hi = w.heap.size) (h0w : Below w0.heap.size w0 w) {S : World → Prop} {Bd : E → Prop} (hH : Hands P gf lb w0.heap.size (w.heap.size + 2) w0 S Bd enc evs) (hS : ∀ W', Below w.heap.size w W' → S W') (hps : ∀ p ∈ ps, p < n) (hlen : ∀ e vs, enc e vs → vs.length = ps.length)
    (I : List E → World → Prop) (Ix : Code → List E → World → Prop) (hI : ∀ p W W', I p W → Below w.heap.size W W' → I p W') (hIx : ∀ c p W W', Ix c p W → Below w.heap.size W W' → Ix c p W') (hBd : ∀ p e W, I (p ++ [e]) W → Bd e) (h0 : I [] w)
    (round : ∀ (L : Nat) p e rest W a₁ vs, L = w.heap.size + 1 → evs = p ++ e :: rest → enc e vs → I p W → w.heap.size + 2 ≤ W.heap.size → Below w0.heap.size w0 W → Fs n a₁ ((ps.zip vs).reverse ++ l) →
      ∀ K : Act → World → Prop, (∀ a₂ W₂, Mid w0.heap.size w.heap.size W W₂ → (∀ W₃, Only L W₂ W₃ → body.wpIn (Fw (some L)) 0 P (rndPost w0.heap.size w.heap.size I Ix (p ++ [e]) W₃) a₂ W₃) → K a₂ W₂) →
      assign.wpIn (Fw (some L)) 0 P (Exit.then K (fun _ _ _ => False)) a₁ W)
    (done : ∀ a' W, I evs W → Mid w0.heap.size (w.heap.size + 2) w W → W.heap[w.heap.size]? = some (.deferred (some [])) → Fs n a' l (ds := [{ target := .collected w.heap.size, args := #[] }]) → Q .normal a' W)
    (stop : ∀ a' c p W, p <+: evs → Ix c p W → Mid w0.heap.size (w.heap.size + 2) w W → W.heap[w.heap.size]? = some (.deferred (some [])) → Fs n a' l (ds := [{ target := .collected w.heap.size, args := #[] }]) → c.wp P Q a' W) :
    (Code.rangeFunc g ps.toArray assign body).wp P Q a w := by
  refine (wpIn_wide (n := 0)).1 (wpIn_rangeFunc ?_)
  intro fn hfn
  obtain ⟨rec, hrec⟩ : ∃ rec : LoopState → Option Code → Loop, rec = fun st pe => { state := st, pending := pe, fn, tmps := a.tmps, params := ps.toArray, assign, body, defers := w.heap.size } := ⟨_, rfl⟩
  obtain ⟨W1, hW1⟩ : ∃ W1, (w.alloc (.deferred (some []))).alloc (.loop (rec .ready none)) = W1 := ⟨_, rfl⟩
  have hL1 : W1.heap[w.heap.size + 1]? = some (.loop (rec .ready none)) := by
    rw [← hW1]; have := World.alloc_heap_new (w.alloc (.deferred (some []))) (.loop (rec .ready none)); rwa [World.size_alloc] at this
  have hK1 : W1.heap[w.heap.size]? = some (.deferred (some [])) := by
    rw [← hW1]; exact (Below.heap_alloc _ _ _ (by simp)).trans (World.alloc_heap_new w _)
  have hsz : W1.heap.size = w.heap.size + 2 := by rw [← hW1]; simp
  have hB1 : Below w.heap.size w W1 := by rw [← hW1]; exact ((Below.refl _ _).alloc (Nat.le_refl _) _).alloc (by simp) _
  have hlo : w0.heap.size ≤ w.heap.size := h0w.size
  -- what holds between rounds
  let J : List E → World → Prop := fun p W => I p W ∧ W.heap[w.heap.size + 1]? = some (.loop (rec .ready none)) ∧ W.heap[w.heap.size]? = some (.deferred (some []))
  let Jx : List E → World → Prop := fun p W => ∃ c, Ix c p W ∧ W.heap[w.heap.size + 1]? = some (.loop (rec .done (some c))) ∧ W.heap[w.heap.size]? = some (.deferred (some []))
  have hJ : ∀ p W W', J p W → Below (w.heap.size + 2) W W' → J p W' := fun p W W' h hB => ⟨hI p W W' h.1 (hB.mono (by omega)), (hB.block _ (by omega)).trans h.2.1, (hB.block _ (by omega)).trans h.2.2⟩
  have hJx : ∀ p W W', Jx p W → Below (w.heap.size + 2) W W' → Jx p W' := fun p W W' ⟨c, h⟩ hB => ⟨c, hIx c p W W' h.1 (hB.mono (by omega)), (hB.block _ (by omega)).trans h.2.1, (hB.block _ (by omega)).trans h.2.2⟩
  have hc := hH (w.heap.size + 1) J Jx hJ hJx (fun p e W h => hBd p e W h.1) (by
    rintro p e rest W vs he hvs ⟨hi1, hl1, hd1⟩ hWs hW0
    have hlt : w.heap.size + 1 < W.heap.size := by omega
    have hy := run_yield (P := P) (args := vs.toArray) hl1 (by rw [hrec]; simp [hlen e vs hvs])
    rw [hrec] at hy
    refine ⟨fn, _, assign, body, hy, roundIn_wide' (n := 0) (roundIn_of_wpIn trivial ?_)⟩
    have hFa := fold_put hF ps vs hps
    have hz : (ps.toArray.zip vs.toArray) = (ps.zip vs).toArray := by simp
    rw [hz]
    simp only [List.foldl_toArray]
    refine round (w.heap.size + 1) p e rest W _ vs rfl he hvs hi1 hWs hW0 hFa _ ?_
    intro a₂ W₂ hM hb
    have hl2 : W₂.heap[w.heap.size + 1]? = some (.loop (rec .ready none)) := (hM.block _ (by omega) (.inr (by omega))).trans hl1
    have hd2 : W₂.heap[w.heap.size]? = some (.deferred (some [])) := (hM.block _ (by omega) (.inr (by omega))).trans hd1
    have hlt2 : w.heap.size + 1 < W₂.heap.size := Nat.lt_of_lt_of_le hlt hM.size
    refine ⟨_, run_beginRound hl2 (by rw [hrec]), ?_⟩
    have ho3 := only_putObj (l := w.heap.size + 1) (w := W₂) (.loop { rec .ready none with state := .busy })
    have hl3 : (W₂.putObj (w.heap.size + 1) (.loop { rec .ready none with state := .busy })).heap[w.heap.size + 1]? = some (.loop { rec .ready none with state := .busy }) := World.putObj_heap_same hlt2
    refine wpIn_mono (hb _ ho3) ?_
    have fin : ∀ (jump : Option Code) (W4 : World), Mid w0.heap.size w.heap.size (W₂.putObj (w.heap.size + 1) (.loop { rec .ready none with state := .busy })) W4 →
        (Instr.endRound (w.heap.size + 1) jump).run P W4 = .ok (.bool jump.isNone) (W4.putObj (w.heap.size + 1) (.loop (rec (if jump.isNone then .ready else .done) jump))) ∧
        (W4.putObj (w.heap.size + 1) (.loop (rec (if jump.isNone then .ready else .done) jump))).heap[w.heap.size + 1]? = some (.loop (rec (if jump.isNone then .ready else .done) jump)) ∧
        (W4.putObj (w.heap.size + 1) (.loop (rec (if jump.isNone then .ready else .done) jump))).heap[w.heap.size]? = some (.deferred (some [])) ∧
        Mid w0.heap.size (w.heap.size + 2) W (W4.putObj (w.heap.size + 1) (.loop (rec (if jump.isNone then .ready else .done) jump))) := by
      intro jump W4 h4
      have hsz3 := ho3.size
      have hl4 := (h4.block (w.heap.size + 1) (by omega) (.inr (by omega))).trans hl3
      have hd4 := (h4.block w.heap.size (by omega) (.inr (by omega))).trans ((ho3.block w.heap.size (by omega)).trans hd2)
      have hr := run_endRound (P := P) jump hl4
      refine ⟨?_, World.putObj_heap_same (Array.getElem?_eq_some_iff.1 hl4).1, (World.putObj_heap_other (by omega)).trans hd4, ?_⟩
      · rw [hrec] at hr ⊢; exact hr
      · have m1 := hM.mono (lo' := w0.heap.size) (hi' := w.heap.size + 2) (Nat.le_refl _) (by omega)
        have m2 := m1.only ho3 (.inl ⟨by omega, by omega⟩)
        have m3 := m2.trans (h4.mono (lo' := w0.heap.size) (hi' := w.heap.size + 2) (Nat.le_refl _) (by omega))
        exact m3.only (only_putObj _) (.inl ⟨by omega, by omega⟩)
    have keepI : ∀ q W4 o, I q W4 → I q (W4.putObj (w.heap.size + 1) o) := fun q W4 o h => hI _ _ _ h ((only_putObj o).below (by omega))
    have keepIx : ∀ c q W4 o, Ix c q W4 → Ix c q (W4.putObj (w.heap.size + 1) o) := fun c q W4 o h => hIx _ _ _ _ h ((only_putObj o).below (by omega))
    rintro ex a3 W4 hp
    cases ex with
    | normal =>
      obtain ⟨h4, hi4⟩ := hp
      obtain ⟨hr, e1, e2, e3⟩ := fin none W4 h4
      exact ⟨_, _, hr, e3, .inl ⟨rfl, keepI _ _ _ hi4, e1, e2⟩⟩
    | ret =>
      obtain ⟨h4, hi4⟩ := hp
      obtain ⟨hr, e1, e2, e3⟩ := fin (some .ret) W4 h4
      exact ⟨_, _, hr, e3, .inr ⟨rfl, .ret, keepIx _ _ _ _ hi4, e1, e2⟩⟩
    | exit id =>
      obtain ⟨h4, hi4⟩ := hp
      obtain ⟨hr, e1, e2, e3⟩ := fin (some (.exit id)) W4 h4
      exact ⟨_, _, hr, e3, .inr ⟨rfl, .exit id, keepIx _ _ _ _ hi4, e1, e2⟩⟩
    | goto t =>
      obtain ⟨h4, hi4⟩ := hp
      obtain ⟨hr, e1, e2, e3⟩ := fin (some (.goto t)) W4 h4
      exact ⟨_, _, hr, e3, .inr ⟨rfl, .goto t, keepIx _ _ _ _ hi4, e1, e2⟩⟩
    | panic ch => exact hp.elim
    | outgrown => exact hp.elim) W1 (hS W1 hB1) ⟨hI _ _ _ h0 hB1, hL1, hK1⟩ (by omega) (h0w.trans (hB1.mono hlo))
  have hpost : ∀ en W2, ((∃ v, en = .returned v) ∧ Mid w0.heap.size (w.heap.size + 2) W1 W2 ∧ (J evs W2 ∨ ∃ p, p <+: evs ∧ Jx p W2)) →
      rangePost Fence.wide 0 P (w.heap.size + 1) Q { a with defers := [{ target := .collected w.heap.size, args := #[] }] ++ a.defers } en W2 := by
    rintro en W2 ⟨⟨v, rfl⟩, hM, hend⟩
    have hM0 : Mid w0.heap.size (w.heap.size + 2) w W2 := (Mid.of_below (hi := w.heap.size + 2) hB1 hlo (by omega)).trans hM
    have hFs : Fs n { a with defers := [{ target := .collected w.heap.size, args := #[] }] ++ a.defers } l (ds := [{ target := .collected w.heap.size, args := #[] }]) := ⟨hF.size, by simp [hF.defers], hF.slot⟩
    rcases hend with ⟨hi2, hl2, hd2⟩ | ⟨p, hp, c, hi2, hl2, hd2⟩
    · refine ⟨none, _, by have := run_endLoop (P := P) hl2 (by rw [hrec]; simp); rw [hrec] at this; exact this, ?_⟩
      exact done _ _ (hI _ _ _ hi2 ((only_putObj _).below (by omega))) (hM0.only (only_putObj _) (.inl ⟨by omega, by omega⟩)) ((World.putObj_heap_other (by omega)).trans hd2) hFs
    · refine ⟨some c, _, by have := run_endLoop (P := P) hl2 (by rw [hrec]; simp); rw [hrec] at this; exact this, ?_⟩
      exact (wpIn_wide (n := 0)).2 (stop _ c p _ hp (hIx _ _ _ _ hi2 ((only_putObj _).below (by omega))) (hM0.only (only_putObj _) (.inl ⟨by omega, by omega⟩)) ((World.putObj_heap_other (by omega)).trans hd2) hFs)
  refine ⟨w.heap.size + 1, [{ target := .collected w.heap.size, args := #[] }], W1, { target := .fn (.func gf) lb, args := #[.func (.yield (w.heap.size + 1)) #[] #[]] }, W1, gf,
    #[.func (.yield (w.heap.size + 1)) #[] #[]] ++ lb, W1, ?_, ?_, fun _ _ => trivial, ?_, (fun h => by simp [Fence.wide] at h), ?_⟩
  · rw [← hW1, hrec]; exact run_enterLoop_outer _ _ _ _ _
  · simp only [resolve, hF.ov hg]
    simp [go_sem]
  · simp [invoke, go_sem, hent _ _]
  · exact ((callsIn_wide (n := 0 - 1)).2 hc).mono hpost
/-! ### A function that holds such a loop -/
theorem calls_fsM {P : Program} {f : FuncId} {fn : Func} {c : Code} {w : World} {R : Ending → World → Prop} (n : Nat) (L : List (Nat × Value)) {vs : List Value}
    (hf : P.funcs[f]? = some fn) (hb : fn.body = some c) (hn : fn.ntmps = n) (hl : L.map (·.2) = vs) (hi : L.map (·.1) = List.range L.length) (hm : Nat.ble L.length n = true)
    (h : ∀ a, Fs n a L → c.wp P (bodyPostM Fence.wide 0 P fn R) a w) : Calls P f vs.toArray w R := by
  refine (callsIn_wide (n := 0)).1 (callsIn_of_wp_marks hf hb trivial ((wpIn_wide (n := 0)).2 (h _ ?_)) rfl)
  have hlen : vs.length = L.length := by rw [← hl]; simp
  have hm := Nat.le_of_ble_eq_true hm
  have hL : (vs.zipIdx 0 |>.map fun p => (p.2, p.1)) = L := by
    rw [← hl]
    apply List.ext_getElem?
    intro j
    simp only [List.getElem?_map, List.getElem?_zipIdx, Option.map_map]
    have := congrArg (·[j]?) hi
    simp only [List.getElem?_map] at this
    cases hj : L[j]? with
    | none => simp
    | some p =>
      have hlt : j < L.length := by
        rcases Nat.lt_or_ge j L.length with h | h
        · exact h
        · rw [List.getElem?_eq_none h] at hj; cases hj
      rw [hj, List.getElem?_range hlt] at this
      simp at this
      simp [← this]
  rw [hn]
  have := Fs.start vs (n - vs.length)
  rw [hL, show vs.length + (n - vs.length) = n by omega] at this
  simpa using this
section
variable {P : Program} {n : Nat} {l : List (Nat × Value)} {w : World} {a : Act} {fn : Func} {R : Ending → World → Prop}
/-- It returns, behind the loop. -/
theorem resM {D : Nat} {v : Value} (hF : Fs n a l (ds := [{ target := .collected D, args := #[] }])) (hD : w.heap[D]? = some (.deferred (some []))) (h : ∀ w', Only D w w' → (results fn a.tmps).run P w' = .ok v w' ∧ R (.returned v) w') : bodyPostM Fence.wide 0 P fn R .ret a w := by
 show LeavesInM Fence.wide 0 P fn a.tmps R a.defers .returning w
 rw [hF.defers]
 refine ⟨by simp, .inl ⟨_, _, rfl, run_takeDeferred hD, ?_⟩⟩
 exact ⟨v, h _ (only_putObj _)⟩
variable {ds : List Deferred}
theorem run_cell {t r b t0 : Nat} {cs : List Value} {v : Value} (hF : Fs n a l (ds := ds)) (hr : fn.results = #[.cell r t]) (hl : lk l r = some (.pointer (some ⟨b, 0, none⟩))) (hL : (Instr.loadAt t (.pointer (some ⟨b, 0, none⟩))).run P w = .ok v w) : (results fn a.tmps).run P w = .ok v w := by
 have h1 := hF.slot r _ hl
 simp [Instr.loadAt, Instr.sureAddr] at hL
 simp [results, hr, h1, asAddr, hL]
end
end Go.Proofs.Ytmkjhdiepkpdoaa

namespace Go.Proofs.Ytmkjhdiepkpdoaa
open Go.RowKit Go.Shelf
set_option linter.unusedVariables false
set_option linter.unusedSimpArgs false
/-- How a function that keeps a state hands things on: J s: the state is s, between two of its steps; K: what it knows by that; St: the steps that it takes by itself; Rl: what a round makes of the state; enc: what it hands on; Dn: where it ends. -/
def HandsG (P : Program) (g : FuncId) (lb : Array Value) (lo hi : Nat) (w0 : World) {σ : Type} (S : σ → Prop) (K : σ → World → Prop) (St : σ → World → σ → World → Prop) (Rl : σ → σ → Prop) (enc : σ → List Value → Prop) (Dn : σ → Prop) : Prop :=
 ∀ (L : Nat) (J : σ → World → Prop) (Jx : World → Prop), (∀ s W, J s W → K s W) → (∀ s W s' W', J s W → St s W s' W' → J s' W') → (∀ W W', Jx W → Below hi W W' → Jx W') →
  (∀ s W vs, J s W → enc s vs → hi ≤ W.heap.size → Below lo w0 W → YieldAt Fence.wide 0 P L vs.toArray W fun en W' => Mid lo hi W W' ∧ ((en = .returned (.bool true) ∧ ∃ s', Rl s s' ∧ J s' W') ∨ (en = .returned (.bool false) ∧ Jx W'))) →
  ∀ s W, S s → J s W → hi ≤ W.heap.size → Below lo w0 W → Calls P g (#[.func (.yield L) #[] #[]] ++ lb) W fun en W' => (∃ v, en = .returned v) ∧ Mid lo hi W W' ∧ ((∃ s', Dn s' ∧ J s' W') ∨ Jx W')
/-- How a round's body may be left. -/
def rndPostG {σ : Type} (lo hi : Nat) (I : σ → World → Prop) (Ix : Code → World → Prop) (Rl : σ → σ → Prop) (s : σ) (W : World) : Exit → Act → World → Prop
 | .normal, _, W' => Mid lo hi W W' ∧ ∃ s', Rl s s' ∧ I s' W'
 | .ret, _, W' => Mid lo hi W W' ∧ Ix .ret W'
 | .exit id, _, W' => Mid lo hi W W' ∧ Ix (.exit id) W'
 | .goto t, _, W' => Mid lo hi W W' ∧ Ix (.goto t) W'
 | .panic _, _, _ => False
 | .outgrown, _, _ => False
theorem rndPostG.calm {σ : Type} {lo hi : Nat} {I : σ → World → Prop} {Ix : Code → World → Prop} {Rl : σ → σ → Prop} {s : σ} {W : World} : Calm (rndPostG lo hi I Ix Rl s W) := ⟨fun _ _ _ h => h, fun _ _ h => h⟩
/-! ### Steps behind a yield, within the fence -/
section
variable {P : Program} {n d : Nat} {l : List (Nat × Value)} {w : World} {a : Act} {ops : Array Oper} {Q : Exit → Act → World → Prop} {rest : List Oper} {ty : TypeId} {pos : String} {af : Array Edge} {ds : List Deferred} {op : Op} {v : Value} {r : Option Nat} {m : Nat}
end
end Go.Proofs.Ytmkjhdiepkpdoaa

namespace Go.Proofs.Ytmkjhdiepkpdoaa
open Go.RowKit Go.Shelf
set_option linter.unusedVariables false
set_option linter.unusedSimpArgs false
section
variable {r : Option Nat} {m : Nat} {P : Program} {ops : Array Oper} {S : World → Prop} {N : Nat} {a : Act} {w : World}
end
/-! ### Loops over functions that keep a state, whose rounds may turn what rounds have made -/
/-- The blocks p and p + 1 have not turned. -/
structure Kd (p : Nat) (w w' : World) : Prop where
 size : w.heap.size ≤ w'.heap.size
 one : w'.heap[p]? = w.heap[p]?
 two : w'.heap[p + 1]? = w.heap[p + 1]?
section
variable {p : Nat} {w w' w'' : World}
theorem Kd.refl (p : Nat) (w : World) : Kd p w w := ⟨Nat.le_refl _, rfl, rfl⟩
theorem Kd.trans (h : Kd p w w') (k : Kd p w' w'') : Kd p w w'' := ⟨Nat.le_trans h.size k.size, k.one.trans h.one, k.two.trans h.two⟩
theorem Kd.of_below {B : Nat} (h : Below B w w') (hp : p + 1 < B) : Kd p w w' := ⟨h.size, h.block _ (by omega), h.block _ hp⟩
theorem Kd.below {B : Nat} (h : Kd p w w') (B' : Below B w' w'') (hp : p + 1 < B) : Kd p w w'' := h.trans (Kd.of_below B' hp)
theorem Kd.only {b : Nat} (h : Kd p w w') (o : Only b w' w'') (hb : b ≠ p ∧ b ≠ p + 1) : Kd p w w'' := h.trans ⟨Nat.le_of_eq o.size.symm, o.block _ (by omega), o.block _ (by omega)⟩
theorem Kd.k2 {a b : Nat} (h : Kd p w w') (hK : Ktw a b w' w'') (hp : p + 1 < w'.heap.size ∧ a ≠ p ∧ a ≠ p + 1 ∧ b ≠ p ∧ b ≠ p + 1) : Kd p w w'' := h.trans ⟨hK.size, hK.block _ (by omega) (by omega), hK.block _ (by omega) (by omega)⟩
end
/-- As HandsG; a round may turn whatever was not there at w0. -/
def HandsX (P : Program) (g : FuncId) (lb : Array Value) (w0 : World) {σ : Type} (S : σ → Prop) (K : σ → World → Prop) (St : σ → World → σ → World → Prop) (Rl : σ → σ → Prop) (enc : σ → List Value → Prop) (Dn : σ → Prop) : Prop :=
 ∀ (L : Nat) (J : σ → World → Prop) (Jx : World → Prop), (∀ s W, J s W → K s W) → (∀ s W s' W', J s W → St s W s' W' → J s' W') → (∀ W W', Jx W → Below W.heap.size W W' → Jx W') →
  (∀ s W vs, J s W → enc s vs → Below w0.heap.size w0 W → YieldAt Fence.wide 0 P L vs.toArray W fun en W' => Below w0.heap.size W W' ∧ ((en = .returned (.bool true) ∧ ∃ s', Rl s s' ∧ J s' W') ∨ (en = .returned (.bool false) ∧ Jx W'))) →
  ∀ s W, S s → J s W → Below w0.heap.size w0 W → Calls P g (#[.func (.yield L) #[] #[]] ++ lb) W fun en W' => (∃ v, en = .returned v) ∧ Below w0.heap.size W W' ∧ ((∃ s', Dn s' ∧ J s' W') ∨ Jx W')
/-- How a round's body may be left. -/
def rndPostX {σ : Type} (lo p : Nat) (I : σ → World → Prop) (Ix : Code → World → Prop) (Rl : σ → σ → Prop) (s : σ) (W : World) : Exit → Act → World → Prop
 | .normal, _, W' => Below lo W W' ∧ Kd p W W' ∧ ∃ s', Rl s s' ∧ I s' W'
 | .ret, _, W' => Below lo W W' ∧ Kd p W W' ∧ Ix .ret W'
 | .exit id, _, W' => Below lo W W' ∧ Kd p W W' ∧ Ix (.exit id) W'
 | .goto t, _, W' => Below lo W W' ∧ Kd p W W' ∧ Ix (.goto t) W'
 | .panic _, _, _ => False
 | .outgrown, _, _ => False
theorem rndPostX.calm {σ : Type} {lo p : Nat} {I : σ → World → Prop} {Ix : Code → World → Prop} {Rl : σ → σ → Prop} {s : σ} {W : World} : Calm (rndPostX lo p I Ix Rl s W) := ⟨fun _ _ _ h => h, fun _ _ h => h⟩
/-! ### Three old blocks that may turn -/
structure K3 (a b c : Nat) (w w' : World) : Prop where
 os : w'.os = w.os
 tape : w'.tape = w.tape
 output : w'.output = w.output
 size : w.heap.size ≤ w'.heap.size
 block : ∀ k, k < w.heap.size → k ≠ a ∧ k ≠ b ∧ k ≠ c → w'.heap[k]? = w.heap[k]?
section
variable {a b c : Nat} {w w' w'' : World}
theorem K3.refl (a b c : Nat) (w : World) : K3 a b c w w := ⟨rfl, rfl, rfl, Nat.le_refl _, fun _ _ _ => rfl⟩
theorem K3.below (h : K3 a b c w w') (B : Below w'.heap.size w' w'') : K3 a b c w w'' :=
 ⟨B.os.trans h.os, B.tape.trans h.tape, B.output.trans h.output, Nat.le_trans h.size B.size, fun k hk hb => (B.block k (Nat.lt_of_lt_of_le hk h.size)).trans (h.block k hk hb)⟩
theorem K3.only {d : Nat} (h : K3 a b c w w') (o : Only d w' w'') (hc : d = a ∨ d = b ∨ d = c ∨ w.heap.size ≤ d) : K3 a b c w w'' :=
 ⟨o.os.trans h.os, o.tape.trans h.tape, o.output.trans h.output, by rw [o.size]; exact h.size, fun k hk hb => (o.block k (by omega)).trans (h.block k hk hb)⟩
theorem K3.trans {d e : Nat} (h : K3 a b c w w') (h' : Ktw d e w' w'') (hc : (d = a ∨ d = b ∨ d = c ∨ w.heap.size ≤ d) ∧ (e = a ∨ e = b ∨ e = c ∨ w.heap.size ≤ e)) : K3 a b c w w'' :=
 ⟨h'.os.trans h.os, h'.tape.trans h.tape, h'.output.trans h.output, Nat.le_trans h.size h'.size, fun k hk hb => (h'.block k (Nat.lt_of_lt_of_le hk h.size) (by omega)).trans (h.block k hk hb)⟩
theorem K3.under {w0 : World} (h : K3 a b c w w') (h0 : Below w0.heap.size w0 w) (hb : w0.heap.size ≤ a ∧ w0.heap.size ≤ b ∧ w0.heap.size ≤ c) : Below w0.heap.size w0 w' :=
 h0.trans ⟨h.os, h.tape, h.output, h.size, fun k hk => h.block k (Nat.lt_of_lt_of_le hk h0.size) (by omega)⟩
theorem Blk.k3 {d t : Nat} {cs : List Value} (m : Blk w d t cs) (h : K3 a b c w w') (hb : d ≠ a ∧ d ≠ b ∧ d ≠ c) : Blk w' d t cs := (h.block d m.lt hb).trans m
end
section
variable {r : Option Nat} {m : Nat} {P : Program} {ops : Array Oper} {N : Nat} {a : Act} {w : World}
end
end Go.Proofs.Ytmkjhdiepkpdoaa

namespace Go.Proofs.Ytmkjhdiepkpdoaa
open Go.RowKit Go.Shelf
set_option linter.unusedVariables false
set_option linter.unusedSimpArgs false
/-- As wpAnyH; S is asked for until number e has come up. -/
def wpAnyL (P : Program) (md : Region.Mode) (ops : Array Oper) (Q : Exit → Act → World → Prop) (S : World → Prop) (e : Nat) : Nat → Array Bool → Act → World → Prop
 | 0, listed, a, w => Region.ready md ops listed = [] ∧ Q .normal a w
 | fuel + 1, listed, a, w =>
  (Region.ready md ops listed = [] → Q .normal a w) ∧
  ∀ i ∈ Region.ready md ops listed, wpOp P ops Q i (fun a' w' => ((listed.setIfInBounds i true).getD e true = false → S w') ∧ wpAnyL P md ops Q S e fuel (listed.setIfInBounds i true) a' w') a w
section
variable {P : Program} {ops : Array Oper} {Q : Exit → Act → World → Prop} {md : Region.Mode} {S : World → Prop} {e : Nat}
theorem wpAny_of_L : ∀ (fuel : Nat) (listed : Array Bool) (a : Act) (w : World), wpAnyL P md ops Q S e fuel listed a w → wpAny P md ops Q fuel listed a w
 | 0, _, _, _, h => h
 | fuel + 1, _, _, _, h => ⟨h.1, fun i hi => wpOp_mono (fun a' w' h' => wpAny_of_L fuel _ a' w' h'.2) (h.2 i hi)⟩
theorem wpAnyL_first {i : Nat} {oi : Oper} {v : Value} {S' : World → Prop} {T : Array Bool → Prop} (hi : ops[i]? = some oi) (hsel : ∀ (j : Nat) (o : Oper) cs b, ops[j]? = some o → o.op ≠ .select cs b)
    (hQ : ∀ c a w, Q (.panic c) (a.put oi.dst v) w → Q (.panic c) a w) (hie : i ≠ e) (hTS : ∀ l w, T l → (l.getD e true = false → S w) → S' w)
    (hT : ∀ (l : Array Bool) j, T l → l.getD i true = false → j ∈ Region.ready md ops l → j ≠ i → T (l.setIfInBounds j true)) :
    ∀ (fuel : Nat) (listed : Array Bool) (a : Act) (w : World), T listed →
      (∀ j oj, ops[j]? = some oj → j ≠ i → listed.getD j true = false → (∀ e ∈ oj.after, Region.binds md e = true → e.on ≠ i) → oi.apart ops oj = true) →
      i ∈ Region.ready md ops listed → YieldsIf P ops S' oi v a → (listed.getD e true = false → S w) →
      wpAnyL P md ops Q S e fuel (listed.setIfInBounds i true) (a.put oi.dst v) w → wpAnyL P md ops Q S e (fuel + 1) listed a w := by
  intro fuel
  induction fuel with
  | zero =>
    intro listed a w hTl _ hr hy hS H
    refine ⟨fun h => (by rw [h] at hr; cases hr), fun j hj => ?_⟩
    by_cases hji : j = i
    · subst hji; exact hy.wpOp hi (hTS _ _ hTl hS) ⟨fun h => hS (by rwa [getD_set_ne true hie] at h), H⟩
    · have := ready_mono hj hji
      rw [H.1] at this
      cases this
  | succ fuel ih =>
    intro listed a w hTl hfree hr hy hS H
    refine ⟨fun h => (by rw [h] at hr; cases hr), fun j hj => ?_⟩
    by_cases hji : j = i
    · subst hji; exact hy.wpOp hi (hTS _ _ hTl hS) ⟨fun h => hS (by rwa [getD_set_ne true hie] at h), H⟩
    · have h1 := H.2 j (ready_mono hj hji)
      obtain ⟨hjun, oj, hoj, hall⟩ := mem_ready.1 hj
      have hnot : ∀ e ∈ oj.after, Region.binds md e = true → e.on ≠ i := fun e he hb heq => by
        have h1 := hall e he hb
        have h0 := (mem_ready.1 hr).1
        rw [heq] at h1
        rcases Nat.lt_or_ge i listed.size with h' | h'
        · simp [h'] at h0 h1; rw [h0] at h1; cases h1
        · simp [Array.getElem?_eq_none h'] at h1
      have h2 := wpOp_putIf hoj (hfree j oj hoj hji hjun hnot) (fun cs b => hsel i oi cs b hi) (fun cs b => hsel j oj cs b hoj) hQ hy h1
      have hfree' : ∀ k ok, ops[k]? = some ok → k ≠ i → (listed.setIfInBounds j true).getD k true = false →
          (∀ e ∈ ok.after, Region.binds md e = true → e.on ≠ i) → oi.apart ops ok = true := fun k ok hk hki hun hno => by
        refine hfree k ok hk hki ?_ hno
        by_cases hjk : j = k
        · subst hjk; exact hjun
        · rw [getD_set_ne true hjk] at hun; exact hun
      have hsw : ∀ h : (listed.setIfInBounds j true).getD e true = false, ((listed.setIfInBounds i true).setIfInBounds j true).getD e true = false := fun h => by
        rw [Array.setIfInBounds_comm _ _ (Ne.symm hji), getD_set_ne true hie]; exact h
      refine wpOp_mono (fun a' w' h3 => ⟨fun h => h3.2.1 (hsw h), ih (listed.setIfInBounds j true) a' w' (hT _ _ hTl (mem_ready.1 hr).1 hj hji) hfree' (ready_mono hr (Ne.symm hji)) h3.1 (fun h => h3.2.1 (hsw h)) ?_⟩) h2
      rw [Array.setIfInBounds_comm _ _ hji]
      exact h3.2.2
theorem wpAnyL_all {rs : List Nat} {fuel : Nat} {listed : Array Bool} {a : Act} {w : World} (hr : Region.ready md ops listed = rs) (hne : rs ≠ [])
    (h : ∀ i ∈ rs, wpOp P ops Q i (fun a' w' => ((listed.setIfInBounds i true).getD e true = false → S w') ∧ wpAnyL P md ops Q S e fuel (listed.setIfInBounds i true) a' w') a w) : wpAnyL P md ops Q S e (fuel + 1) listed a w :=
  ⟨fun h0 => absurd (hr ▸ h0) hne, hr ▸ h⟩
theorem wpAnyL_done {listed : Array Bool} {a : Act} {w : World} (hr : Region.ready md ops listed = []) (h : Q .normal a w) :
    ∀ fuel, wpAnyL P md ops Q S e fuel listed a w
  | 0 => ⟨hr, h⟩
  | _ + 1 => ⟨fun _ => h, by rw [hr]; simp⟩
end
/-- Number e waits for number i. -/
def waitsB (ops : Array Oper) (e i : Nat) : Bool := match ops[e]? with
 | some o => o.after.any (fun x => Region.binds .any x && Nat.beq x.on i)
 | none => false
theorem not_lst {N : Nat} {d : List Nat} {e : Nat} (h : (lst N d).getD e true = true) {p : Prop} (h2 : (lst N d).getD e true = false) : p := by
 rw [h] at h2; cases h2
section
variable {P : Program} {ops : Array Oper} {K : Act → World → Prop} {S : World → Prop} {N n : Nat} {done : List Nat} {fuel e : Nat} {a : Act} {w : World} {l : List (Nat × Value)}
/-- What reads memory, while S holds; e waits for it. -/
theorem dl_val {ds : List Deferred} (i d : Nat) {op : Op} {v : Value} (hF : Fs n a l (ds := ds)) (hS : S w) (hop : lookG ops i = some (some d, op, none)) (hr : ∀ W, S W → Runs P n l W op v) (hok : okTake ops (lst N done) i = true) (hw : (waitsB ops e i && (! (lst N done).getD e true) && ! Nat.beq i e) = true) (hd : d < n)
    (h : ∀ a', Fs n a' ((d, v) :: l) (ds := ds) → wpAnyL P .any ops (QN K) S e fuel (lst N (i :: done)) a' w) : wpAnyL P .any ops (QN K) S e (fuel + 1) (lst N done) a w := by
  obtain ⟨o, ho, hdst, hopp, hgu⟩ := lookG_some hop
  simp only [okTake, Bool.and_eq_true] at hok
  simp only [Bool.and_eq_true, Bool.not_eq_true'] at hw
  obtain ⟨⟨hw1, hw2⟩, hw3⟩ := hw
  have hie : i ≠ e := Nat.ne_of_beq_eq_false hw3
  refine wpAnyL_first (S' := S) (T := fun l => l.getD e true = false) ho (Region.noSelect_spec hok.1.1) (fun _ _ _ h => h) hie (fun l w h1 h2 => h2 h1) (fun l j h1 h2 hj hji => ?_) fuel _ a w hw2 (Region.free_spec ho hok.1.2) (by simpa using hok.2) (.inl ⟨wanted_none o hgu _, fun W hW => hr W hW _ a hF o hopp⟩) (fun _ => hS) ?_
  · have hje : j ≠ e := by
      rintro rfl
      obtain ⟨_, oj, hoj, hall⟩ := mem_ready.1 hj
      simp only [waitsB, hoj] at hw1
      rw [Array.any_eq_true] at hw1
      obtain ⟨q, hq, hb⟩ := hw1
      simp only [Bool.and_eq_true] at hb
      have := hall _ (Array.getElem_mem hq) hb.1
      rw [Nat.eq_of_beq_eq_true hb.2] at this
      rcases Nat.lt_or_ge i l.size with h' | h'
      · simp [h'] at h2 this; rw [h2] at this; cases this
      · simp [Array.getElem?_eq_none h'] at this
    rw [getD_set_ne true hje]; exact h1
  · rw [hdst]
    exact h _ (hF.put d hd v)
theorem dl_one (i : Nat) (d : Option Tmp) (op : Op) (ho : (ops[i]?).map (fun o => (o.dst, o.op, o.guard)) = some (d, op, none)) (hr : Region.ready .any ops (lst N done) = [i])
    (h : ∀ ty pos af, wpList P ops (QN fun a' w' => ((lst N (i :: done)).getD e true = false → S w') ∧ wpAnyL P .any ops (QN K) S e fuel (lst N (i :: done)) a' w') [⟨d, op, ty, pos, af, none⟩] a w) : wpAnyL P .any ops (QN K) S e (fuel + 1) (lst N done) a w := by
  refine wpAnyL_all hr (by simp) (fun j hj => ?_)
  simp at hj
  subst hj
  exact d_op j d op ho h
theorem dl_end (hr : Region.ready .any ops (lst N done) = []) (h : K a w) : wpAnyL P .any ops (QN K) S e fuel (lst N done) a w := wpAnyL_done hr h _
variable {r : Option Nat} {m : Nat}
theorem dlw_start {id : Nat} {ops0 : Array Oper} {Q : Exit → Act → World → Prop} (S : World → Prop) (e : Nat) (ho : ops = ops0) (hm : P.follows .mixedOrders = true) (hN : ops.size = N)
    (h : ∀ K : Act → World → Prop, (∀ a w, Q .normal a w → K a w) → wpAnyL P .any ops (QN K) S e N (lst N []) a w.drew) : (Code.region id ops0 true).wp P Q a w := by
  subst ho
  subst hN
  refine Code.wp_mono (fun e a w h => ?_) (wp_region_any (Q := QN fun a w => Q .normal a w) hm (wpAny_of_L _ _ _ _ (h _ fun _ _ h => h)))
  cases e <;> first | exact h | exact (h : False).elim
theorem dlw_region {id : Nat} {ops0 : Array Oper} {Q : Exit → Act → World → Prop} (b c e : Nat) (ho : ops = ops0) (hm : P.follows .mixedOrders = true) (hN : ops.size = N)
    (h : ∀ wd, wd.heap = w.heap → Below w.heap.size w wd → Ktw b c wd wd → ∀ K : Act → World → Prop, (∀ a w, Q .normal a w → K a w) → wpAnyL P .any ops (QN K) (Ktw b c wd) e N (lst N []) a wd) : (Code.region id ops0 true).wp P Q a w :=
  dlw_start (Ktw b c w.drew) e ho hm hN (h w.drew rfl (drawn_below w) (Ktw.refl b c _))
end
end Go.Proofs.Ytmkjhdiepkpdoaa

namespace Go.Proofs.Ytmkjhdiepkpdoaa
open Go.RowKit Go.Shelf
set_option linter.unusedVariables false
set_option linter.unusedSimpArgs false
/-- Number i has come up. -/
def Up (listed : Array Bool) (i : Nat) : Prop := listed.getD i true = true
instance (listed : Array Bool) (i : Nat) : Decidable (Up listed i) := inferInstanceAs (Decidable (_ = _))
/-- How many of the first n have not come up. -/
def leftN (listed : Array Bool) : Nat → Nat
 | 0 => 0
 | n + 1 => leftN listed n + (if listed.getD n true = false then 1 else 0)
section
variable {P : Program} {ops : Array Oper} {Q : Exit → Act → World → Prop} {md : Region.Mode}
end
section
variable {P : Program} {ops : Array Oper} {N : Nat} {a : Act} {w : World} {r : Option Nat} {m : Nat}
end
end Go.Proofs.Ytmkjhdiepkpdoaa

namespace Go.Proofs.Ytmkjhdiepkpdoaa
open Go.RowKit Go.Shelf
set_option linter.unusedVariables false
set_option linter.unusedSimpArgs false
theorem Up.set {listed : Array Bool} {i j : Nat} (h : Up (listed.setIfInBounds i true) j) : j = i ∨ Up listed j := by
 by_cases e : j = i
 ·
  exact .inl e
 ·
  exact .inr (by unfold Up at h ⊢; rwa [getD_set_ne true (fun h => e h.symm)] at h)
theorem Up.keep {listed : Array Bool} {i j : Nat} (h : Up listed j) : Up (listed.setIfInBounds i true) j := by
 unfold Up at h ⊢
 by_cases e : i = j
 ·
  subst e
  by_cases hl : i < listed.size
  ·
   simp [hl]
  ·
   rw [Array.getD_eq_getD_getElem?, Array.getElem?_eq_none (by simp; omega)]; rfl
 ·
  rwa [getD_set_ne true e]
/-- What has come up: blocks bs, answers vs. -/
structure BoxInv (n : Nat) (l0 : List (Nat × Value)) (dst : Nat → Nat) (al : Nat → Bool) (es : List Nat) (t : Nat) (zs : List Value) (R : Nat → Value → World → (Nat → Prop) → Prop) (w0 : World) (bs : Nat → Nat) (vs : Nat → Value) (listed : Array Bool) (a : Act) (w : World) : Prop where
 below : Below w0.heap.size w0 w
 frame : ∃ l, Fs n a l ∧ (∀ s u, lk l0 s = some u → lk l s = some u) ∧ ∀ i, i ∈ es → Up listed i → lk l (dst i) = some (if al i = true then .pointer (some ⟨bs i, 0, none⟩) else vs i)
 box : ∀ i, i ∈ es → al i = true → Up listed i → Blk w (bs i) t zs ∧ w0.heap.size ≤ bs i
 ne : ∀ i j, i ∈ es → j ∈ es → al i = true → al j = true → Up listed i → Up listed j → i ≠ j → bs i ≠ bs j
 val : ∀ i, i ∈ es → al i = false → Up listed i → R i (vs i) w (fun k => k < w.heap.size ∧ ∀ j, j ∈ es → al j = true → Up listed j → k ≠ bs j)
/-- Whether o waits for number j. -/
def waits (o : Oper) (j : Nat) : Bool := o.after.toList.any fun e => Region.binds .any e && Nat.beq e.on j
/-- What is left of es waits for nothing but for what has come up; all else waits for all of es. -/
def onlyB (ops : Array Oper) (N : Nat) (es done : List Nat) : Bool := (List.range N).all fun i => match ops[i]? with
 | none => false
 | some o => bif done.contains i then o.after.toList.all (fun e => ! Region.binds .any e || done.contains e.on)
  else bif es.contains i then o.after.toList.all (fun e => ! Region.binds .any e || done.contains e.on || (es.contains e.on && Nat.blt e.on i)) else es.all (fun j => waits o j || (List.range N).any (fun k => waits o k && match ops[k]? with | none => false | some q => waits q j))
section
variable {P : Program} {ops : Array Oper} {N : Nat} {a : Act} {w : World}
end
end Go.Proofs.Ytmkjhdiepkpdoaa

namespace Go.Proofs.Ytmkjhdiepkpdoaa
open Go.RowKit Go.Shelf
set_option linter.unusedVariables false
set_option linter.unusedSimpArgs false
section
variable {P : Program} {n d : Nat} {l : List (Nat × Value)} {w : World} {a : Act} {ops : Array Oper} {Q : Exit → Act → World → Prop} {rest : List Oper} {ty : TypeId} {pos : String} {af : Array Edge} {x y : Operand} {v u : Value} {base t e k kb m p o : Nat} {xs ys : List Value}
/-- More elements; o is the block of the slice, if it has one. -/
theorem s_appP {ds : List Deferred} (hE : Elem P t e k kb) (hF : Fs n a l (ds := ds)) (hd : d < n) (hx : ov l x = some v) (hy : ov l y = some u) (hO : w.ownsRow base e k v m xs) (hR : Rd w u k p ys) (h1 : ∀ u ∈ ys, u.oneCell' = true) (hat : ∀ j, v.ownBlock = some j → j = o) (ho : o < w.heap.size) (hlen : (m + p) * kb ≤ 140737488355328) (hml : m + p ≤ maxLen) (hb : base ≤ w.heap.size)
    (h : ∀ v' w' a' o', w'.ownsRow base e k v' (m + p) (xs ++ ys) → (∀ j, v'.ownBlock = some j → j = o') → ((o' = o ∨ w.heap.size ≤ o') ∧ o' < w'.heap.size) → Ktw o o w w' → Fs n a' ((d, v') :: l) (ds := ds) → wpList P ops Q rest a' w') :
    wpList P ops Q (⟨some d, .call { callee := .builtin .append, args := #[x, y], argTypes := #[t, t] }, ty, pos, af, none⟩ :: rest) a w := by
  refine s_appG hE hF hd hx hy hO hR h1 hlen hml hb fun v' w' a' hO' hg hw hF' => ?_
  have hK : Ktw o o w w' := ⟨hg.os, hg.tape, hg.output, hg.size, fun j hj hne => hg.block j hj (fun e => by have := hat j e.symm; omega)⟩
  cases hv : v'.ownBlock with
  | none => exact h v' w' a' o hO' (fun j hj => by rw [hv] at hj; cases hj) ⟨.inl rfl, Nat.lt_of_lt_of_le ho hg.size⟩ hK hF'
  | some q =>
    refine h v' w' a' q hO' (fun j hj => by rw [hv] at hj; exact (Option.some.inj hj).symm) ⟨?_, (hO'.lt q hv).2⟩ hK hF'
    rcases hw q hv with h1 | h1
    · exact .inl (hat q h1)
    · exact .inr h1
/-- A slice of nothing with room for m is made. -/
theorem s_mkC {ds : List Deferred} {kl kc : IntKind} {q : Int} (m : Nat) (hE : Elem P t e k kb) (hF : Fs n a l (ds := ds)) (hd : d < n) (hx : ov l x = some (.int kl 0)) (hy : ov l y = some (.int kc q)) (hb : kb * m ≤ 281474976710656) (hm : m < 9223372036854775808) (hq : q = (m : Int))
    (h : ∀ w' b a' cs, b = w.heap.size → cs.length = m * k → Blk w' b e cs → Below w.heap.size w w' → w'.heap.size = w.heap.size + 1 → Fs n a' ((d, .slice (some ⟨b, 0, none⟩) 0 m) :: l) (ds := ds) → wpList P ops Q rest a' w') :
    wpList P ops Q (⟨some d, .makeSlice t x y, ty, pos, af, none⟩ :: rest) a w := by
  obtain ⟨i, z, hi, hz, hs, hby, hzc⟩ := hE.info
  subst hq
  have hb' : (i.bytes : Int) * (m : Int) ≤ 281474976710656 := by
    have h : ((i.bytes * m : Nat) : Int) ≤ 281474976710656 := by rw [hby]; omega
    rwa [Int.natCast_mul] at h
  have hr := run_make (P := P) w t e i z hE.under hi hz kl kc 0 m (by omega) (by omega) hb' (by omega)
  simp only [Int.toNat_natCast, Int.toNat_zero] at hr
  refine s_new (w' := w.alloc (Obj.cells (madeCells z.cells (m * i.size)) e)) (v := .slice (some ⟨w.heap.size, 0, none⟩) 0 m) hF (fun o ho => by simp [execOp, ho, hF.ov hx, hF.ov hy, hr]) hd fun a' hF' => h _ _ a' (madeCells z.cells (m * i.size)).toList rfl ?_ ?_ (below_alloc _) (size_alloc _) hF'
  · rw [Array.length_toList, size_madeCells, hs]
  · have := blk_alloc (w := w) e (madeCells z.cells (m * i.size)).toList
    rwa [Array.toArray_toList] at this
theorem below_bytes (w : World) (e : TypeId) (s : ByteArray) : Below w.heap.size w (Lib.bytesWorld w e s) :=
 ⟨rfl, rfl, rfl, by rw [Lib.bytesWorld_size]; omega, fun k hk => Lib.bytesWorld_at_old w e s k hk⟩
/-- '[]byte(s)'. -/
theorem s_s2b {ds : List Deferred} {src dst : TypeId} {s : ByteArray} (hF : Fs n a l (ds := ds)) (hd : d < n) (hx : ov l x = some (.string s)) (hs : P.underlying src = some .string) (ht : P.underlying dst = some (.slice e)) (he : P.underlying e = some (.int .u8))
    (h : ∀ w' v a', Rd w' v 1 s.data.toList.length (s.data.toList.map encB) → (∀ j, v.ownBlock = some j → w.heap.size ≤ j) → Below w.heap.size w w' → Fs n a' ((d, v) :: l) (ds := ds) → wpList P ops Q rest a' w') :
    wpList P ops Q (⟨some d, .convert src dst x, ty, pos, af, none⟩ :: rest) a w := by
  refine s_new (w' := Lib.bytesWorld w e s) (v := .slice (some ⟨w.heap.size, 0, none⟩) s.size (grownCap w s.size 0 e)) hF (fun o ho => by simp [execOp, ho, hF.ov hx, Lib.run_convert_string_bytes w src dst e s hs ht he]) hd fun a' hF' => h _ _ a' ?_ (fun j hj => by cases hj; exact Nat.le_refl _) (below_bytes w e s) hF'
  have hl : s.data.toList.length = s.size := by rw [Array.length_toList]; rfl
  refine ⟨by rw [List.length_map, Nat.mul_one], .inr ⟨w.heap.size, 0, _, by rw [hl], by rw [hl]; exact grownCap_ge w s.size 0 e, by rw [Lib.bytesWorld_size]; omega, fun j u hj => ?_⟩⟩
  rw [Nat.zero_add]
  rw [List.getElem?_map] at hj
  cases hg : s.data.toList[j]? with
  | none => rw [hg] at hj; cases hj
  | some b =>
    rw [hg] at hj
    cases hj
    have hlt : j < s.size := by rw [← hl]; exact (List.getElem?_eq_some_iff.1 hg).1
    rw [Lib.bytesWorld_cell w e s j hlt]
    simp only [List.getD, hg, Option.getD_some, encB]
end
theorem Rd.k2p {w w' : World} {a b k n : Nat} {v : Value} {cs : List Value} (m : Rd w v k n cs) (h : Ktw a b w w') (hb : ∀ c, v.ownBlock = Option.some c → 0 < n → c ≠ a ∧ c ≠ b) : Rd w' v k n cs := by
 rcases Nat.eq_zero_or_pos n with h0 | h0
 ·
  refine ⟨m.1, ?_⟩
  have hc : cs = [] := List.eq_nil_of_length_eq_zero (by rw [m.1, h0]; simp)
  rcases m.2 with h1 | ⟨b, off, cap, h1, h2, h3, h4⟩
  ·
   exact .inl h1
  ·
   exact .inr ⟨b, off, cap, h1, h2, Nat.lt_of_lt_of_le h3 h.size, fun j u hj => by rw [hc] at hj; simp at hj⟩
 ·
  exact m.k2 h fun c hc => hb c hc h0
/-- What a call that puts bytes behind leaves: the row is owned, no old block has turned but o. -/
def PutsY (e base o : Nat) (w : World) (xs : List UInt8) (E : Ending) (w' : World) : Prop := ∃ v', E = .returned v' ∧ (∃ o', w'.ownsRow base e 1 v' xs.length (xs.map encB) ∧ (∀ j, v'.ownBlock = some j → j = o') ∧ ((o' = o ∨ w.heap.size ≤ o') ∧ o' < w'.heap.size)) ∧ Ktw o o w w'
/-- What a call that makes bytes leaves. -/
def FreshY (e : Nat) (w : World) (xs : List UInt8) (E : Ending) (w' : World) : Prop := ∃ v', E = .returned v' ∧ (∃ o', w'.ownsRow w.heap.size e 1 v' xs.length (xs.map encB) ∧ (∀ j, v'.ownBlock = some j → j = o') ∧ (w.heap.size ≤ o' ∧ o' < w'.heap.size)) ∧ Below w.heap.size w w'
theorem oneY (xs : List UInt8) : ∀ u ∈ xs.map encB, u.oneCell' = true := by intro u hu; obtain ⟨z, _, rfl⟩ := List.mem_map.1 hu; rfl
theorem own_base {w : World} {e k n b b' : Nat} {v : Value} {xs : List Value} (h : w.ownsRow b e k v n xs) (hb : b' ≤ b) : w.ownsRow b' e k v n xs := by
 refine ⟨h.1, ?_⟩
 rcases h.2 with h | ⟨g, cap, cur, h1, h2, h3⟩
 ·
  exact .inl h
 ·
  exact .inr ⟨g, cap, cur, h1, Nat.le_trans hb h2, h3⟩
theorem run_eqNil {P : Program} (w : World) (d : Nat) (t : TypeId) {ps rs : Array TypeId} {z : Bool} (h : P.underlying t = some (.func ps rs z)) (fn : Fn) (a b : Array Value) :
    (Op.equalIn (d + 1) t (.func fn a b) .nilFunc).run P w = .ok false w := by simp [Op.equalIn, run_underlying h]
/-- A function that is there is not nil. -/
theorem x_eqNil {P : Program} {n : Nat} {l : List (Nat × Value)} {w : World} {t t' : TypeId} {ps rs : Array TypeId} {vr : Bool} {x : Operand} {f : Fn} {a b : Array Value} (h : P.underlying t = some (.func ps rs vr)) (hx : ov l x = some (.func f a b)) : Runs P n l w (.binOp .eql t x (.const .nilFunc) t') (.bool false) :=
 x_bin hx rfl fun W => ⟨by simp [eqGuard], by
  simp only [binOp]
  simp [Op.equal, Op.maxDepth, run_eqNil W 9999 t h]⟩
theorem d2n {m : Nat} (h : m < 18446744073709551616) : (UInt64.ofNat m).toNat = m := by
 rw [UInt64.toNat_ofNat']; exact Nat.mod_eq_of_lt h
end Go.Proofs.Ytmkjhdiepkpdoaa

namespace Go.Proofs.Ytmkjhdiepkpdoaa
set_option linter.unusedVariables false
set_option linter.unusedSimpArgs false
/-- A level of one of the four kinds. -/
inductive SL where
 | num (n : Nat) : SL
 | var (i : Nat) : SL
 | succ (n : Nat) (a : SL) : SL
 | mx (a b : SL) : SL
deriving DecidableEq
def SL.size : SL → Nat
 | .num _ => 1
 | .var _ => 1
 | .succ _ a => a.size + 1
 | .mx a b => a.size + b.size + 1
def SL.dep : SL → Nat
 | .num _ => 1
 | .var _ => 1
 | .succ _ a => a.dep + 1
 | .mx a b => max a.dep b.dep + 1
/-- Its numbers are at most top, its variables below vars. -/
def SL.nums (top vars : Nat) : SL → Prop
 | .num n => n ≤ top
 | .var i => i < vars
 | .succ n a => 1 ≤ n ∧ n ≤ top ∧ a.nums top vars
 | .mx a b => a.nums top vars ∧ b.nums top vars
def SL.good (s : SL) : Prop := s.size ≤ 1000 ∧ s.dep ≤ 256 ∧ s.nums 1099511627776 1001
/-- Its numbers are at most 2^40. -/
def SL.few : SL → Prop
 | .num n => n ≤ 1099511627776
 | .var _ => True
 | .succ n a => n ≤ 1099511627776 ∧ a.few
 | .mx a b => a.few ∧ b.few
theorem SL.nums.few {top vars : Nat} (ht : top ≤ 1099511627776) : ∀ {s : SL}, s.nums top vars → s.few
 | .num n, h => by simp only [SL.nums, SL.few] at *; omega
 | .var _, _ => trivial
 | .succ n a, h => ⟨by have := h.2.1; omega, SL.nums.few ht h.2.2⟩
 | .mx a b, h => ⟨SL.nums.few ht h.1, SL.nums.few ht h.2⟩
def cut (x : Int) : Int := min x 1099511627776
def kf : SL → Int → Nat → Int
 | .num _, _, _ => -1
 | .var i, n, j => if i = j then n else -1
 | .succ m a, n, j => kf a (cut (n + m)) j
 | .mx a b, n, j => max (kf a n j) (kf b n j)
def cf : SL → Int → Int
 | .num m, n => cut (n + m)
 | .var _, _ => -1
 | .succ m a, n => cf a (cut (n + m))
 | .mx a b, n => max (cf a n) (cf b n)
def km : SL → Int → Int
 | .num _, _ => -1
 | .var _, n => n
 | .succ m a, n => km a (cut (n + m))
 | .mx a b, n => max (km a n) (km b n)
def sh (m k : Int) : Int := if k < 0 then -1 else cut (k + m)
/-! ### Lists of numbers by place -/
def gt (L : List Int) (j : Nat) : Int := L.getD j (-1)
/-- The last one is 0 or more. -/
def Tm (L : List Int) : Prop := ∀ h : L ≠ [], 0 ≤ L.getLast h
def Lo (L : List Int) : Prop := ∀ x ∈ L, -1 ≤ x
theorem gt_lt {L : List Int} {j : Nat} (h : j < L.length) : gt L j = L[j] := by simp [gt, h]
theorem gt_ge {L : List Int} {j : Nat} (h : L.length ≤ j) : gt L j = -1 := by simp [gt, List.getElem?_eq_none h]
theorem Lo.gt {L : List Int} (h : Lo L) (j : Nat) : -1 ≤ gt L j := by
 by_cases hj : j < L.length
 ·
  rw [gt_lt hj]; exact h _ (List.getElem_mem hj)
 ·
  rw [gt_ge (by omega)]; omega
theorem Tm.last {L : List Int} (h : Tm L) (hp : 0 < L.length) : 0 ≤ gt L (L.length - 1) := by
 have hne : L ≠ [] := by rintro rfl; simp at hp
 have := h hne
 rw [gt_lt (by omega)]
 rwa [List.getLast_eq_getElem] at this
def padL (L : List Int) (m : Nat) : List Int := L ++ List.replicate (m - L.length) (-1)
def up (L : List Int) (i : Nat) (n : Int) : List Int := (padL L (i + 1)).set i (max (gt L i) n)
def rk : SL → Int → List Int → List Int
 | .num _, _, L => L
 | .var i, n, L => up L i n
 | .succ m a, n, L => rk a (cut (n + m)) L
 | .mx a b, n, L => rk b n (rk a n L)
def rc : SL → Int → Int → Int
 | .num m, n, c => max c (cut (n + m))
 | .var _, _, c => c
 | .succ m a, n, c => rc a (cut (n + m)) c
 | .mx a b, n, c => rc b n (rc a n c)
/-! ### The greatest of a list; settled forms -/
def mxl (L : List Int) : Int := L.foldl max (-1)
def setl (c : Int) (L : List Int) : Int := if c ≤ mxl L then 0 else c
def nfK (s : SL) : List Int := rk s 0 []
def nfC (s : SL) : Int := if cf s 0 ≤ km s 0 then 0 else cf s 0
/-! ### The reference's forms -/
def trim : Nat → List Int → List Int
 | 0, K => K
 | f + 1, K => if 0 < K.length ∧ gt K (K.length - 1) < 0 then trim f (K.take (K.length - 1)) else K
def tidyK (K : List Int) : List Int := trim K.length K
def bothK (A B : List Int) : List Int := (List.range (max A.length B.length)).map fun i => max (gt A i) (gt B i)
def plusK (K : List Int) (n : Int) : List Int := K.map fun k => if 0 ≤ k then cut (k + n) else k
/-- What plus does with c. -/
def plusC (c : Int) (K : List Int) (n : Int) : Int := if K = [] ∨ 0 < c then cut (c + n) else c
/-! ### The program's joins -/
/-- Behind the first i of G, n more, onto L. -/
def jn (L G : List Int) (n : Int) : Nat → List Int
 | 0 => L
 | i + 1 => if gt G i = -1 then jn L G n i else up (jn L G n i) i (cut (n + gt G i))
/-- c and L come to t's form, settled. -/
structure IsF (c : Int) (L : List Int) (t : SL) : Prop where
 ks : L = nfK t
 nn : 0 ≤ c
 hi : c ≤ 1099511627776
 set : setl c L = nfC t
end Go.Proofs.Ytmkjhdiepkpdoaa

namespace Go.Proofs.Ytmkjhdiepkpdoaa
open Go.RowKit Go.Shelf
set_option linter.unusedVariables false
set_option linter.unusedSimpArgs false
theorem wide_orders : Try.prog.follows .mixedOrders = true := by kernel_rfl
theorem flat3 : Flat Try.prog 3 = true := by kernel_rfl
theorem flat22 : Flat Try.prog 22 = true := by kernel_rfl
theorem wide24 : Wide Try.prog 24 3 = true := by kernel_rfl
theorem el22 : Elem Try.prog 22 24 3 40 := elem_of (by kernel_rfl)
theorem zero3 : (Try.prog.info? 3).bind (·.zero) = some (.int .i64 0) := by kernel_rfl
theorem zero24 : (Try.prog.info? 24).bind (·.zero) = some (.agg [Value.int .i64 0, Value.int .i64 0, Value.slice none 0 0].toArray) := by kernel_rfl
theorem fa24_0 : fldB Try.prog 24 0 0 = true := by kernel_rfl
theorem fa24_1 : fldB Try.prog 24 1 1 = true := by kernel_rfl
theorem fa24_2 : fldB Try.prog 24 2 2 = true := by kernel_rfl
theorem fa54_0 : fldB Try.prog 163 0 0 = true := by kernel_rfl
theorem fa54_1 : fldB Try.prog 163 1 1 = true := by kernel_rfl
theorem fa54_2 : fldB Try.prog 163 2 2 = true := by kernel_rfl
theorem fa54_3 : fldB Try.prog 163 3 3 = true := by kernel_rfl
/-- A level's three cells: its kind, its number, its kids. -/
abbrev C3 := Int × Int × Value
def lc (x : C3) : List Value := [.int .i64 x.1, .int .i64 x.2.1, x.2.2]
abbrev lv (x : C3) : Value := .agg (lc x).toArray
abbrev ints (ks : List Int) : List Value := ks.map (Value.int .i64)
/-- A slice is one cell. -/
theorem Rd.one {W : World} {v : Value} {k n : Nat} {cs : List Value} (h : Rd W v k n cs) : v.oneCell' = true := by
 obtain ⟨a, c, rfl, _⟩ := h.form
 rfl
theorem one_lc {k n : Int} {v : Value} (h : v.oneCell' = true) : ∀ u ∈ lc (k, n, v), u.oneCell' = true := by
 intro u hu
 simp only [lc, List.mem_cons, List.not_mem_nil, or_false] at hu
 rcases hu with rfl | rfl | rfl
 ·
  rfl
 ·
  rfl
 ·
  exact h
theorem fm3_get : ∀ (xs : List C3) (i j : Nat) (x : C3) (u : Value), xs[i]? = some x → (lc x)[j]? = some u → (xs.flatMap lc)[i * 3 + j]? = some u
 | [], i, j, x, u, h1, _ => by simp at h1
 | y :: xs, 0, j, x, u, h1, h2 => by
  simp at h1
  subst h1
  have hj : j < 3 := (List.getElem?_eq_some_iff.1 h2).1
  rw [List.flatMap_cons, List.getElem?_append_left (by simp [lc]; omega), Nat.zero_mul, Nat.zero_add, h2]
 | y :: xs, i + 1, j, x, u, h1, h2 => by
  rw [List.flatMap_cons, List.getElem?_append_right (by simp [lc]; omega), show (i + 1) * 3 + j - (lc y).length = i * 3 + j by simp [lc]; omega]
  exact fm3_get xs i j x u (by simpa using h1) h2
/-- A kid, read. -/
theorem rd_row3 {W : World} {v : Value} {xs : List C3} (h : Rd W v 3 xs.length (xs.flatMap lc)) {i : Nat} (hi : i < xs.length) :
    ∃ b off c x, v = .slice (some ⟨b, off, none⟩) xs.length c ∧ xs[i]? = some x ∧ ∀ W', Below W.heap.size W W' → ∀ j u, (lc x)[j]? = some u → W'.cell? ((⟨b, off + i * 3, none⟩ : Addr).add j) = some u := by
  obtain ⟨b, off, c, rfl, hb⟩ := h.some (by omega)
  refine ⟨b, off, c, xs[i], rfl, List.getElem?_eq_getElem hi, fun W' hB j u hj => ?_⟩
  rw [addr_addn, Nat.add_assoc]
  exact (hB.cell (p := ⟨b, off + (i * 3 + j), none⟩) hb).trans (h.cell (fm3_get xs i j _ u (List.getElem?_eq_getElem hi) hj))
/-- A level of whatever form. -/
inductive Lv where
 | mk (k n : Int) (ls : List Lv) : Lv
/-- x reads as l. -/
inductive RL (W : World) : C3 → Lv → Prop where
 | mk {k n : Int} {v : Value} {xs : List C3} {ls : List Lv} (hR : Rd W v 3 xs.length (xs.flatMap lc)) (hl : xs.length = ls.length) (hk : ∀ (i : Nat) x l, xs[i]? = some x → ls[i]? = some l → RL W x l) (hbd9 : ls.length ≤ 9223372036854775807 := by first | (simp; done) | assumption | omega) : RL W (k, n, v) (.mk k n ls)
/-- x reads as s. -/
def RS (W : World) : SL → C3 → Prop
 | .num n, x => x.1 = 1 ∧ x.2.1 = (n : Int) ∧ Rd W x.2.2 3 0 []
 | .var i, x => x.1 = 2 ∧ x.2.1 = (i : Int) ∧ Rd W x.2.2 3 0 []
 | .succ n a, x => x.1 = 3 ∧ x.2.1 = (n : Int) ∧ ∃ y, Rd W x.2.2 3 1 (lc y) ∧ RS W a y
 | .mx a b, x => x.1 = 4 ∧ ∃ y z, Rd W x.2.2 3 2 (lc y ++ lc z) ∧ RS W a y ∧ RS W b z
theorem RL.old {W W' : World} {x : C3} {l : Lv} (h : RL W x l) (hB : Below W.heap.size W W') : RL W' x l := by
 induction h with
 | mk hR hl hk hbd9 ih => exact .mk (hR.below hB) hl (fun i x l h1 h2 => ih i x l h1 h2) hbd9
theorem RS.below {W W' : World} (hB : Below W.heap.size W W') : ∀ {s : SL} {x : C3}, RS W s x → RS W' s x
 | .num n, x, h => ⟨h.1, h.2.1, h.2.2.below hB⟩
 | .var n, x, h => ⟨h.1, h.2.1, h.2.2.below hB⟩
 | .succ n a, x, ⟨h1, h2, y, h3, h4⟩ => ⟨h1, h2, y, h3.below hB, RS.below hB h4⟩
 | .mx a b, x, ⟨h1, y, z, h3, h4, h5⟩ => ⟨h1, y, z, h3.below hB, RS.below hB h4, RS.below hB h5⟩
theorem RS.slice {W : World} : ∀ {s : SL} {x : C3}, RS W s x → ∃ n cs, Rd W x.2.2 3 n cs
 | .num n, x, h => ⟨_, _, h.2.2⟩
 | .var n, x, h => ⟨_, _, h.2.2⟩
 | .succ n a, x, ⟨h1, h2, y, h3, h4⟩ => ⟨_, _, h3⟩
 | .mx a b, x, ⟨h1, y, z, h3, h4, h5⟩ => ⟨_, _, h3⟩
theorem RL.slice {W : World} {x : C3} {l : Lv} (h : RL W x l) : ∃ n cs, Rd W x.2.2 3 n cs := by
 cases h with
 | mk hR hl hk => exact ⟨_, _, hR⟩
/-! ### Which may be -/
def kidsB (k : Int) (len : Nat) : Bool := decide (((k = 1 ∨ k = 2) ∧ len = 0) ∨ (k = 3 ∧ len = 1) ∨ (k = 4 ∧ len = 2))
def numB (top k n : Int) : Bool := decide ((k = 1 → 0 ≤ n ∧ n ≤ top) ∧ (k = 3 → 1 ≤ n ∧ n ≤ top))
def nodeE (D top vars d : Int) (r : Nat) (k n : Int) (len : Nat) : Int :=
 if D < d ∨ r = 0 then 2 else if kidsB k len = false ∨ numB top k n = false then 1 else if k = 2 ∧ (n < 0 ∨ vars ≤ n) then 10 else 0
mutual
def chk (D top vars : Int) (d : Int) (r : Nat) : Lv → Int × Nat
 | .mk k n ls => if nodeE D top vars d r k n ls.length ≠ 0 then (nodeE D top vars d r k n ls.length, 0) else chks D top vars (d + 1) (r - 1) ls
def chks (D top vars : Int) (d : Int) (r : Nat) : List Lv → Int × Nat
 | [] => (0, r)
 | l :: ls => if (chk D top vars d r l).1 ≠ 0 then ((chk D top vars d r l).1, 0) else chks D top vars d (chk D top vars d r l).2 ls
end
mutual
theorem chk_le (D top vars : Int) (d : Int) (r : Nat) : ∀ l, (chk D top vars d r l).2 ≤ r
 | .mk k n ls => by
  unfold chk
  split
  ·
   exact Nat.zero_le _
  ·
   exact Nat.le_trans (chks_le D top vars (d + 1) (r - 1) ls) (Nat.sub_le _ _)
theorem chks_le (D top vars : Int) (d : Int) (r : Nat) : ∀ ls, (chks D top vars d r ls).2 ≤ r
 | [] => by simp [chks]
 | l :: ls => by
  unfold chks
  split
  ·
   exact Nat.zero_le _
  ·
   exact Nat.le_trans (chks_le D top vars d _ ls) (chk_le D top vars d r l)
end
def sndL (l : Lv) : Prop := (chk 256 1099511627776 1001 1 1000 l).1 = 0
instance (l : Lv) : Decidable (sndL l) := inferInstanceAs (Decidable (_ = _))
theorem nodeE_iff {D top vars d : Int} {r : Nat} {k n : Int} {len : Nat} : nodeE D top vars d r k n len = 0 ↔ d ≤ D ∧ r ≠ 0 ∧ kidsB k len = true ∧ numB top k n = true ∧ ¬ (k = 2 ∧ (n < 0 ∨ vars ≤ n)) := by
 unfold nodeE
 by_cases c1 : D < d ∨ r = 0
 ·
  rw [if_pos c1]
  constructor
  ·
   intro h; cases h
  ·
   rintro ⟨h1, h2, _⟩; omega
 ·
  rw [if_neg c1]
  by_cases c2 : kidsB k len = false ∨ numB top k n = false
  ·
   rw [if_pos c2]
   constructor
   ·
    intro h; cases h
   ·
    rintro ⟨_, _, h3, h4, _⟩; rcases c2 with h | h
    ·
     rw [h] at h3; cases h3
    ·
     rw [h] at h4; cases h4
  ·
   rw [if_neg c2]
   simp only [not_or, Bool.not_eq_false] at c2
   by_cases c3 : k = 2 ∧ (n < 0 ∨ vars ≤ n)
   ·
    rw [if_pos c3]
    constructor
    ·
     intro h; cases h
    ·
     rintro ⟨_, _, _, _, h⟩; exact absurd c3 h
   ·
    rw [if_neg c3]
    exact ⟨fun _ => ⟨by omega, by omega, c2.1, c2.2, c3⟩, fun _ => rfl⟩
theorem chk_in {D top vars d : Int} {r : Nat} {k n : Int} {ls : List Lv} (h : nodeE D top vars d r k n ls.length = 0) : chk D top vars d r (.mk k n ls) = chks D top vars (d + 1) (r - 1) ls := by
 rw [chk, if_neg (by simp [h])]
theorem chk_out {D top vars d : Int} {r : Nat} {k n : Int} {ls : List Lv} (h : nodeE D top vars d r k n ls.length ≠ 0) : (chk D top vars d r (.mk k n ls)).1 = nodeE D top vars d r k n ls.length := by
 rw [chk, if_pos h]
theorem chks_in {D top vars d : Int} {r : Nat} {l : Lv} {ls : List Lv} (h : (chk D top vars d r l).1 = 0) : chks D top vars d r (l :: ls) = chks D top vars d (chk D top vars d r l).2 ls := by
 rw [chks, if_neg (by simp [h])]
theorem chks_out {D top vars d : Int} {r : Nat} {l : Lv} {ls : List Lv} (h : (chk D top vars d r l).1 ≠ 0) : (chks D top vars d r (l :: ls)).1 = (chk D top vars d r l).1 := by
 rw [chks, if_pos h]
theorem chk_iff {D top vars d : Int} {r : Nat} {k n : Int} {ls : List Lv} : (chk D top vars d r (.mk k n ls)).1 = 0 ↔ nodeE D top vars d r k n ls.length = 0 ∧ (chks D top vars (d + 1) (r - 1) ls).1 = 0 := by
 by_cases h : nodeE D top vars d r k n ls.length = 0
 ·
  rw [chk_in h]; simp [h]
 ·
  rw [chk_out h]; simp [h]
theorem chks_iff {D top vars d : Int} {r : Nat} {l : Lv} {ls : List Lv} : (chks D top vars d r (l :: ls)).1 = 0 ↔ (chk D top vars d r l).1 = 0 ∧ (chks D top vars d (chk D top vars d r l).2 ls).1 = 0 := by
 by_cases h : (chk D top vars d r l).1 = 0
 ·
  rw [chks_in h]; simp [h]
 ·
  rw [chks_out h]; simp [h]
theorem nodeE1 {D top vars d n : Int} {r : Nat} : nodeE D top vars d r 1 n 0 = 0 ↔ d ≤ D ∧ r ≠ 0 ∧ 0 ≤ n ∧ n ≤ top := by
 rw [nodeE_iff]; simp [kidsB, numB]
theorem nodeE2 {D top vars d n : Int} {r : Nat} : nodeE D top vars d r 2 n 0 = 0 ↔ d ≤ D ∧ r ≠ 0 ∧ 0 ≤ n ∧ n < vars := by
 rw [nodeE_iff]; simp [kidsB, numB]
theorem nodeE3 {D top vars d n : Int} {r : Nat} : nodeE D top vars d r 3 n 1 = 0 ↔ d ≤ D ∧ r ≠ 0 ∧ 1 ≤ n ∧ n ≤ top := by
 rw [nodeE_iff]; simp [kidsB, numB]
theorem nodeE4 {D top vars d n : Int} {r : Nat} : nodeE D top vars d r 4 n 2 = 0 ↔ d ≤ D ∧ r ≠ 0 := by
 rw [nodeE_iff]; simp [kidsB, numB]
theorem len2 {α : Type} {xs : List α} (h : xs.length = 2) : ∃ a b, xs = [a, b] := by
 match xs, h with
 | [a, b], _ => exact ⟨a, b, rfl⟩
theorem kidsB_iff {k : Int} {len : Nat} : kidsB k len = true ↔ ((k = 1 ∨ k = 2) ∧ len = 0) ∨ (k = 3 ∧ len = 1) ∨ (k = 4 ∧ len = 2) := by simp only [kidsB, decide_eq_true_eq]
theorem numB_iff {top k n : Int} : numB top k n = true ↔ (k = 1 → 0 ≤ n ∧ n ≤ top) ∧ (k = 3 → 1 ≤ n ∧ n ≤ top) := by simp only [numB, decide_eq_true_eq]
/-- What passes is of the four kinds. -/
theorem chk_sl {W : World} {D top vars : Nat} {x : C3} {l : Lv} (h : RL W x l) : ∀ (d : Int) (r : Nat), (chk D top vars d r l).1 = 0 → ∃ s, RS W s x ∧ s.nums top vars ∧ (s.dep : Int) + d ≤ D + 1 ∧ s.size + (chk D top vars d r l).2 = r := by
 induction h with
 | @mk k n v xs ls hR hl hk hbd9 ih =>
  intro d r hc0
  obtain ⟨h0, hc⟩ := chk_iff.1 hc0
  clear hc0
  rw [chk_in h0]
  clear hk
  obtain ⟨h1, h2, h4, h5, h3⟩ := nodeE_iff.1 h0
  rw [kidsB_iff] at h4
  rw [numB_iff] at h5
  clear h0
  rcases h4 with ⟨hk12, h0⟩ | ⟨rfl, h0⟩ | ⟨rfl, h0⟩
  ·
   obtain rfl : ls = [] := List.eq_nil_of_length_eq_zero h0
   obtain rfl : xs = [] := List.eq_nil_of_length_eq_zero (by simpa using hl)
   simp only [chks]
   rcases hk12 with rfl | rfl
   ·
    have := h5.1 rfl
    exact ⟨.num n.toNat, ⟨rfl, by simp; omega, by simpa using hR⟩, by simp only [SL.nums]; omega, by simp only [SL.dep]; omega, by simp only [SL.size]; omega⟩
   ·
    exact ⟨.var n.toNat, ⟨rfl, by simp; omega, by simpa using hR⟩, by simp only [SL.nums]; omega, by simp only [SL.dep]; omega, by simp only [SL.size]; omega⟩
  ·
   have h6 := h5.2 rfl
   obtain ⟨a, rfl⟩ : ∃ a, ls = [a] := List.length_eq_one_iff.1 h0
   obtain ⟨y, rfl⟩ : ∃ y, xs = [y] := List.length_eq_one_iff.1 (by simpa using hl)
   obtain ⟨hq, _⟩ := chks_iff.1 hc
   obtain ⟨s, g1, g2, g3, g4⟩ := ih 0 y a rfl rfl (d + 1) (r - 1) hq
   rw [chks_in hq]
   simp only [chks]
   exact ⟨.succ n.toNat s, ⟨rfl, by simp; omega, y, by simpa using hR, g1⟩, ⟨by omega, by omega, g2⟩, by simp only [SL.dep]; omega, by simp only [SL.size]; omega⟩
  ·
   obtain ⟨a, b, rfl⟩ := len2 h0
   obtain ⟨y, z, rfl⟩ := len2 (hl.trans (by simp))
   obtain ⟨hq, hc⟩ := chks_iff.1 hc
   obtain ⟨hp, _⟩ := chks_iff.1 hc
   obtain ⟨s, g1, g2, g3, g4⟩ := ih 0 y a rfl rfl (d + 1) (r - 1) hq
   obtain ⟨t, g5, g6, g7, g8⟩ := ih 1 z b rfl rfl (d + 1) _ hp
   rw [chks_in hq, chks_in hp]
   simp only [chks]
   exact ⟨.mx s t, ⟨rfl, y, z, by simpa using hR, g1, g5⟩, ⟨g2, g6⟩, by simp only [SL.dep]; omega, by simp only [SL.size]; omega⟩
/-- A level of the four kinds, as one of whatever form. -/
theorem RS.rl {W : World} {D top vars : Nat} : ∀ {s : SL} {x : C3}, RS W s x → ∃ l, RL W x l ∧ ∀ (d : Int) (r : Nat), ((chk D top vars d r l).1 = 0 ↔ s.nums top vars ∧ (s.dep : Int) + d ≤ D + 1 ∧ s.size ≤ r) ∧ ((chk D top vars d r l).1 = 0 → (chk D top vars d r l).2 + s.size = r)
 | .num m, (k, n, v), ⟨h1, h2, h3⟩ => by
  simp only at h1 h2 h3
  subst h1 h2
  refine ⟨.mk 1 m [], .mk (xs := []) (by simpa using h3) rfl (fun i x l h => by simp at h), fun d r => ⟨?_, fun h => ?_⟩⟩
  ·
   rw [chk_iff, List.length_nil, nodeE1, chks]
   simp only [SL.nums, SL.dep, SL.size, and_true]
   omega
  ·
   have h0 := (chk_iff.1 h).1
   have := nodeE1.1 h0
   rw [chk_in h0]
   simp only [chks, SL.size]
   omega
 | .var m, (k, n, v), ⟨h1, h2, h3⟩ => by
  simp only at h1 h2 h3
  subst h1 h2
  refine ⟨.mk 2 m [], .mk (xs := []) (by simpa using h3) rfl (fun i x l h => by simp at h), fun d r => ⟨?_, fun h => ?_⟩⟩
  ·
   rw [chk_iff, List.length_nil, nodeE2, chks]
   simp only [SL.nums, SL.dep, SL.size, and_true]
   omega
  ·
   have h0 := (chk_iff.1 h).1
   have := nodeE2.1 h0
   rw [chk_in h0]
   simp only [chks, SL.size]
   omega
 | .succ m a, (k, n, v), ⟨h1, h2, y, h3, h4⟩ => by
  simp only at h1 h2 h3
  subst h1 h2
  obtain ⟨l, g1, g2⟩ := RS.rl (D := D) (top := top) (vars := vars) h4
  refine ⟨.mk 3 m [l], .mk (xs := [y]) (by simpa using h3) rfl (fun i x l' e1 e2 => ?_), fun d r => ?_⟩
  ·
   cases i
   ·
    simp at e1 e2; subst e1 e2; exact g1
   ·
    simp at e1
  ·
   obtain ⟨e1, e2⟩ := g2 (d + 1) (r - 1)
   refine ⟨?_, fun h => ?_⟩
   ·
    rw [chk_iff, show ([l] : List Lv).length = 1 from rfl, nodeE3, chks_iff, e1, chks]
    simp only [SL.nums, SL.dep, SL.size]
    exact ⟨fun ⟨⟨h1, h2, h3, h4⟩, ⟨h6, h7, h8⟩, _⟩ => ⟨⟨by omega, by omega, h6⟩, by omega, by omega⟩, fun ⟨⟨h1, h2, h3⟩, h4, h5⟩ => ⟨⟨by omega, by omega, by omega, by omega⟩, ⟨h3, by omega, by omega⟩, trivial⟩⟩
   ·
    obtain ⟨h0, hc⟩ := chk_iff.1 h
    have := nodeE3.1 h0
    obtain ⟨hq, _⟩ := chks_iff.1 hc
    have := e2 hq
    rw [chk_in h0, chks_in hq]
    simp only [chks, SL.size]
    omega
 | .mx a b, (k, n, v), ⟨h1, y, z, h3, h4, h5⟩ => by
  simp only at h1 h3
  subst h1
  obtain ⟨la, g1, g2⟩ := RS.rl (D := D) (top := top) (vars := vars) h4
  obtain ⟨lb, g3, g4⟩ := RS.rl (D := D) (top := top) (vars := vars) h5
  refine ⟨.mk 4 n [la, lb], .mk (xs := [y, z]) (by simpa using h3) rfl (fun i x l' e1 e2 => ?_), fun d r => ?_⟩
  ·
   rcases i with _ | _ | i
   ·
    simp at e1 e2; subst e1 e2; exact g1
   ·
    simp at e1 e2; subst e1 e2; exact g3
   ·
    simp at e1
  ·
   obtain ⟨e1, e2⟩ := g2 (d + 1) (r - 1)
   obtain ⟨e3, e4⟩ := g4 (d + 1) (chk D top vars (d + 1) (r - 1) la).2
   refine ⟨?_, fun h => ?_⟩
   ·
    rw [chk_iff, show ([la, lb] : List Lv).length = 2 from rfl, nodeE4, chks_iff, chks_iff, chks]
    simp only [SL.nums, SL.dep, SL.size]
    refine ⟨fun ⟨⟨h1, h2⟩, h6, h7, _⟩ => ?_, fun ⟨⟨h1, h2⟩, h4, h5⟩ => ?_⟩
    ·
     have := e2 h6
     obtain ⟨p1, p2, p3⟩ := e1.1 h6
     obtain ⟨p4, p5, p6⟩ := e3.1 h7
     exact ⟨⟨p1, p4⟩, by omega, by omega⟩
    ·
     have h6 := e1.2 ⟨h1, by omega, by omega⟩
     have := e2 h6
     exact ⟨⟨by omega, by omega⟩, h6, e3.2 ⟨h2, by omega, by omega⟩, trivial⟩
   ·
    obtain ⟨h0, hc⟩ := chk_iff.1 h
    have := nodeE4.1 h0
    obtain ⟨hq, hc⟩ := chks_iff.1 hc
    obtain ⟨hp, _⟩ := chks_iff.1 hc
    have := e2 hq
    have := e4 hp
    rw [chk_in h0, chks_in hq, chks_in hp]
    simp only [chks, SL.size]
    omega
theorem sound_sl {W : World} {x : C3} {l : Lv} (h : RL W x l) (hs : sndL l) : ∃ s, RS W s x ∧ s.good := by
 obtain ⟨s, h1, h2, h3, h4⟩ := chk_sl (D := 256) (top := 1099511627776) (vars := 1001) h 1 1000 hs
 exact ⟨s, h1, by omega, by omega, h2⟩
theorem RS.snd {W : World} {s : SL} {x : C3} (h : RS W s x) : ∃ l, RL W x l ∧ (sndL l ↔ s.good) := by
 obtain ⟨l, h1, h2⟩ := RS.rl (D := 256) (top := 1099511627776) (vars := 1001) h
 refine ⟨l, h1, ?_⟩
 have := (h2 1 1000).1
 unfold sndL SL.good
 constructor
 ·
  intro h
  have := this.1 h
  exact ⟨by omega, by omega, this.1⟩
 ·
  rintro ⟨g1, g2, g3⟩
  exact this.2 ⟨g3, by omega, g1⟩
theorem lc_inj {x y : C3} (h : lc x = lc y) : x = y := by
 obtain ⟨a, b, c⟩ := x
 obtain ⟨d, e, f⟩ := y
 simp [lc] at h
 obtain ⟨rfl, rfl, rfl⟩ := h
 rfl
theorem fm3_inj : ∀ {xs ys : List C3}, xs.length = ys.length → xs.flatMap lc = ys.flatMap lc → xs = ys
 | [], [], _, _ => rfl
 | [], _ :: _, h, _ => by simp at h
 | _ :: _, [], h, _ => by simp at h
 | x :: xs, y :: ys, h, e => by
  rw [List.flatMap_cons, List.flatMap_cons] at e
  obtain ⟨e1, e2⟩ := List.append_inj e rfl
  rw [lc_inj e1, fm3_inj (by simpa using h) e2]
/-- What a slice reads as is one thing. -/
theorem Rd.inj {W : World} {v : Value} {k n m : Nat} {cs ds : List Value} (h : Rd W v k n cs) (h' : Rd W v k m ds) : n = m ∧ cs = ds := by
 have e : n = m := by
  obtain ⟨a, c, rfl, _⟩ := h.form
  obtain ⟨a', c', e, _⟩ := h'.form
  cases e
  rfl
 subst e
 refine ⟨rfl, ?_⟩
 rcases Nat.eq_zero_or_pos n with rfl | hn
 ·
  have h1 := h.1
  have h2 := h'.1
  rw [Nat.zero_mul] at h1 h2
  rw [List.eq_nil_of_length_eq_zero h1, List.eq_nil_of_length_eq_zero h2]
 ·
  obtain ⟨b, off, c, rfl, hb⟩ := h.some hn
  apply List.ext_getElem (h.1.trans h'.1.symm)
  intro i h1 h2
  have e1 := h.cell (List.getElem?_eq_getElem h1)
  have e2 := h'.cell (List.getElem?_eq_getElem h2)
  rw [e1] at e2
  simpa using e2
theorem RS.inj {W : World} : ∀ {s t : SL} {x : C3}, RS W s x → RS W t x → s = t
 | .num a, .num b, x, h, h' => by have := h.2.1.symm.trans h'.2.1; congr 1; omega
 | .var a, .var b, x, h, h' => by have := h.2.1.symm.trans h'.2.1; congr 1; omega
 | .succ a s, .succ b t, x, ⟨_, h1, y, h2, h3⟩, ⟨_, h4, z, h5, h6⟩ => by
  have e := lc_inj (h2.inj h5).2
  subst e
  rw [RS.inj h3 h6, show a = b by omega]
 | .mx a b, .mx c d, x, ⟨_, y, z, h2, h3, h4⟩, ⟨_, y', z', h5, h6, h7⟩ => by
  have e := (h2.inj h5).2
  have e := List.append_inj e rfl
  have e1 := lc_inj e.1
  have e2 := lc_inj e.2
  subst e1 e2
  rw [RS.inj h3 h6, RS.inj h4 h7]
 | .num _, .var _, x, h, h' => by have := h.1.symm.trans h'.1; omega
 | .num _, .succ _ _, x, h, h' => by have := h.1.symm.trans h'.1; omega
 | .num _, .mx _ _, x, h, h' => by have := h.1.symm.trans h'.1; omega
 | .var _, .num _, x, h, h' => by have := h.1.symm.trans h'.1; omega
 | .var _, .succ _ _, x, h, h' => by have := h.1.symm.trans h'.1; omega
 | .var _, .mx _ _, x, h, h' => by have := h.1.symm.trans h'.1; omega
 | .succ _ _, .num _, x, h, h' => by have := h.1.symm.trans h'.1; omega
 | .succ _ _, .var _, x, h, h' => by have := h.1.symm.trans h'.1; omega
 | .succ _ _, .mx _ _, x, h, h' => by have := h.1.symm.trans h'.1; omega
 | .mx _ _, .num _, x, h, h' => by have := h.1.symm.trans h'.1; omega
 | .mx _ _, .var _, x, h, h' => by have := h.1.symm.trans h'.1; omega
 | .mx _ _, .succ _ _, x, h, h' => by have := h.1.symm.trans h'.1; omega
theorem RL.inj {W : World} {x : C3} {l l' : Lv} (h : RL W x l) : RL W x l' → l = l' := by
 induction h generalizing l' with
 | @mk k n v xs ls hR hl hk hbd9 ih =>
  intro h'
  cases h' with
  | @mk _ _ _ ys ls' hR' hl' hk' =>
   obtain ⟨e1, e2⟩ := hR.inj hR'
   have e3 : xs = ys := fm3_inj e1 e2
   subst e3
   have : ls = ls' := by
    apply List.ext_getElem (by omega)
    intro i h1 h2
    exact ih i xs[i] ls[i] (List.getElem?_eq_getElem (by omega)) (List.getElem?_eq_getElem h1) (hk' i xs[i] ls'[i] (List.getElem?_eq_getElem (by omega)) (List.getElem?_eq_getElem h2))
   rw [this]
/-- A level of the four kinds that is good passes. -/
theorem rs_snd {W : World} {x : C3} {l : Lv} {s : SL} (hL : RL W x l) (hs : RS W s x) (hg : s.good) : sndL l := by
 obtain ⟨l', h1, h2⟩ := hs.snd
 rw [hL.inj h1]
 exact h2.2 hg
theorem E8 : Enters Try.prog 8 := enters_of Try.func8 (by kernel_rfl) rfl
theorem E27 : Enters Try.prog 27 := enters_of Try.func27 (by kernel_rfl) rfl
theorem E28 : Enters Try.prog 28 := enters_of Try.func28 (by kernel_rfl) rfl
theorem E29 : Enters Try.prog 29 := enters_of Try.func29 (by kernel_rfl) rfl
theorem E30 : Enters Try.prog 30 := enters_of Try.func30 (by kernel_rfl) rfl
theorem E31 : Enters Try.prog 31 := enters_of Try.func31 (by kernel_rfl) rfl
theorem E32 : Enters Try.prog 32 := enters_of Try.func32 (by kernel_rfl) rfl
theorem E33 : Enters Try.prog 33 := enters_of Try.func33 (by kernel_rfl) rfl
theorem E34 : Enters Try.prog 34 := enters_of Try.func34 (by kernel_rfl) rfl
theorem E35 : Enters Try.prog 35 := enters_of Try.func35 (by kernel_rfl) rfl
theorem E36 : Enters Try.prog 36 := enters_of Try.func36 (by kernel_rfl) rfl
theorem E39 : Enters Try.prog 39 := enters_of Try.func39 (by kernel_rfl) rfl
theorem E54 : Enters Try.prog 54 := enters_of Try.func54 (by kernel_rfl) rfl
theorem E65 : Enters Try.prog 65 := enters_of Try.func65 (by kernel_rfl) rfl
theorem E66 : Enters Try.prog 66 := enters_of Try.func66 (by kernel_rfl) rfl
theorem E67 : Enters Try.prog 67 := enters_of Try.func67 (by kernel_rfl) rfl
theorem E68 : Enters Try.prog 68 := enters_of Try.func68 (by kernel_rfl) rfl
theorem E69 : Enters Try.prog 69 := enters_of Try.func69 (by kernel_rfl) rfl
theorem E70 : Enters Try.prog 70 := enters_of Try.func70 (by kernel_rfl) rfl
theorem E71 : Enters Try.prog 71 := enters_of Try.func71 (by kernel_rfl) rfl
theorem E72 : Enters Try.prog 72 := enters_of Try.func72 (by kernel_rfl) rfl
theorem E73 : Enters Try.prog 73 := enters_of Try.func73 (by kernel_rfl) rfl
theorem E74 : Enters Try.prog 74 := enters_of Try.func74 (by kernel_rfl) rfl
theorem E75 : Enters Try.prog 75 := enters_of Try.func75 (by kernel_rfl) rfl
theorem E76 : Enters Try.prog 76 := enters_of Try.func76 (by kernel_rfl) rfl
theorem E77 : Enters Try.prog 77 := enters_of Try.func77 (by kernel_rfl) rfl
theorem E82 : Enters Try.prog 82 := enters_of Try.func82 (by kernel_rfl) rfl
theorem E84 : Enters Try.prog 84 := enters_of Try.func84 (by kernel_rfl) rfl
theorem E88 : Enters Try.prog 88 := enters_of Try.func88 (by kernel_rfl) rfl
theorem E108 : Enters Try.prog 108 := enters_of Try.func108 (by kernel_rfl) rfl
theorem E109 : Enters Try.prog 109 := enters_of Try.func109 (by kernel_rfl) rfl
theorem E110 : Enters Try.prog 110 := enters_of Try.func110 (by kernel_rfl) rfl
theorem E111 : Enters Try.prog 111 := enters_of Try.func111 (by kernel_rfl) rfl
theorem E112 : Enters Try.prog 112 := enters_of Try.func112 (by kernel_rfl) rfl
theorem E113 : Enters Try.prog 113 := enters_of Try.func113 (by kernel_rfl) rfl
theorem E114 : Enters Try.prog 114 := enters_of Try.func114 (by kernel_rfl) rfl
theorem E115 : Enters Try.prog 115 := enters_of Try.func115 (by kernel_rfl) rfl
theorem E116 : Enters Try.prog 116 := enters_of Try.func116 (by kernel_rfl) rfl
theorem E117 : Enters Try.prog 117 := enters_of Try.func117 (by kernel_rfl) rfl
theorem E118 : Enters Try.prog 118 := enters_of Try.func118 (by kernel_rfl) rfl
theorem E122 : Enters Try.prog 122 := enters_of Try.func122 (by kernel_rfl) rfl
theorem E123 : Enters Try.prog 123 := enters_of Try.func123 (by kernel_rfl) rfl
theorem E124 : Enters Try.prog 124 := enters_of Try.func124 (by kernel_rfl) rfl
theorem E125 : Enters Try.prog 125 := enters_of Try.func125 (by kernel_rfl) rfl
theorem E140 : Enters Try.prog 140 := enters_of Try.func140 (by kernel_rfl) rfl
theorem E141 : Enters Try.prog 141 := enters_of Try.func141 (by kernel_rfl) rfl
theorem E142 : Enters Try.prog 142 := enters_of Try.func142 (by kernel_rfl) rfl
theorem E143 : Enters Try.prog 143 := enters_of Try.func143 (by kernel_rfl) rfl
theorem E144 : Enters Try.prog 144 := enters_of Try.func144 (by kernel_rfl) rfl
theorem E145 : Enters Try.prog 145 := enters_of Try.func145 (by kernel_rfl) rfl
theorem E146 : Enters Try.prog 146 := enters_of Try.func146 (by kernel_rfl) rfl
theorem E147 : Enters Try.prog 147 := enters_of Try.func147 (by kernel_rfl) rfl
theorem E156 : Enters Try.prog 156 := enters_of Try.func156 (by kernel_rfl) rfl
theorem E162 : Enters Try.prog 162 := enters_of Try.func162 (by kernel_rfl) rfl
theorem E163 : Enters Try.prog 163 := enters_of Try.func163 (by kernel_rfl) rfl
theorem E164 : Enters Try.prog 164 := enters_of Try.func164 (by kernel_rfl) rfl
theorem E168 : Enters Try.prog 168 := enters_of Try.func168 (by kernel_rfl) rfl
theorem E169 : Enters Try.prog 169 := enters_of Try.func169 (by kernel_rfl) rfl
end Go.Proofs.Ytmkjhdiepkpdoaa

namespace Go.Proofs.Ytmkjhdiepkpdoaa
open Go.RowKit Go.Shelf
set_option linter.unusedVariables false
set_option linter.unusedSimpArgs false
theorem b24_0 (k : Int) (w : World) : (Instr.build 24 [(0, Value.int .i64 k)].toArray).run Try.prog w = .ok (.agg [Value.int .i64 k, Value.int .i64 0, Value.slice none 0 0].toArray) w := run_build w 24 _ _ (by kernel_rfl)
theorem b54_0123 (p q r s : Int) (w : World) : (Instr.build 163 [(0, Value.int .i64 p), (1, Value.int .i64 q), (2, Value.int .i64 r), (3, Value.int .i64 s)].toArray).run Try.prog w = .ok (.agg [Value.int .i64 p, Value.int .i64 q, Value.int .i64 r, Value.int .i64 s].toArray) w := run_build w 163 _ _ (by kernel_rfl)
section
variable {P : Program} {n : Nat} {l : List (Nat × Value)} {w : World} {x y : Operand}
theorem x_ldW {t k b t0 : Nat} {cs : List Value} (ht : Wide P t k = true) (m : Blk w b t0 cs) (hl : cs.length = k) (hx : ov l x = some (.pointer (some ⟨b, 0, none⟩))) : Runs P n l w (.load t x) (.agg cs.toArray) := by
 subst hl
 exact x_load hx (m_loadW ht m)
theorem x_ldA {t k : Nat} {ad : Addr} {cs : List Value} (ht : Wide P t k = true) (hc : ∀ j v, cs[j]? = some v → w.cell? (ad.add j) = some v) (hl : cs.length = k) (hx : ov l x = some (.pointer (some ad))) : Runs P n l w (.load t x) (.agg cs.toArray) := by
 subst hl
 exact x_load hx (m_loadA ht hc)
end
end Go.Proofs.Ytmkjhdiepkpdoaa
