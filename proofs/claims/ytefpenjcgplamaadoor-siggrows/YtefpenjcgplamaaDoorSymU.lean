/- Maps whose values are nothing (sets), by their keys: lookups, stores, how many. No program is named here. -/
import Derived.Test.YtefpenjcgplamaaDoorSymE
import Derived.MapKept
namespace Go.Proofs.YtefpenjcgplamaaDoor
open Go.RowKit Go.Shelf
set_option linter.unusedVariables false
set_option linter.unusedSimpArgs false

/-- How keys of a type are told apart. -/
structure KeyT {α : Type} [DecidableEq α] (P : Program) (kt : TypeId) (d : TypeDesc) (kv : α → Value) (good : α → Prop) : Prop where
  under : P.underlying kt = some d
  eq : ∀ x y W, good x → good y → (Op.equal kt (kv x) (kv y)).run P W = .ok (decide (x = y)) W
  now : (∀ x y, good x → good y → Instr.sameNow d (kv x) (kv y) = some (decide (x = y))) ∨ (∀ x y, Instr.sameNow d (kv x) (kv y) = none)
  check : ∀ x e W, good x → (Instr.checkKey e 10000 kt (kv x)).run P W = .ok () W
  bits : ∀ x, good x → Instr.sameBits 10000 (kv x) (kv x) = true

section
variable {α : Type}
/-- Where x stands. -/
def posK [DecidableEq α] (x : α) : List α → Nat → Option Nat
  | [], _ => none
  | y :: ys, i => if x = y then some i else posK x ys (i + 1)
theorem posK_some [DecidableEq α] {x : α} : ∀ {ys : List α} {i j : Nat}, posK x ys i = some j → i ≤ j ∧ ys[j - i]? = some x
  | [], _, _, h => by cases h
  | y :: ys, i, j, h => by
    unfold posK at h
    split at h
    · next e => cases h; subst e; simp
    · obtain ⟨h1, h2⟩ := posK_some h
      refine ⟨by omega, ?_⟩
      rw [show j - i = (j - (i + 1)) + 1 by omega]
      simpa using h2
theorem posK_none [DecidableEq α] {x : α} : ∀ {ys : List α} {i : Nat}, posK x ys i = none → x ∉ ys
  | [], _, _ => by simp
  | y :: ys, i, h => by
    unfold posK at h
    split at h
    · cases h
    · next e => simp [e, posK_none h]
variable {P : Program} {kt : TypeId} {d : TypeDesc} {kv : α → Value} {good : α → Prop}
theorem run_asking [DecidableEq α] (K : KeyT P kt d kv good) {x : α} (hx : good x) (W : World) : ∀ (es : List MapEntry) (ys : List α) (i : Nat), es.map (·.key) = ys.map kv → (∀ e ∈ es, e.val = .agg #[]) → (∀ y ∈ ys, good y) → (Instr.findAsking kt (kv x) es i).run P W = .ok ((posK x ys i).map fun j => (j, .agg #[])) W
  | [], [], i, _, _, _ => rfl
  | [], _ :: _, _, h, _, _ => by simp at h
  | _ :: _, [], _, h, _, _ => by simp at h
  | e :: es, y :: ys, i, h, hv, hg => by
    simp only [List.map_cons, List.cons.injEq] at h
    have ih := run_asking K hx W es ys (i + 1) h.2 (fun e he => hv e (by simp [he])) (fun z hz => hg z (by simp [hz]))
    have h0 := K.eq x y W hx (hg y (by simp))
    unfold Instr.findAsking posK
    rw [h.1]
    simp only [Sem.run_bind, h0, Result.andThen_ok, Sem.run_ite]
    by_cases hxy : x = y
    · simp [hxy, hv e (by simp)]
    · simp [hxy, ih]
theorem now_find [DecidableEq α] (h : ∀ x y, good x → good y → Instr.sameNow d (kv x) (kv y) = some (decide (x = y))) {x : α} (hx : good x) : ∀ (es : List MapEntry) (ys : List α) (i : Nat), es.map (·.key) = ys.map kv → (∀ e ∈ es, e.val = .agg #[]) → (∀ y ∈ ys, good y) → Instr.findNow d (kv x) es i = some ((posK x ys i).map fun j => (j, .agg #[]))
  | [], [], i, _, _, _ => rfl
  | [], _ :: _, _, h, _, _ => by simp at h
  | _ :: _, [], _, h, _, _ => by simp at h
  | e :: es, y :: ys, i, hk, hv, hg => by
    simp only [List.map_cons, List.cons.injEq] at hk
    have ih := now_find h hx es ys (i + 1) hk.2 (fun e he => hv e (by simp [he])) (fun z hz => hg z (by simp [hz]))
    have h0 := h x y hx (hg y (by simp))
    unfold Instr.findNow posK
    rw [hk.1, h0]
    by_cases hxy : x = y
    · simp [hxy, hv e (by simp)]
    · simp [hxy, ih]
theorem now_none (h : ∀ x y, Instr.sameNow d (kv x) (kv y) = none) (x : α) : ∀ (es : List MapEntry) (ys : List α) (i : Nat), es.map (·.key) = ys.map kv → (∃ u, Instr.findNow d (kv x) es i = some u ∧ es = [] ∧ u = none) ∨ Instr.findNow d (kv x) es i = none
  | [], _, i, _ => .inl ⟨none, rfl, rfl, rfl⟩
  | _ :: _, [], _, h => by simp at h
  | e :: es, y :: ys, i, hk => by
    simp only [List.map_cons, List.cons.injEq] at hk
    refine .inr ?_
    unfold Instr.findNow
    rw [hk.1, h x y]
theorem run_findK [DecidableEq α] (K : KeyT P kt d kv good) {x : α} (hx : good x) (W : World) (es : List MapEntry) (ys : List α) (h : es.map (·.key) = ys.map kv) (hv : ∀ e ∈ es, e.val = .agg #[]) (hg : ∀ y ∈ ys, good y) : (Instr.findKey kt (kv x) es).run P W = .ok ((posK x ys 0).map fun j => (j, .agg #[])) W := by
  unfold Instr.findKey
  simp only [Sem.run_bind, run_underlying K.under, Result.andThen_ok]
  rcases K.now with hn | hn
  · rw [now_find hn hx es ys 0 h hv hg]
    rfl
  · rcases now_none hn x es ys 0 h with ⟨u, h1, h2, h3⟩ | h1
    · subst h2 h3
      rw [h1]
      have : ys = [] := by cases ys <;> simp at h ⊢
      subst this
      rfl
    · rw [h1]
      exact run_asking K hx W es ys 0 h hv hg

/-- Block b is a set of these. -/
def SetM (kv : α → Value) (good : α → Prop) (W : World) (b : Nat) (ys : List α) : Prop :=
  ∃ es clock, W.heap[b]? = some (.map es clock) ∧ es.toList.map (·.key) = ys.map kv ∧ (∀ e ∈ es.toList, e.val = .agg #[]) ∧ ∀ y ∈ ys, good y
variable {W W' : World} {b : Nat} {ys : List α} {t e : TypeId}
theorem SetM.lt (h : SetM kv good W b ys) : b < W.heap.size := by
  obtain ⟨es, c, hb, _⟩ := h
  exact (Array.getElem?_eq_some_iff.1 hb).1
theorem SetM.keep (h : SetM kv good W b ys) (hk : W'.heap[b]? = W.heap[b]?) : SetM kv good W' b ys := by
  obtain ⟨es, c, hb, r⟩ := h
  exact ⟨es, c, hk.trans hb, r⟩
theorem SetM.below (h : SetM kv good W b ys) (hB : Below W.heap.size W W') : SetM kv good W' b ys := h.keep (hB.block b h.lt)
theorem SetM.only {k : Nat} (h : SetM kv good W b ys) (ho : Only k W W') (hb : b ≠ k) : SetM kv good W' b ys := h.keep (ho.block b hb)
theorem SetM.kq {k : Nat} (h : SetM kv good W b ys) (ho : Kq k W W') (hb : b ≠ k) : SetM kv good W' b ys := h.keep (ho.block b h.lt hb)
theorem SetM.ne {k t0 : Nat} {cs : List Value} (h : SetM kv good W b ys) (hB : Blk W k t0 cs) : b ≠ k := by
  rintro rfl
  obtain ⟨es, c, hb, _⟩ := h
  unfold Blk at hB
  rw [hb] at hB
  cases hB
theorem SetM.look [DecidableEq α] (h : SetM kv good W b ys) (K : KeyT P kt d kv good) (ht : P.underlying t = some (.map kt e)) (hz : (zeroValue e).run P W = .ok (.agg #[]) W) {x : α} (hx : good x) :
    (Instr.lookup t (.map (some b)) (kv x) true).run P W = .ok (.tuple #[.agg #[], .bool (decide (x ∈ ys))]) W := by
  obtain ⟨es, c, hb, hk, hv, hg⟩ := h
  have h1 := run_findK K hx W es.toList ys hk hv hg
  cases hp : posK x ys 0 with
  | none =>
    rw [hp] at h1
    have := posK_none hp
    simp [Instr.lookup, run_underlying ht, MapKept.run_getObj_map hb, K.check x _ W hx, h1, hz, Result.andThen, this]
  | some j =>
    rw [hp] at h1
    have := List.mem_of_getElem? (posK_some hp).2
    simp [Instr.lookup, run_underlying ht, MapKept.run_getObj_map hb, K.check x _ W hx, h1, hz, Result.andThen, this]
theorem look_nil [DecidableEq α] (K : KeyT P kt d kv good) (ht : P.underlying t = some (.map kt e)) (hz : (zeroValue e).run P W = .ok (.agg #[]) W) {x : α} (hx : good x) :
    (Instr.lookup t (.map none) (kv x) true).run P W = .ok (.tuple #[.agg #[], .bool false]) W := by
  have h1 := run_findK K hx W [] [] rfl (by simp) (by simp)
  simp [posK] at h1
  simp [Instr.lookup, run_underlying ht, K.check x _ W hx, h1, hz, Result.andThen]
theorem SetM.put [DecidableEq α] (h : SetM kv good W b ys) (K : KeyT P kt d kv good) (ht : P.underlying t = some (.map kt e)) {x : α} (hx : good x) :
    ∃ W', (Instr.mapUpdate t (.map (some b)) (kv x) (.agg #[])).run P W = .ok () W' ∧ SetM kv good W' b (if x ∈ ys then ys else ys ++ [x]) ∧ Only b W W' := by
  obtain ⟨es, c, hb, hk, hv, hg⟩ := h
  have h1 := run_findK K hx W es.toList ys hk hv hg
  have hlt := (Array.getElem?_eq_some_iff.1 hb).1
  have key : ∀ o : Obj, Only b W { W with heap := W.heap.setIfInBounds b o } := fun o => ⟨rfl, rfl, rfl, by simp, fun k hk => by simp [Array.getElem?_setIfInBounds_ne (Ne.symm hk)]⟩
  have there : ∀ o : Obj, ({ W with heap := W.heap.setIfInBounds b o } : World).heap[b]? = some o := fun o => by simp [hlt]
  cases hp : posK x ys 0 with
  | none =>
    rw [hp] at h1
    have hn := posK_none hp
    refine ⟨_, by simp [Instr.mapUpdate, run_underlying ht, MapKept.run_getObj_map hb, K.check x _ W hx, h1, MapKept.run_setObj_map _ hb, Result.andThen]; rfl, ?_, key _⟩
    rw [if_neg hn]
    refine ⟨_, _, there _, by simp [hk], ?_, ?_⟩
    · intro e he
      simp at he
      rcases he with he | rfl
      · exact hv e (by simpa using he)
      · rfl
    · intro y hy
      rcases List.mem_append.1 hy with hy | hy
      · exact hg y hy
      · simp at hy; subst hy; exact hx
  | some j =>
    rw [hp] at h1
    have hj := (posK_some hp).2
    rw [Nat.sub_zero] at hj
    have hm := List.mem_of_getElem? hj
    have hjk : (es.toList.map (·.key))[j]? = some (kv x) := by rw [hk, List.getElem?_map, hj]; rfl
    have hkey : (es[j]?).map (·.key) = some (kv x) := by simpa using hjk
    obtain ⟨e0, he0, hek⟩ := Option.map_eq_some_iff.1 hkey
    refine ⟨_, by simp [Instr.mapUpdate, run_underlying ht, MapKept.run_getObj_map hb, K.check x _ W hx, h1, he0, hek, Instr.keyThatStays, K.bits x hx, MapKept.run_setObj_map _ hb, Result.andThen]; rfl, ?_, key _⟩
    rw [if_pos hm]
    have e1 : (es.modify j fun e => { e with key := kv x, val := .agg #[] }) = es := by
      apply Array.ext_getElem?
      intro i
      rw [Array.getElem?_modify]
      split
      · next hij =>
        subst hij
        rw [he0]
        have := hv e0 (by have := Array.mem_of_getElem? he0; simpa using this)
        obtain ⟨k, v, bn⟩ := e0
        simp at hek this
        simp [hek, this]
      · rfl
    refine ⟨es, c, ?_, hk, hv, hg⟩
    rw [there, e1]
theorem SetM.len (h : SetM kv good W b ys) (ht : P.underlying t = some (.map kt e)) (ty : TypeId) : (Builtin.len_ #[t] ty #[.map (some b)]).run P W = .ok (.int .i64 (ys.length : Int)) W := by
  obtain ⟨es, c, hb, hk, hv, hg⟩ := h
  have : es.size = ys.length := by
    have := congrArg List.length hk
    simpa using this
  simp [Builtin.len_, run_underlying ht, MapKept.run_getObj_map hb, goInt, Result.andThen, this]
end

section
variable {α : Type} {P : Program} {kt : TypeId} {dd : TypeDesc} {kv : α → Value} {good : α → Prop}
variable {n d : Nat} {l : List (Nat × Value)} {w : World} {a : Act} {ops : Array Oper} {Q : Exit → Act → World → Prop} {rest : List Oper} {ty : TypeId} {pos : String} {af : Array Edge} {x y z : Operand} {t e : TypeId} {b : Nat} {ys : List α}
theorem x_look [DecidableEq α] (K : KeyT P kt dd kv good) (ht : P.underlying t = some (.map kt e)) (hz : (P.info? e).bind (·.zero) = some (.agg #[])) {u : α} (hu : good u) (h : SetM kv good w b ys) (hx : ov l x = some (.map (some b))) (hy : ov l y = some (kv u)) : Runs P n l w (.lookup t x y true) (.tuple #[.agg #[], .bool (decide (u ∈ ys))]) :=
  fun a hF o ho => by
    have hz' : (zeroValue e).run P w = .ok (.agg #[]) w := by
      cases hi : P.info? e with
      | none => simp [hi] at hz
      | some i => simp [hi] at hz; simp [zeroValue, typeInfo, hi, hz]
    simp [execOp, ho, hF.ov hx, hF.ov hy, h.look K ht hz' hu]
theorem x_look0 [DecidableEq α] (K : KeyT P kt dd kv good) (ht : P.underlying t = some (.map kt e)) (hz : (P.info? e).bind (·.zero) = some (.agg #[])) {u : α} (hu : good u) (hx : ov l x = some (.map none)) (hy : ov l y = some (kv u)) : Runs P n l w (.lookup t x y true) (.tuple #[.agg #[], .bool false]) :=
  fun a hF o ho => by
    have hz' : (zeroValue e).run P w = .ok (.agg #[]) w := by
      cases hi : P.info? e with
      | none => simp [hi] at hz
      | some i => simp [hi] at hz; simp [zeroValue, typeInfo, hi, hz]
    simp [execOp, ho, hF.ov hx, hF.ov hy, look_nil (W := w) K ht hz' hu]
theorem x_lenM (ht : P.underlying t = some (.map kt e)) (h : SetM kv good w b ys) (hx : ov l x = some (.map (some b))) : Runs P n l w (.call { callee := .builtin .len, args := #[x], argTypes := #[t] }) (.int .i64 (ys.length : Int)) :=
  fun a hF o ho => by
    simp [execOp, ho, resolve, invoke, builtin, hF.ov hx, h.len ht]
theorem x_lenM0 (ht : P.underlying t = some (.map kt e)) (hx : ov l x = some (.map none)) : Runs P n l w (.call { callee := .builtin .len, args := #[x], argTypes := #[t] }) (.int .i64 0) :=
  fun a hF o ho => by
    simp [execOp, ho, resolve, invoke, builtin, hF.ov hx, Builtin.len_, run_underlying ht, goInt, Result.andThen]
theorem x_eqM {t' : TypeId} {m : Option Nat} (ht : P.underlying t = some (.map kt e)) (hx : ov l x = some (.map m)) (hy : ov l y = some (.map none)) : Runs P n l w (.binOp .eql t x y t') (.bool m.isNone) :=
  x_bin hx hy fun W => by
    refine ⟨by simp [eqGuard], ?_⟩
    have h : ∀ d, (Op.equalIn (d + 1) t (.map m) (.map none)).run P W = .ok m.isNone W := fun d => by
      cases m <;> simp [Op.equalIn, run_underlying ht]
    have h := h 9999
    simp only [binOp, Op.equal, Op.maxDepth]
    simp [h]
/-- A store into a set. -/
theorem s_mapu [DecidableEq α] (K : KeyT P kt dd kv good) (ht : P.underlying t = some (.map kt e)) {u : α} (hu : good u) (hm : SetM kv good w b ys) (hF : Fs n a l) (hx : ov l x = some (.map (some b))) (hy : ov l y = some (kv u)) (hz : ov l z = some (.agg #[]))
    (h : ∀ w', SetM kv good w' b (if u ∈ ys then ys else ys ++ [u]) → Only b w w' → wpList P ops Q rest a w') : wpList P ops Q (⟨none, .mapUpdate t x y z, ty, pos, af, none⟩ :: rest) a w := by
  obtain ⟨w', hr, h1, h2⟩ := hm.put K ht hu
  unfold wpList
  rw [if_pos (wanted_none _ rfl _)]
  refine .inl ?_
  unfold Oper.wp
  rw [show (execOp a.eval ⟨none, .mapUpdate t x y z, ty, pos, af, none⟩).run P w = .ok .skip w' from by simp [execOp, hF.ov hx, hF.ov hy, hF.ov hz, hr]]
  exact h w' h1 h2
/-- A new map. -/
theorem s_mkm0 (kv : α → Value) (good : α → Prop) (hF : Fs n a l) (hd : d < n)
    (h : ∀ w' b a', b = w.heap.size → SetM kv good w' b [] → Below w.heap.size w w' → w'.heap.size = w.heap.size + 1 → Fs n a' ((d, .map (some b)) :: l) → wpList P ops Q rest a' w') :
    wpList P ops Q (⟨some d, .makeMap t none, ty, pos, af, none⟩ :: rest) a w :=
  s_new (w' := w.alloc (.map #[] 0)) (v := .map (some w.heap.size)) hF (fun o ho => by simp [execOp, ho, Instr.makeMap]) hd fun a' hF' => h _ _ a' rfl ⟨#[], 0, by show (w.heap.push _)[w.heap.size]? = _; simp, rfl, by simp, by simp⟩ (below_alloc _) (size_alloc _) hF'
theorem s_mkm (kv : α → Value) (good : α → Prop) (ht : P.underlying t = some (.map kt e)) (hF : Fs n a l) (hd : d < n) {p : Int} (hx : ov l x = some (.int .i64 p))
    (h : ∀ w' b a', b = w.heap.size → SetM kv good w' b [] → Below w.heap.size w w' → w'.heap.size = w.heap.size + 1 → Fs n a' ((d, .map (some b)) :: l) → wpList P ops Q rest a' w') :
    wpList P ops Q (⟨some d, .makeMap t (some x), ty, pos, af, none⟩ :: rest) a w :=
  s_new (w' := w.alloc (.map #[] 0)) (v := .map (some w.heap.size)) hF (fun o ho => by simp [execOp, ho, Instr.makeMap, hF.ov hx, run_underlying ht, asInt, asIntOf]) hd fun a' hF' => h _ _ a' rfl ⟨#[], 0, by show (w.heap.push _)[w.heap.size]? = _; simp, rfl, by simp, by simp⟩ (below_alloc _) (size_alloc _) hF'
end
end Go.Proofs.YtefpenjcgplamaaDoor
