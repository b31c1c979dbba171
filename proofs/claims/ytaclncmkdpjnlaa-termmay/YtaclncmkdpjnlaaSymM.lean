/- The walk's steps that read and write memory. No program is named here. -/
import Derived.Test.YtaclncmkdpjnlaaSym
import Derived.Laws.CopyRow
import Derived.Laws.IdiomCopy
namespace Go.Proofs.Ytaclncmkdpjnlaa
open Go.RowKit Go.Shelf
set_option linter.unusedVariables false
set_option linter.unusedSimpArgs false

/-- A type of one cell that is no struct and no array. -/
def Flat (P : Program) (t : TypeId) : Bool := (match P.underlying t with | some (.struct _) | some (.array _ _) | none => false | _ => true) && ((P.info? t).map (·.size) == some 1)
/-- An array or struct of k cells. -/
def Wide (P : Program) (t : TypeId) (k : Nat) : Bool := (match P.underlying t with | some (.struct _) | some (.array _ _) => true | _ => false) && ((P.info? t).map (·.size) == some k)

section
variable {P : Program} {w : World}

theorem run_isAgg_flat {t : TypeId} (h : Flat P t = true) : (isAgg t).run P w = .ok false w := by
  simp only [Flat, Bool.and_eq_true] at h
  obtain ⟨h, _⟩ := h
  cases hu : P.underlying t with
  | none => rw [hu] at h; simp at h
  | some d => rw [hu] at h; cases d <;> simp at h <;> simp [isAgg, run_underlying hu]
theorem run_isAgg_wide {t : TypeId} {k : Nat} (h : Wide P t k = true) : (isAgg t).run P w = .ok true w := by
  simp only [Wide, Bool.and_eq_true] at h
  obtain ⟨h, _⟩ := h
  cases hu : P.underlying t with
  | none => rw [hu] at h; simp at h
  | some d => rw [hu] at h; cases d <;> simp at h <;> simp [isAgg, run_underlying hu]
theorem size_flat {t : TypeId} (h : Flat P t = true) : (P.info? t).map (·.size) = some 1 := by
  simp only [Flat, Bool.and_eq_true] at h
  simpa using h.2
theorem size_wide {t : TypeId} {k : Nat} (h : Wide P t k = true) : (P.info? t).map (·.size) = some k := by
  simp only [Wide, Bool.and_eq_true] at h
  simpa using h.2
theorem run_sizeOf_of {t : TypeId} {k : Nat} (h : (P.info? t).map (·.size) = some k) : (sizeOf t).run P w = .ok k w := by
  cases hi : P.info? t with
  | none => simp [hi] at h
  | some i =>
    simp [hi] at h
    simp [sizeOf, typeInfo, hi, h]

theorem m_load {t : TypeId} {ad : Addr} {v : Value} (ht : Flat P t = true) (hc : w.cell? ad = some v) : (Instr.loadAt t (.pointer (some ad))).run P w = .ok v w := by
  simp [Instr.loadAt, Instr.sureAddr, loadVar, run_isAgg_flat ht, hc]
theorem m_loadA {t : TypeId} {ad : Addr} {cs : List Value} (ht : Wide P t cs.length = true) (hc : ∀ j v, cs[j]? = some v → w.cell? (ad.add j) = some v) : (Instr.loadAt t (.pointer (some ad))).run P w = .ok (.agg cs.toArray) w := by
  have := run_loadCells_list (P := P) w ad cs hc
  simp [Instr.loadAt, Instr.sureAddr, loadVar, run_isAgg_wide ht, run_sizeOf_of (size_wide ht), this]
theorem m_loadW {t t0 : TypeId} {b : Nat} {cs : List Value} (ht : Wide P t cs.length = true) (hB : Blk w b t0 cs) : (Instr.loadAt t (.pointer (some ⟨b, 0, none⟩))).run P w = .ok (.agg cs.toArray) w :=
  m_loadA ht fun j v hj => by rw [addr_add0]; exact hB.cell hj
/-- A part of a block: a field. -/
theorem m_loadP {t t0 : TypeId} {b o : Nat} {cs vs : List Value} (ht : Wide P t vs.length = true) (hB : Blk w b t0 cs) (hv : (cs.drop o).take vs.length = vs) : (Instr.loadAt t (.pointer (some ⟨b, o, none⟩))).run P w = .ok (.agg vs.toArray) w :=
  m_loadA ht fun j v hj => by
    rw [addr_addn]
    refine hB.cell ?_
    rw [← hv, List.getElem?_take] at hj
    split at hj
    · rwa [List.getElem?_drop] at hj
    · cases hj

theorem m_store {ty t0 : TypeId} {b o : Nat} {cs vs : List Value} {v : Value} (hB : Blk w b t0 cs) (hv : v.cells = vs.toArray) (hi : (P.info? ty).map (·.size) = some vs.length) (ho : o + vs.length ≤ cs.length) (h1 : ∀ u ∈ vs, u.oneCell' = true) :
    (Instr.storeAt ty (.pointer (some ⟨b, o, none⟩)) v).run P w = .ok () (w.setRow b (cs.take o ++ vs ++ cs.drop (o + vs.length)).toArray) := by
  have := run_storeCells_at P b o t0 vs 0 cs.toArray w hB (by simpa using ho) h1
  simp at this
  simp [Instr.storeAt, Instr.sureAddr, storeVar, hv, run_sizeOf_of hi, this]

theorem blk_setRow {b t0 : Nat} {cs : List Value} (hB : Blk w b t0 cs) (ns : List Value) : Blk (w.setRow b ns.toArray) b t0 ns := setRow_heap w b cs.toArray _ t0 _ hB
theorem only_setRow {b : Nat} (ns : Array Value) : Only b w (w.setRow b ns) := by
  refine ⟨rfl, rfl, rfl, by simp [World.setRow], fun k hk => ?_⟩
  simp only [World.setRow, Array.getElem?_modify]
  rw [if_neg (by omega)]
theorem blk_alloc (t : TypeId) (cs : List Value) : Blk (w.alloc (.cells cs.toArray t)) w.heap.size t cs := by
  show (w.heap.push _)[w.heap.size]? = _
  simp
theorem below_alloc (o : Obj) : Below w.heap.size w (w.alloc o) := (Below.refl _ _).alloc (Nat.le_refl _) o
theorem size_alloc (o : Obj) : (w.alloc o).heap.size = w.heap.size + 1 := by
  show (w.heap.push o).size = _
  simp

theorem m_alloc {t : TypeId} {z : Value} {zs : List Value} (hz : (P.info? t).bind (·.zero) = some z) (hc : z.cells = zs.toArray) : (Instr.alloc t true (.tuple #[])).run P w = .ok (.pointer (some ⟨w.heap.size, 0, none⟩)) (w.alloc (.cells zs.toArray t)) := by
  cases hi : P.info? t with
  | none => simp [hi] at hz
  | some i =>
    simp [hi] at hz
    simp [Instr.alloc, zeroValue, typeInfo, hi, hz, newVar, newRow, hc]
theorem m_box {t : TypeId} {v : Value} {vs : List Value} (hc : v.cells = vs.toArray) : (Instr.box t v).run P w = .ok (.pointer (some ⟨w.heap.size, 0, none⟩)) (w.alloc (.cells vs.toArray t)) := by
  simp [Instr.box, newVar, newRow, hc]

/-- A string's byte. -/
theorem m_ixstr {t : TypeId} {s : ByteArray} {ik : IntKind} {i : Int} {c : UInt8} (j : Nat) (hu : P.underlying t = some .string) (hi : i = (j : Int)) (hc : s.data.toList[j]? = some c) :
    (Instr.index t (.string s) (.int ik i)).run P w = .ok (.int .u8 (c.toNat : Int)) w := by
  subst hi
  have hlt : j < s.size := by
    rcases Nat.lt_or_ge j s.data.toList.length with h | h
    · simpa using h
    · rw [List.getElem?_eq_none h] at hc; cases hc
  have : s[j]? = some c := by
    rw [getElem?_pos s j hlt]
    have : s.data.toList[j]? = some s.data[j] := by simp [hlt]
    rw [this] at hc
    cases hc
    rfl
  simp [Instr.index, asIntOf, run_underlying hu, this]

theorem m_field {s : TypeId} {fs : Array Field} {f : Nat} {fd : Field} {b o : Nat} (hu : P.underlying s = some (.struct fs)) (hf : fs[f]? = some fd) (hz : ((P.info? fd.type).map (·.size) == some 0) = false) (hs : ((P.info? fd.type).map (·.size)).isSome = true) :
    (Instr.fieldAt s (.pointer (some ⟨b, o, none⟩)) f).run P w = .ok (.pointer (some ⟨b, o + fd.offset, none⟩)) w := by
  obtain ⟨k, hk⟩ := Option.isSome_iff_exists.1 hs
  have hk0 : k ≠ 0 := by
    rintro rfl
    rw [hk] at hz
    simp at hz
  simp [Instr.fieldAt, run_underlying hu, hf, Instr.sureAddr, fieldPlace, run_sizeOf_of hk, hk0, addr_addn]
end

section
variable {P : Program} {n d : Nat} {l : List (Nat × Value)} {w : World} {a : Act} {ops : Array Oper} {Q : Exit → Act → World → Prop} {rest : List Oper} {ty : TypeId} {pos : String} {af : Array Edge}

theorem s_alloc {ds : List Deferred} {t : TypeId} {zs : List Value} (hF : Fs n a l (ds := ds)) (hd : d < n) (hz : (P.info? t).bind (·.zero) = some (.agg zs.toArray))
    (h : ∀ w' b a', b = w.heap.size → Blk w' b t zs → Below w.heap.size w w' → w'.heap.size = w.heap.size + 1 → Fs n a' ((d, .pointer (some ⟨b, 0, none⟩)) :: l) (ds := ds) → wpList P ops Q rest a' w') :
    wpList P ops Q (⟨some d, .alloc t, ty, pos, af, none⟩ :: rest) a w :=
  s_new hF (fun o ho => by simp [execOp, ho, m_alloc hz rfl]) hd fun a' hF' => h _ _ a' rfl (blk_alloc t zs) (below_alloc _) (size_alloc _) hF'
theorem s_box {ds : List Deferred} {t : TypeId} {x : Operand} {v : Value} (vs : List Value) (hF : Fs n a l (ds := ds)) (hd : d < n) (hx : ov l x = some v) (hc : v.cells = vs.toArray)
    (h : ∀ w' b a', b = w.heap.size → Blk w' b t vs → Below w.heap.size w w' → w'.heap.size = w.heap.size + 1 → Fs n a' ((d, .pointer (some ⟨b, 0, none⟩)) :: l) (ds := ds) → wpList P ops Q rest a' w') :
    wpList P ops Q (⟨some d, .box t x, ty, pos, af, none⟩ :: rest) a w :=
  s_new hF (fun o ho => by simp [execOp, ho, hF.ov hx, m_box hc]) hd fun a' hF' => h _ _ a' rfl (blk_alloc t vs) (below_alloc _) (size_alloc _) hF'

/-- A store of one cell. -/
theorem s_put {ds : List Deferred} {t t0 : TypeId} {x y : Operand} {v : Value} {b o : Nat} {cs : List Value} (hF : Fs n a l (ds := ds)) (hx : ov l x = some (.pointer (some ⟨b, o, none⟩))) (hy : ov l y = some v) (ht : Flat P t = true) (hB : Blk w b t0 cs) (ho : o < cs.length) (h1 : v.oneCell' = true)
    (h : ∀ w', Blk w' b t0 (cs.set o v) → Only b w w' → wpList P ops Q rest a w') : wpList P ops Q (⟨none, .store t x y, ty, pos, af, none⟩ :: rest) a w := by
  have hc : v.cells = [v].toArray := by cases v <;> simp_all [Value.cells, Value.oneCell']
  refine s_sto hF hx hy (m_store hB hc (size_flat ht) (by simp; omega) (by simpa using h1)) (h _ ?_ (only_setRow _))
  have e : cs.take o ++ [v] ++ cs.drop (o + [v].length) = cs.set o v := by
    rw [List.set_eq_take_append_cons_drop, if_pos ho]
    simp
  rw [e]
  exact blk_setRow hB _
/-- A store of a whole block. -/
theorem s_putW {ds : List Deferred} {t t0 : TypeId} {x y : Operand} {b : Nat} {cs vs : List Value} (hF : Fs n a l (ds := ds)) (hx : ov l x = some (.pointer (some ⟨b, 0, none⟩))) (hy : ov l y = some (.agg vs.toArray)) (hi : (P.info? t).map (·.size) = some vs.length) (hB : Blk w b t0 cs) (ho : cs.length = vs.length) (h1 : ∀ u ∈ vs, u.oneCell' = true)
    (h : ∀ w', Blk w' b t0 vs → Only b w w' → wpList P ops Q rest a w') : wpList P ops Q (⟨none, .store t x y, ty, pos, af, none⟩ :: rest) a w := by
  refine s_sto hF hx hy (m_store hB rfl hi (by omega) h1) (h _ ?_ (only_setRow _))
  have e : cs.take 0 ++ vs ++ cs.drop (0 + vs.length) = vs := by simp [← ho]
  rw [e]
  exact blk_setRow hB _
/-- A store of a part. -/
theorem s_putP {ds : List Deferred} {t t0 : TypeId} {x y : Operand} {b o : Nat} {cs vs : List Value} (hF : Fs n a l (ds := ds)) (hx : ov l x = some (.pointer (some ⟨b, o, none⟩))) (hy : ov l y = some (.agg vs.toArray)) (hi : (P.info? t).map (·.size) = some vs.length) (hB : Blk w b t0 cs) (ho : o + vs.length ≤ cs.length) (h1 : ∀ u ∈ vs, u.oneCell' = true)
    (h : ∀ w', Blk w' b t0 (cs.take o ++ vs ++ cs.drop (o + vs.length)) → Only b w w' → wpList P ops Q rest a w') : wpList P ops Q (⟨none, .store t x y, ty, pos, af, none⟩ :: rest) a w :=
  s_sto hF hx hy (m_store hB rfl hi ho h1) (h _ (blk_setRow hB _) (only_setRow _))

/-- The result in a variable of its own. -/
theorem res_cell {fn : Func} {t : TypeId} {r : Nat} {b : Nat} {t0 : TypeId} {cs : List Value} {R : Ending → World → Prop} (hF : Fs n a l) (hr : fn.results = #[.cell r t]) (hl : lk l r = some (.pointer (some ⟨b, 0, none⟩))) (hB : Blk w b t0 cs) (ht : Wide P t cs.length = true) (h : R (.returned (.agg cs.toArray)) w) : bodyPost P fn R .ret a w := by
  refine ⟨hF.defers, _, ?_, h⟩
  have h1 := hF.slot r _ hl
  have h2 := m_loadW (P := P) ht hB
  simp [Instr.loadAt, Instr.sureAddr] at h2
  simp [results, hr, h1, asAddr, h2]
theorem res_slot {fn : Func} {r : Nat} {v : Value} {R : Ending → World → Prop} (hF : Fs n a l) (hr : fn.results = #[.tmp r]) (hl : lk l r = some v) (h : R (.returned v) w) : bodyPost P fn R .ret a w := by
  refine ⟨hF.defers, _, ?_, h⟩
  have h1 := hF.slot r _ hl
  simp [results, hr, h1]
theorem res_two {fn : Func} {r1 r2 : Nat} {v1 v2 : Value} {R : Ending → World → Prop} (hF : Fs n a l) (hr : fn.results = #[.tmp r1, .tmp r2]) (h1 : lk l r1 = some v1) (h2 : lk l r2 = some v2) (h : R (.returned (.tuple #[v1, v2])) w) : bodyPost P fn R .ret a w := by
  refine ⟨hF.defers, _, ?_, h⟩
  have h1 := hF.slot r1 _ h1
  have h2 := hF.slot r2 _ h2
  simp [results, hr, h1, h2]
theorem res_ct {fn : Func} {t : TypeId} {r r2 : Nat} {b : Nat} {t0 : TypeId} {cs : List Value} {v2 : Value} {R : Ending → World → Prop} (hF : Fs n a l) (hr : fn.results = #[.cell r t, .tmp r2]) (hl : lk l r = some (.pointer (some ⟨b, 0, none⟩))) (hB : Blk w b t0 cs) (ht : Wide P t cs.length = true) (h2 : lk l r2 = some v2) (h : R (.returned (.tuple #[.agg cs.toArray, v2])) w) : bodyPost P fn R .ret a w := by
  refine ⟨hF.defers, _, ?_, h⟩
  have h1 := hF.slot r _ hl
  have h3 := m_loadW (P := P) ht hB
  simp [Instr.loadAt, Instr.sureAddr] at h3
  have h2 := hF.slot r2 _ h2
  simp [results, hr, h1, h2, asAddr, h3]
theorem then_ret {K : Act → World → Prop} (h : Q .ret a w) : Exit.then K Q .ret a w := h
theorem inb_ret {id : Nat} (h : Q .ret a w) : Exit.inBlock id Q .ret a w := h
theorem post_normal {fn : Func} {R : Ending → World → Prop} (h : bodyPost P fn R .ret a w) : bodyPost P fn R .normal a w := h
theorem res_none {fn : Func} {R : Ending → World → Prop} (hF : Fs n a l) (hr : fn.results = #[]) (h : R (.returned (.tuple #[])) w) : bodyPost P fn R .ret a w := by
  refine ⟨hF.defers, _, ?_, h⟩
  simp [results, hr]
end
end Go.Proofs.Ytaclncmkdpjnlaa
