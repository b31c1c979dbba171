/- Strings, bools, tuples, arrays held against each other, slice literals, in Sym's walk. No program is named here. -/
import Derived.Test.YtgpciphjhnabcaaWords64
import Derived.Laws.StructEq
import Derived.Great.BuildSlice
namespace Go.Proofs.Ytgpciphjhnabcaa
open Go.RowKit Go.Shelf
set_option linter.unusedVariables false
set_option linter.unusedSimpArgs false

section
variable {P : Program} {n : Nat} {l : List (Nat × Value)} {w : World} {t t' : TypeId} {x y : Operand}

theorem x_not {b : Bool} (hx : ov l x = some (.bool b)) : Runs P n l w (.unOp .not t x) (.bool (!b)) := x_un hx (by simp [Op.unary])
theorem x_ext {vs : Array Value} {i : Nat} {v : Value} (hx : ov l x = some (.tuple vs)) (hv : vs[i]? = some v) : Runs P n l w (.extract x i) v :=
  fun ds a hF o ho => by simp [execOp, ho, hF.ov hx, Instr.extract, hv]
theorem x_lenS {ty : TypeId} {s : ByteArray} (ht : P.underlying ty = some .string) (hx : ov l x = some (.string s)) : Runs P n l w (.call { callee := .builtin .len, args := #[x], argTypes := #[ty] }) (.int .i64 (s.size : Int)) :=
  fun ds a hF o ho => by
    simp [execOp, ho, resolve, invoke, builtin, hF.ov hx]
    go_simp
theorem x_eqS {p q : ByteArray} {b : Bool} (h : decide (p = q) = b) (hx : ov l x = some (.string p)) (hy : ov l y = some (.string q)) : Runs P n l w (.binOp .eql t x y t') (.bool b) :=
  x_bin hx hy fun W => ⟨by simp [eqGuard], by
    subst h
    simp [binOp, Op.stringOp]
    rw [Bool.eq_iff_iff]
    simp only [beq_iff_eq, decide_eq_true_eq]
    constructor
    · intro h
      rw [ByteArray.toList_eq, ByteArray.toList_eq] at h
      exact ByteArray.ext (Array.ext' h)
    · rintro rfl
      rfl⟩
theorem x_eqT {p q : ByteArray} (h : p = q) (hx : ov l x = some (.string p)) (hy : ov l y = some (.string q)) : Runs P n l w (.binOp .eql t x y t') (.bool true) :=
  x_eqS (decide_eq_true h) hx hy
theorem x_eqB {p q b : Bool} (ht : P.underlying t = some .bool) (h : (p == q) = b) (hx : ov l x = some (.bool p)) (hy : ov l y = some (.bool q)) : Runs P n l w (.binOp .eql t x y t') (.bool b) :=
  x_bin hx hy fun W => ⟨by simp [eqGuard], by
    subst h
    have h := fun d => run_equalIn_bool' (P := P) W d t p q ht
    have h := h 9999
    simp only [binOp, Op.equal, Op.maxDepth]
    simp [h]⟩

/-- Of an array's elements from the kth on. -/
def eqFrom (P : Program) (d e : Nat) (xs ys : Array Value) : List Nat → Sem Bool
  | [] => pure true
  | i :: is => do
    let a ← part e xs i
    let b ← part e ys i
    let r ← Op.equalIn d e a b
    if (!r) = true then pure false else eqFrom P d e xs ys is
theorem run_eqFrom {d e : Nat} {k : IntKind} (he : P.underlying e = some (.int k)) (hf : Flat P e = true) (xs ys : List UInt8) (hl : xs.length = ys.length) : ∀ (is : List Nat), (∀ i ∈ is, i < xs.length) → (eqFrom P (d + 1) e (xs.map encB).toArray (ys.map encB).toArray is).run P w = .ok (is.all fun i => xs.getD i 0 == ys.getD i 0) w
  | [], _ => rfl
  | i :: is, h => by
    have hi := h i (by simp)
    have ih := run_eqFrom (d := d) he hf xs ys hl is (fun j hj => h j (by simp [hj]))
    have px : (part e (xs.map encB).toArray i).run P w = .ok (encB (xs.getD i 0)) w := by
      have : (xs.map encB).toArray[i]? = some (encB (xs.getD i 0)) := by
        rw [List.getElem?_toArray]
        rw [List.getElem?_map, getD_get xs i 0 hi]
        rfl
      simp [part, run_isAgg_flat hf, this]
    have py : (part e (ys.map encB).toArray i).run P w = .ok (encB (ys.getD i 0)) w := by
      have : (ys.map encB).toArray[i]? = some (encB (ys.getD i 0)) := by
        rw [List.getElem?_toArray]
        rw [List.getElem?_map, getD_get ys i 0 (by omega)]
        rfl
      simp [part, run_isAgg_flat hf, this]
    have pe : (Op.equalIn (d + 1) e (encB (xs.getD i 0)) (encB (ys.getD i 0))).run P w = .ok (xs.getD i 0 == ys.getD i 0) w := by
      generalize xs.getD i 0 = p
      generalize ys.getD i 0 = q
      unfold encB
      rw [run_equalIn_int w d e .u8 k _ _ he]
      congr 1
      rw [Bool.eq_iff_iff, beq_iff_eq, beq_iff_eq]
      exact ⟨fun h => UInt8.toNat_inj.1 (by omega), fun h => by rw [h]⟩
    simp only [eqFrom, Sem.run_bind, px, py, pe, Result.andThen_ok, Sem.run_ite, List.all_cons]
    cases hb : (xs.getD i 0 == ys.getD i 0)
    · simp
    · simpa using ih
theorem run_equalIn_array {d t N e : Nat} {xs ys : Array Value} (ht : P.underlying t = some (.array N e)) (hs : (P.info? e).map (·.size) = some 1) : (Op.equalIn (d + 1) t (.agg xs) (.agg ys)).run P w = (eqFrom P d e xs ys (List.range N)).run P w := by
  simp only [Op.equalIn, Sem.run_bind, run_underlying ht, Result.andThen_ok, run_sizeOf_of hs, Nat.mul_one]
  rw [Std.Legacy.Range.forIn_eq_forIn_range']
  simp only [Std.Legacy.Range.size, Nat.sub_zero, Nat.add_sub_cancel, Nat.div_one, ← List.range_eq_range']
  generalize List.range N = is
  induction is generalizing w with
  | nil => simp [eqFrom]
  | cons i is ih =>
    simp only [List.forIn_cons, eqFrom, Sem.run_bind, Sem.run_ite]
    generalize (part e xs i).run P w = r1
    cases r1 with
    | ok a w1 =>
      simp only [Result.andThen_ok]
      generalize (part e ys i).run P w1 = r2
      cases r2 with
      | ok b w2 =>
        simp only [Result.andThen_ok]
        generalize (Op.equalIn d e a b).run P w2 = r3
        cases r3 with
        | ok r w3 =>
          cases r
          · simp only [Result.andThen_ok, Bool.not_false, if_true, Sem.run_pure]
          · simp only [Result.andThen_ok, Bool.not_true, Bool.false_eq_true, if_false, Sem.run_pure]
            exact ih
        | halt x w3 => simp [Result.andThen]
      | halt x w2 => simp [Result.andThen]
    | halt x w1 => simp [Result.andThen]
theorem all_eq (xs ys : List UInt8) (hl : xs.length = ys.length) : ((List.range xs.length).all fun i => xs.getD i 0 == ys.getD i 0) = decide (xs = ys) := by
  rw [Bool.eq_iff_iff]
  simp only [List.all_eq_true, List.mem_range, beq_iff_eq, decide_eq_true_eq]
  constructor
  · intro h
    apply List.ext_getElem?
    intro i
    by_cases hi : i < xs.length
    · rw [getD_get xs i 0 hi, getD_get ys i 0 (by omega), h i hi]
    · rw [List.getElem?_eq_none (by omega), List.getElem?_eq_none (by omega)]
  · rintro rfl i _
    rfl
/-- Two arrays of bytes. -/
theorem x_eqA {xs ys : List UInt8} {N e : Nat} {k : IntKind} {b : Bool} (ht : P.underlying t = some (.array N e)) (he : P.underlying e = some (.int k)) (hf : Flat P e = true) (hg : P.eqGuardType P.depth t = false) (hX : xs.length = N) (hY : ys.length = N) (hb : decide (xs = ys) = b) (hx : ov l x = some (.agg (xs.map encB).toArray)) (hy : ov l y = some (.agg (ys.map encB).toArray)) : Runs P n l w (.binOp .eql t x y t') (.bool b) :=
  x_bin hx hy fun W => by
    refine ⟨run_eqGuard_agg W .eql t x y _ _ hg, ?_⟩
    rw [run_eql_struct]
    have h1 := run_equalIn_array (P := P) (w := W) (d := 9999) (xs := (xs.map encB).toArray) (ys := (ys.map encB).toArray) ht (size_flat hf)
    have h2 := run_eqFrom (P := P) (w := W) (d := 9998) he hf xs ys (by omega) (List.range N) (fun i hi => by rw [hX]; simpa using hi)
    rw [show (10000 : Nat) = 9999 + 1 from rfl, h1, show (9999 : Nat) = 9998 + 1 from rfl, h2, ← hX, all_eq xs ys (by omega), hb]
    rfl
theorem x_neA {xs ys : List UInt8} {N e : Nat} {k : IntKind} {b : Bool} (ht : P.underlying t = some (.array N e)) (he : P.underlying e = some (.int k)) (hf : Flat P e = true) (hg : P.eqGuardType P.depth t = false) (hX : xs.length = N) (hY : ys.length = N) (hb : (!decide (xs = ys)) = b) (hx : ov l x = some (.agg (xs.map encB).toArray)) (hy : ov l y = some (.agg (ys.map encB).toArray)) : Runs P n l w (.binOp .neq t x y t') (.bool b) :=
  x_bin hx hy fun W => by
    refine ⟨run_eqGuard_agg W .neq t x y _ _ hg, ?_⟩
    rw [run_neq_struct]
    have h1 := run_equalIn_array (P := P) (w := W) (d := 9999) (xs := (xs.map encB).toArray) (ys := (ys.map encB).toArray) ht (size_flat hf)
    have h2 := run_eqFrom (P := P) (w := W) (d := 9998) he hf xs ys (by omega) (List.range N) (fun i hi => by rw [hX]; simpa using hi)
    rw [show (10000 : Nat) = 9999 + 1 from rfl, h1, show (9999 : Nat) = 9998 + 1 from rfl, h2, ← hX, all_eq xs ys (by omega)]
    subst hb
    rfl
/-- string(b). -/
theorem x_str {ex s d e : Nat} {v : Value} {bs : List UInt8} (hs : P.underlying s = some (.slice e)) (he : P.underlying e = some (.int .u8)) (hd : P.underlying d = some .string) (hR : RB ex w v bs) (hx : ov l x = some v) : Runs P n l w (.convert s d x) (.string ⟨bs.toArray⟩) :=
  x_conv hx (by
    rcases hR with ⟨a, c, rfl, rfl, h⟩ | ⟨b, off, cap, rfl, h1, _, _, h2⟩
    · rw [run_convert_bytes_string w s d e a 0 c hs he hd]
      cases a <;> simp [Conv.bytesToString, loadCells] <;> rfl
    · refine run_convert_bytes_back w s d e ⟨b, off, none⟩ cap bs hs he hd fun j hj => ?_
      rw [addr_addn]
      exact h2 j _ (List.getElem?_eq_getElem hj))
end

section
variable {P : Program} {n d : Nat} {l : List (Nat × Value)} {w : World} {a : Act} {ops : Array Oper} {Q : Exit → Act → World → Prop} {rest : List Oper} {ty : TypeId} {pos : String} {af : Array Edge}

/-- A slice literal of bytes. -/
theorem s_lit {ds : List Deferred} {t e len : Nat} {parts : List (Nat × Operand)} (bs : List UInt8) (hF : Fs n a l (ds := ds)) (hd : d < n) (hx : parts.map (fun p => (p.1, ov l p.2)) = (bs.zipIdx 0).map (fun p => (p.2, some (encB p.1)))) (hu : P.underlying t = some (.slice e)) (hs : (P.info? e).map (·.size) = some 1) (hz : ((P.info? e).bind (·.zero)).isSome = true) (hl : len = bs.length) (hp : 0 < len) (hm : len ≤ 2 ^ 24)
    (h : ∀ w' b a', b = w.heap.size → Blk w' b e (bs.map encB) → Below w.heap.size w w' → w'.heap.size = w.heap.size + 1 → Fs n a' ((d, .slice (some ⟨b, 0, none⟩) bs.length bs.length) :: l) (ds := ds) → wpList P ops Q rest a' w') :
    wpList P ops Q (⟨some d, .buildSlice t len parts.toArray, ty, pos, af, none⟩ :: rest) a w := by
  subst hl
  refine s_new (w' := w.alloc (.cells (bs.map encB).toArray e)) (v := .slice (some ⟨w.heap.size, 0, none⟩) bs.length bs.length) hF (fun o ho => ?_) hd fun a' hF' => h _ _ a' rfl (blk_alloc e _) (below_alloc _) (size_alloc _) hF'
  cases hie : P.info? e with
  | none => simp [hie] at hs
  | some ie =>
    simp only [hie, Option.map_some, Option.some.injEq, Option.bind_some] at hs hz
    obtain ⟨z, hzz⟩ := Option.isSome_iff_exists.1 hz
    have hv : (parts.toArray.map fun (i, x) => (i, a.eval x)).toList = ((bs.map encB).zipIdx 0).map fun x => (x.2, x.1) := by
      have := ov_parts hF parts (((bs.map encB).zipIdx 0).map fun x => (x.2, x.1)) (by rw [hx, List.zipIdx_map, List.map_map, List.map_map]; rfl)
      rw [← this]
      simp
    have := run_buildSlice (P := P) w t e bs.length (parts.toArray.map fun (i, x) => (i, a.eval x)) (bs.map encB).toArray ie z hu hie hzz (by rw [hs]; omega) (by rw [hs]; omega) (by
      rw [hv, hs]
      exact Great.fill_flat _ _ (fun v hv => by obtain ⟨n, _, rfl⟩ := List.mem_map.1 hv; rfl) (by simp))
    unfold execOp
    simp only [ho, Sem.run_bind, this, Result.andThen_ok]
    rfl
end
end Go.Proofs.Ytgpciphjhnabcaa
