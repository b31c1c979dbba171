/- Terms in memory: what a value reads as. -/
import Derived.Test.YtmkjhdiepkpdoaaLevD
import Derived.Test.YtmkjhdiepkpdoaaPureL
namespace Go.Proofs.Ytmkjhdiepkpdoaa
open Go.RowKit Go.Shelf
set_option linter.unusedVariables false
set_option linter.unusedSimpArgs false
theorem flat4 : Flat Try.prog 4 = true := by kernel_rfl
theorem flat9 : Flat Try.prog 9 = true := by kernel_rfl
theorem flat25 : Flat Try.prog 25 = true := by kernel_rfl
theorem flat43 : Flat Try.prog 49 = true := by kernel_rfl
theorem wide27 : Wide Try.prog 27 8 = true := by kernel_rfl
theorem wide70 : Wide Try.prog 69 2 = true := by kernel_rfl
theorem el25 : Elem Try.prog 25 27 8 120 := elem_of (by kernel_rfl)
abbrev nilS : Value := .slice none 0 0
abbrev z8 : List Value := [.int .i64 0, .int .i64 0, .string (ByteArray.mk #[]), .int .i64 0, .int .i64 0, nilS, nilS, nilS]
theorem zero4 : (Try.prog.info? 4).bind (·.zero) = some (.bool false) := by kernel_rfl
theorem zero43 : (Try.prog.info? 49).bind (·.zero) = some (.int .i64 0) := by kernel_rfl
theorem zero27 : (Try.prog.info? 27).bind (·.zero) = some (.agg z8.toArray) := by kernel_rfl
theorem zero70 : (Try.prog.info? 69).bind (·.zero) = some (.agg [Value.int .i64 0, Value.int .i64 0].toArray) := by kernel_rfl
theorem fa27_0 : fldB Try.prog 27 0 0 = true := by kernel_rfl
theorem fa27_1 : fldB Try.prog 27 1 1 = true := by kernel_rfl
theorem fa27_2 : fldB Try.prog 27 2 2 = true := by kernel_rfl
theorem fa27_3 : fldB Try.prog 27 3 3 = true := by kernel_rfl
theorem fa27_4 : fldB Try.prog 27 4 6 = true := by kernel_rfl
theorem fa27_5 : fldB Try.prog 27 5 7 = true := by kernel_rfl
theorem fa70_0 : fldB Try.prog 69 0 0 = true := by kernel_rfl
theorem fa70_1 : fldB Try.prog 69 1 1 = true := by kernel_rfl
/-- A term's eight cells. -/
structure C8 where
 k : Int
 n : Int
 s : ByteArray
 l : C3
 ls : Value
 ts : Value
def tc (x : C8) : List Value := [.int .i64 x.k, .int .i64 x.n, .string x.s, .int .i64 x.l.1, .int .i64 x.l.2.1, x.l.2.2, x.ls, x.ts]
abbrev tv (x : C8) : Value := .agg (tc x).toArray
theorem fm8_get : ∀ (xs : List C8) (i j : Nat) (x : C8) (u : Value), xs[i]? = some x → (tc x)[j]? = some u → (xs.flatMap tc)[i * 8 + j]? = some u
 | [], i, j, x, u, h1, _ => by simp at h1
 | y :: xs, 0, j, x, u, h1, h2 => by
  simp at h1
  subst h1
  have hj : j < 8 := (List.getElem?_eq_some_iff.1 h2).1
  rw [List.flatMap_cons, List.getElem?_append_left (by simp [tc]; omega), Nat.zero_mul, Nat.zero_add, h2]
 | y :: xs, i + 1, j, x, u, h1, h2 => by
  rw [List.flatMap_cons, List.getElem?_append_right (by simp [tc]; omega), show (i + 1) * 8 + j - (tc y).length = i * 8 + j by simp [tc]; omega]
  exact fm8_get xs i j x u (by simpa using h1) h2
theorem own_slice (a : Option Addr) (n c m d : Nat) : (Value.slice a n c).ownBlock = (Value.slice a m d).ownBlock := by cases a <;> rfl
/-- A slice of n elements of k cells; its block, if it has elements, is one of A. -/
def Rn (W : World) (A : Nat → Prop) (v : Value) (k n : Nat) (cs : List Value) : Prop := Rd W v k n cs ∧ (0 < n → ∀ b, v.ownBlock = some b → A b)
section
variable {W W' : World} {A B : Nat → Prop} {v : Value} {k n : Nat} {cs : List Value}
theorem Rn.keep (h : Rn W A v k n cs) (hs : W.heap.size ≤ W'.heap.size) (hk : ∀ k, A k → k < W.heap.size → W'.heap[k]? = W.heap[k]?) : Rn W' A v k n cs := by
 rcases Nat.eq_zero_or_pos n with hn | hn
 ·
  refine ⟨⟨h.1.1, ?_⟩, h.2⟩
  obtain ⟨a, c, h1, h2, h3⟩ := h.1.form
  exact .inl ⟨a, c, by rw [h1, hn], hn, h3⟩
 ·
  exact ⟨h.1.keep hs (fun b hb hl => hk b (h.2 hn b hb) hl), h.2⟩
theorem Rn.mono (hAB : ∀ k, A k → B k) (h : Rn W A v k n cs) : Rn W B v k n cs := ⟨h.1, fun hn b hb => hAB b (h.2 hn b hb)⟩
theorem Rn.nil (W : World) (A : Nat → Prop) (k : Nat) : Rn W A nilS k 0 [] := ⟨Rd.nil W k, fun h => by omega⟩
theorem Rn.lt (h : Rn W A v k n cs) : Rn W (fun k => A k ∧ k < W.heap.size) v k n cs := ⟨h.1, fun hn b hb => ⟨h.2 hn b hb, h.1.lt hn hb⟩⟩
end
theorem Rd.n {W : World} {v : Value} {k m : Nat} {cs : List Value} (h : Rd W v k m cs) : Rn W (fun k => k < W.heap.size) v k m cs := ⟨h, fun hn b hb => h.lt hn hb⟩
/-- x reads as the level l, in blocks of A. -/
inductive RLn (W : World) (A : Nat → Prop) : C3 → Lv → Prop where
 | mk {k n : Int} {v : Value} {xs : List C3} {ls : List Lv} (hR : Rn W A v 3 xs.length (xs.flatMap lc)) (hl : xs.length = ls.length) (hk : ∀ (i : Nat) x l, xs[i]? = some x → ls[i]? = some l → RLn W A x l) (hbd9 : ls.length ≤ 9223372036854775807 := by first | (simp; done) | assumption | omega) : RLn W A (k, n, v) (.mk k n ls)
section
variable {W W' : World} {A B : Nat → Prop} {x : C3} {l : Lv}
theorem RLn.rl (h : RLn W A x l) : RL W x l := by
 induction h with
 | mk hR hl hk hbd9 ih => exact .mk hR.1 hl ih hbd9
theorem RL.n (h : RL W x l) : RLn W (fun k => k < W.heap.size) x l := by
 induction h with
 | mk hR hl hk hbd9 ih => exact .mk hR.n hl ih hbd9
theorem RLn.keep (hs : W.heap.size ≤ W'.heap.size) (hk : ∀ k, A k → k < W.heap.size → W'.heap[k]? = W.heap[k]?) (h : RLn W A x l) : RLn W' A x l := by
 induction h with
 | mk hR hl _ hbd9 ih => exact .mk (hR.keep hs hk) hl ih hbd9
theorem RLn.mono (hAB : ∀ k, A k → B k) (h : RLn W A x l) : RLn W B x l := by
 induction h with
 | mk hR hl _ hbd9 ih => exact .mk (hR.mono hAB) hl ih hbd9
theorem RLn.slice (h : RLn W A x l) : ∃ n cs, Rd W x.2.2 3 n cs := h.rl.slice
end
/-- A slice of levels. -/
def RVn (W : World) (A : Nat → Prop) (v : Value) (ls : List Lv) : Prop := ∃ xs : List C3, Rn W A v 3 xs.length (xs.flatMap lc) ∧ xs.length = ls.length ∧ ∀ (i : Nat) x l, xs[i]? = some x → ls[i]? = some l → RLn W A x l
section
variable {W W' : World} {A B : Nat → Prop} {v : Value} {ls : List Lv}
theorem RVn.keep (hs : W.heap.size ≤ W'.heap.size) (hk : ∀ k, A k → k < W.heap.size → W'.heap[k]? = W.heap[k]?) : RVn W A v ls → RVn W' A v ls :=
 fun ⟨xs, h1, h2, h3⟩ => ⟨xs, h1.keep hs hk, h2, fun i x l e1 e2 => (h3 i x l e1 e2).keep hs hk⟩
theorem RVn.mono (hAB : ∀ k, A k → B k) : RVn W A v ls → RVn W B v ls := fun ⟨xs, h1, h2, h3⟩ => ⟨xs, h1.mono hAB, h2, fun i x l e1 e2 => (h3 i x l e1 e2).mono hAB⟩
theorem RVn.nil (W : World) (A : Nat → Prop) : RVn W A nilS [] := ⟨[], Rn.nil W A 3, rfl, fun i x l h => by simp at h⟩
theorem RVn.form (h : RVn W A v ls) : ∃ a c, v = .slice a ls.length c ∧ ls.length ≤ c ∧ (a = none → c = 0) := by
 obtain ⟨xs, h1, h2, _⟩ := h
 rw [← h2]
 exact h1.1.form
theorem RVn.one (h : RVn W A v ls) : v.oneCell' = true := by
 obtain ⟨a, c, rfl, _⟩ := h.form
 rfl
end
/-- A term, as far as it is looked at; m: how many kids more there are (of an odd one: how many there are). -/
inductive CT where
 | var (n : Int) (m : Nat)
 | sort (l : Lv) (m : Nat)
 | cst (s : ByteArray) (ls : List Lv) (m : Nat)
 | odd (k : Int) (m : Nat)
 | two (k : Int) (a b : CT) (m : Nat)
 | lt (a b c : CT) (m : Nat)
def arT (k : Int) : Int := if k = 1 ∨ k = 2 ∨ k = 7 then 0 else if k = 3 ∨ k = 4 ∨ k = 6 then 2 else if k = 5 then 3 else -1
def CT.size : CT → Nat
 | .two _ a b _ => a.size + b.size + 1
 | .lt a b c _ => a.size + b.size + c.size + 1
 | _ => 1
def CT.dep : CT → Nat
 | .two _ a b _ => max a.dep b.dep + 1
 | .lt a b c _ => max a.dep (max b.dep c.dep) + 1
 | _ => 1
def CT.kids : CT → List CT
 | .two _ a b _ => [a, b]
 | .lt a b c _ => [a, b, c]
 | _ => []
def CT.kd : CT → Int
 | .var .. => 1
 | .sort .. => 2
 | .cst .. => 7
 | .odd k _ => k
 | .two k .. => k
 | .lt .. => 5
/-- How many kids its list has. -/
def CT.len : CT → Nat
 | .var _ m => m
 | .sort _ m => m
 | .cst _ _ m => m
 | .odd _ m => m
 | .two _ _ _ m => m + 2
 | .lt _ _ _ m => m + 3
/-- How many binders of its own its kid i stands beneath. -/
def CT.bnd : CT → Nat → Int
 | .two k _ _ _, i => if (k = 3 ∨ k = 4) ∧ i = 1 then 1 else 0
 | .lt .., i => if i = 2 then 1 else 0
 | _, _ => 0
def in64 (z : Int) : Prop := -9223372036854775808 ≤ z ∧ z < 9223372036854775808
/-- What every term's cells are. -/
def Ok (W : World) (A : Nat → Prop) (x : C8) : Prop := (∃ l, RLn W A x.l l) ∧ (∃ ls, RVn W A x.ls ls)
def RC (W : World) (A : Nat → Prop) : CT → C8 → Prop
 | .var n m, x => x.k = 1 ∧ x.n = n ∧ in64 n ∧ (∃ cs, Rn W A x.ts 8 m cs) ∧ Ok W A x
 | .sort l m, x => x.k = 2 ∧ RLn W A x.l l ∧ (∃ cs, Rn W A x.ts 8 m cs) ∧ Ok W A x
 | .cst s ls m, x => x.k = 7 ∧ x.s = s ∧ RVn W A x.ls ls ∧ (∃ cs, Rn W A x.ts 8 m cs) ∧ Ok W A x
 | .odd k m, x => x.k = k ∧ (arT k < 0 ∨ (m : Int) < arT k) ∧ (∃ cs, Rn W A x.ts 8 m cs) ∧ Ok W A x
 | .two k a b m, x => x.k = k ∧ (k = 3 ∨ k = 4 ∨ k = 6) ∧ (∃ y z cs, Rn W A x.ts 8 (m + 2) (tc y ++ (tc z ++ cs)) ∧ RC W A a y ∧ RC W A b z) ∧ Ok W A x
 | .lt a b c m, x => x.k = 5 ∧ (∃ y z u cs, Rn W A x.ts 8 (m + 3) (tc y ++ (tc z ++ (tc u ++ cs))) ∧ RC W A a y ∧ RC W A b z ∧ RC W A c u) ∧ Ok W A x
section
variable {W W' : World} {A B : Nat → Prop}
theorem Ok.keep (hs : W.heap.size ≤ W'.heap.size) (hk : ∀ k, A k → k < W.heap.size → W'.heap[k]? = W.heap[k]?) {x : C8} : Ok W A x → Ok W' A x := fun ⟨⟨l, h1⟩, ls, h2⟩ => ⟨⟨l, h1.keep hs hk⟩, ls, h2.keep hs hk⟩
theorem Ok.mono (hAB : ∀ k, A k → B k) {x : C8} : Ok W A x → Ok W B x := fun ⟨⟨l, h1⟩, ls, h2⟩ => ⟨⟨l, h1.mono hAB⟩, ls, h2.mono hAB⟩
theorem RC.keep (hs : W.heap.size ≤ W'.heap.size) (hk : ∀ k, A k → k < W.heap.size → W'.heap[k]? = W.heap[k]?) : ∀ {c : CT} {x : C8}, RC W A c x → RC W' A c x
 | .var .., x, ⟨h1, h2, h3, ⟨cs, h4⟩, h5⟩ => ⟨h1, h2, h3, ⟨cs, h4.keep hs hk⟩, h5.keep hs hk⟩
 | .sort .., x, ⟨h1, h2, ⟨cs, h4⟩, h5⟩ => ⟨h1, h2.keep hs hk, ⟨cs, h4.keep hs hk⟩, h5.keep hs hk⟩
 | .cst .., x, ⟨h1, h2, h3, ⟨cs, h4⟩, h5⟩ => ⟨h1, h2, h3.keep hs hk, ⟨cs, h4.keep hs hk⟩, h5.keep hs hk⟩
 | .odd .., x, ⟨h1, h2, ⟨cs, h4⟩, h5⟩ => ⟨h1, h2, ⟨cs, h4.keep hs hk⟩, h5.keep hs hk⟩
 | .two .., x, ⟨h1, h2, ⟨y, z, cs, h3, h4, h5⟩, h6⟩ => ⟨h1, h2, ⟨y, z, cs, h3.keep hs hk, RC.keep hs hk h4, RC.keep hs hk h5⟩, h6.keep hs hk⟩
 | .lt .., x, ⟨h1, ⟨y, z, u, cs, h3, h4, h5, h7⟩, h6⟩ => ⟨h1, ⟨y, z, u, cs, h3.keep hs hk, RC.keep hs hk h4, RC.keep hs hk h5, RC.keep hs hk h7⟩, h6.keep hs hk⟩
theorem RC.mono (hAB : ∀ k, A k → B k) : ∀ {c : CT} {x : C8}, RC W A c x → RC W B c x
 | .var .., x, ⟨h1, h2, h3, ⟨cs, h4⟩, h5⟩ => ⟨h1, h2, h3, ⟨cs, h4.mono hAB⟩, h5.mono hAB⟩
 | .sort .., x, ⟨h1, h2, ⟨cs, h4⟩, h5⟩ => ⟨h1, h2.mono hAB, ⟨cs, h4.mono hAB⟩, h5.mono hAB⟩
 | .cst .., x, ⟨h1, h2, h3, ⟨cs, h4⟩, h5⟩ => ⟨h1, h2, h3.mono hAB, ⟨cs, h4.mono hAB⟩, h5.mono hAB⟩
 | .odd .., x, ⟨h1, h2, ⟨cs, h4⟩, h5⟩ => ⟨h1, h2, ⟨cs, h4.mono hAB⟩, h5.mono hAB⟩
 | .two .., x, ⟨h1, h2, ⟨y, z, cs, h3, h4, h5⟩, h6⟩ => ⟨h1, h2, ⟨y, z, cs, h3.mono hAB, RC.mono hAB h4, RC.mono hAB h5⟩, h6.mono hAB⟩
 | .lt .., x, ⟨h1, ⟨y, z, u, cs, h3, h4, h5, h7⟩, h6⟩ => ⟨h1, ⟨y, z, u, cs, h3.mono hAB, RC.mono hAB h4, RC.mono hAB h5, RC.mono hAB h7⟩, h6.mono hAB⟩
theorem RC.ok : ∀ {c : CT} {x : C8}, RC W A c x → Ok W A x
 | .var .., x, h => h.2.2.2.2
 | .sort .., x, h => h.2.2.2
 | .cst .., x, h => h.2.2.2.2
 | .odd .., x, h => h.2.2.2
 | .two .., x, h => h.2.2.2
 | .lt .., x, h => h.2.2
theorem RC.kd : ∀ {c : CT} {x : C8}, RC W A c x → x.k = c.kd
 | .var .., x, h => h.1
 | .sort .., x, h => h.1
 | .cst .., x, h => h.1
 | .odd .., x, h => h.1
 | .two .., x, h => h.1
 | .lt .., x, h => h.1
theorem RC.ts : ∀ {c : CT} {x : C8}, RC W A c x → ∃ cs, Rn W A x.ts 8 c.len cs
 | .var .., x, h => h.2.2.2.1
 | .sort .., x, h => h.2.2.1
 | .cst .., x, h => h.2.2.2.1
 | .odd .., x, h => h.2.2.1
 | .two .., x, ⟨_, _, ⟨y, z, cs, h, _⟩, _⟩ => ⟨_, h⟩
 | .lt .., x, ⟨_, ⟨y, z, u, cs, h, _⟩, _⟩ => ⟨_, h⟩
theorem RC.below {c : CT} {x : C8} (h : RC W A c x) (hB : Below W.heap.size W W') : RC W' A c x := h.keep hB.size (fun k _ hk => hB.block k hk)
theorem RC.only {c : CT} {x : C8} {b : Nat} (h : RC W A c x) (o : Only b W W') (hb : ¬ A b) : RC W' A c x := h.keep (Nat.le_of_eq o.size.symm) (fun k ha _ => o.block k (fun e => hb (e ▸ ha)))
theorem RC.k2 {c : CT} {x : C8} {a b : Nat} (h : RC W A c x) (hK : Ktw a b W W') (ha : ¬ A a) (hb : ¬ A b) : RC W' A c x := h.keep hK.size (fun k hA hk => hK.block k hk ⟨fun e => ha (e ▸ hA), fun e => hb (e ▸ hA)⟩)
/-- Each cell of it is one. -/
theorem RC.one {c : CT} {x : C8} (h : RC W A c x) : ∀ u ∈ tc x, u.oneCell' = true := by
 obtain ⟨⟨l, hl⟩, ls, hls⟩ := h.ok
 obtain ⟨cs, ht⟩ := h.ts
 obtain ⟨n, cs', hs⟩ := hl.slice
 intro u hu
 simp only [tc, List.mem_cons, List.not_mem_nil, or_false] at hu
 rcases hu with rfl | rfl | rfl | rfl | rfl | rfl | rfl | rfl
 ·
  rfl
 ·
  rfl
 ·
  rfl
 ·
  rfl
 ·
  rfl
 ·
  exact hs.one
 ·
  exact hls.one
 ·
  exact ht.1.one
end
/-- A slice of terms. -/
def RK (W : World) (A : Nat → Prop) (v : Value) (cs : List CT) : Prop := ∃ xs : List C8, Rn W A v 8 xs.length (xs.flatMap tc) ∧ xs.length = cs.length ∧ ∀ (i : Nat) x c, xs[i]? = some x → cs[i]? = some c → RC W A c x
section
variable {W W' : World} {A B : Nat → Prop} {v : Value} {cs : List CT}
theorem RK.keep (hs : W.heap.size ≤ W'.heap.size) (hk : ∀ k, A k → k < W.heap.size → W'.heap[k]? = W.heap[k]?) : RK W A v cs → RK W' A v cs :=
 fun ⟨xs, h1, h2, h3⟩ => ⟨xs, h1.keep hs hk, h2, fun i x l e1 e2 => (h3 i x l e1 e2).keep hs hk⟩
theorem RK.mono (hAB : ∀ k, A k → B k) : RK W A v cs → RK W B v cs := fun ⟨xs, h1, h2, h3⟩ => ⟨xs, h1.mono hAB, h2, fun i x l e1 e2 => (h3 i x l e1 e2).mono hAB⟩
theorem RK.below (h : RK W A v cs) (hB : Below W.heap.size W W') : RK W' A v cs := h.keep hB.size (fun k _ hk => hB.block k hk)
theorem RK.nil (W : World) (A : Nat → Prop) : RK W A nilS [] := ⟨[], Rn.nil W A 8, rfl, fun i x l h => by simp at h⟩
theorem RK.form (h : RK W A v cs) : ∃ a c, v = .slice a cs.length c ∧ cs.length ≤ c ∧ (a = none → c = 0) := by
 obtain ⟨xs, h1, h2, _⟩ := h
 rw [← h2]
 exact h1.1.form
theorem RK.one (h : RK W A v cs) : v.oneCell' = true := by
 obtain ⟨a, c, rfl, _⟩ := h.form
 rfl
/-- An element, read. -/
theorem RK.row (h : RK W A v cs) {i : Nat} (hi : i < cs.length) :
    ∃ b off c x y, v = .slice (some ⟨b, off, none⟩) cs.length c ∧ cs[i]? = some y ∧ RC W A y x ∧ A b ∧ b < W.heap.size ∧ ∀ W' : World, W'.heap[b]? = W.heap[b]? → ∀ j u, (tc x)[j]? = some u → W'.cell? ((⟨b, off + i * 8, none⟩ : Addr).add j) = some u := by
  obtain ⟨xs, h1, h2, h3⟩ := h
  obtain ⟨b, off, c, rfl, hb⟩ := h1.1.some (by omega)
  refine ⟨b, off, c, xs[i]'(by omega), cs[i], by rw [h2], List.getElem?_eq_getElem hi, h3 i _ _ (List.getElem?_eq_getElem (by omega)) (List.getElem?_eq_getElem hi), h1.2 (by omega) b rfl, hb, fun W' hB j u hj => ?_⟩
  rw [addr_addn, Nat.add_assoc]
  exact (World.cell?_of_block (w := W) (a := ⟨b, off + (i * 8 + j), none⟩) hB).trans (h1.1.cell (fm8_get xs i j _ u (List.getElem?_eq_getElem (by omega)) hj))
/-- A term's kids. -/
theorem RC.kids : ∀ {c : CT} {x : C8}, RC W A c x → ∃ a n cap, x.ts = .slice a n cap ∧ c.kids.length ≤ n ∧ n = c.len ∧ c.kids.length ≤ cap ∧ RK W A (.slice a c.kids.length cap) c.kids
 | .var n m, x, ⟨_, _, _, ⟨cs, h⟩, _⟩ => by
  obtain ⟨a, c, h1, h2, h3⟩ := h.1.form
  exact ⟨a, m, c, h1, Nat.zero_le _, rfl, Nat.zero_le _, [], ⟨⟨by simp, .inl ⟨_, _, rfl, rfl, h3⟩⟩, fun h => by simp at h⟩, rfl, fun i x l h => by simp at h⟩
 | .sort n m, x, ⟨_, _, ⟨cs, h⟩, _⟩ => by
  obtain ⟨a, c, h1, h2, h3⟩ := h.1.form
  exact ⟨a, m, c, h1, Nat.zero_le _, rfl, Nat.zero_le _, [], ⟨⟨by simp, .inl ⟨_, _, rfl, rfl, h3⟩⟩, fun h => by simp at h⟩, rfl, fun i x l h => by simp at h⟩
 | .cst _ n m, x, ⟨_, _, _, ⟨cs, h⟩, _⟩ => by
  obtain ⟨a, c, h1, h2, h3⟩ := h.1.form
  exact ⟨a, m, c, h1, Nat.zero_le _, rfl, Nat.zero_le _, [], ⟨⟨by simp, .inl ⟨_, _, rfl, rfl, h3⟩⟩, fun h => by simp at h⟩, rfl, fun i x l h => by simp at h⟩
 | .odd n m, x, ⟨_, _, ⟨cs, h⟩, _⟩ => by
  obtain ⟨a, c, h1, h2, h3⟩ := h.1.form
  exact ⟨a, m, c, h1, Nat.zero_le _, rfl, Nat.zero_le _, [], ⟨⟨by simp, .inl ⟨_, _, rfl, rfl, h3⟩⟩, fun h => by simp at h⟩, rfl, fun i x l h => by simp at h⟩
 | .two k p q m, x, ⟨_, _, ⟨y, z, cs, h, hp, hq⟩, _⟩ => by
  obtain ⟨a, c, h1, h2, h3⟩ := h.1.form
  have hu := (h1 ▸ h.1).upto 2 (by omega)
  rw [show (tc y ++ (tc z ++ cs)).take (2 * 8) = [y, z].flatMap tc by simp [tc]] at hu
  refine ⟨a, m + 2, c, h1, by simp [CT.kids], rfl, by simp [CT.kids]; omega, [y, z], ⟨hu, fun _ b hb => h.2 (by omega) b (by rw [h1, own_slice _ _ _ _ c]; exact hb)⟩, rfl, fun i x l e1 e2 => ?_⟩
  rcases i with _ | _ | i
  ·
   simp [CT.kids] at e1 e2; subst e1 e2; exact hp
  ·
   simp [CT.kids] at e1 e2; subst e1 e2; exact hq
  ·
   simp at e1
 | .lt p q r m, x, ⟨_, ⟨y, z, u, cs, h, hp, hq, hr⟩, _⟩ => by
  obtain ⟨a, c, h1, h2, h3⟩ := h.1.form
  have hu := (h1 ▸ h.1).upto 3 (by omega)
  rw [show (tc y ++ (tc z ++ (tc u ++ cs))).take (3 * 8) = [y, z, u].flatMap tc by simp [tc]] at hu
  refine ⟨a, m + 3, c, h1, by simp [CT.kids], rfl, by simp [CT.kids]; omega, [y, z, u], ⟨hu, fun _ b hb => h.2 (by omega) b (by rw [h1, own_slice _ _ _ _ c]; exact hb)⟩, rfl, fun i x l e1 e2 => ?_⟩
  rcases i with _ | _ | _ | i
  ·
   simp [CT.kids] at e1 e2; subst e1 e2; exact hp
  ·
   simp [CT.kids] at e1 e2; subst e1 e2; exact hq
  ·
   simp [CT.kids] at e1 e2; subst e1 e2; exact hr
  ·
   simp at e1
end
theorem CT.kids_arT {W : World} {A : Nat → Prop} : ∀ {c : CT} {x : C8}, RC W A c x → (c.kids.length : Int) = max 0 (arT c.kd) ∧ arT c.kd ≤ c.len ∨ (c.kids.length = 0 ∧ (arT c.kd < 0 ∨ (c.len : Int) < arT c.kd))
 | .var n m, x, _ => .inl (by simp [CT.kids, CT.kd, CT.len, arT])
 | .sort n m, x, _ => .inl (by simp [CT.kids, CT.kd, CT.len, arT])
 | .cst _ n m, x, _ => .inl (by simp [CT.kids, CT.kd, CT.len, arT])
 | .odd k m, x, ⟨_, h, _⟩ => .inr ⟨rfl, h⟩
 | .two k p q m, x, ⟨_, h, _⟩ => .inl (by rcases h with rfl | rfl | rfl <;> simp [CT.kids, CT.kd, CT.len, arT] <;> omega)
 | .lt p q r m, x, _ => .inl (by simp [CT.kids, CT.kd, CT.len, arT]; omega)
theorem CT.kid_size : ∀ {c k : CT} {i : Nat}, c.kids[i]? = some k → k.size < c.size ∧ k.dep < c.dep
 | .two _ a b _, k, i, h => by
  rcases i with _ | _ | i
  ·
   simp [CT.kids] at h; subst h; simp only [CT.size, CT.dep]; omega
  ·
   simp [CT.kids] at h; subst h; simp only [CT.size, CT.dep]; omega
  ·
   simp [CT.kids] at h
 | .lt a b c _, k, i, h => by
  rcases i with _ | _ | _ | i
  ·
   simp [CT.kids] at h; subst h; simp only [CT.size, CT.dep]; omega
  ·
   simp [CT.kids] at h; subst h; simp only [CT.size, CT.dep]; omega
  ·
   simp [CT.kids] at h; subst h; simp only [CT.size, CT.dep]; omega
  ·
   simp [CT.kids] at h
 | .var .., k, i, h => by simp [CT.kids] at h
 | .sort .., k, i, h => by simp [CT.kids] at h
 | .cst .., k, i, h => by simp [CT.kids] at h
 | .odd .., k, i, h => by simp [CT.kids] at h
theorem CT.kids_le (c : CT) : c.kids.length ≤ 3 := by cases c <;> simp [CT.kids]
theorem CT.size_pos (c : CT) : 0 < c.size := by cases c <;> simp [CT.size]
theorem CT.dep_pos (c : CT) : 0 < c.dep := by cases c <;> simp [CT.dep]
end Go.Proofs.Ytmkjhdiepkpdoaa

namespace Go.Proofs.Ytmkjhdiepkpdoaa
open Go.RowKit Go.Shelf
set_option linter.unusedVariables false
set_option linter.unusedSimpArgs false
abbrev emptyB : ByteArray := ByteArray.mk #[]
theorem b70_ (w : World) : (Instr.build 69 [].toArray).run Try.prog w = .ok (.agg [Value.int .i64 0, Value.int .i64 0].toArray) w := run_build w 69 _ _ (by kernel_rfl)
theorem b27_03 (k p q : Int) (a : Option Addr) (m c : Nat) (w : World) : (Instr.build 27 [(0, Value.int .i64 k), (3, lv (p, q, .slice a m c))].toArray).run Try.prog w = .ok (tv ⟨k, 0, emptyB, (p, q, .slice a m c), nilS, nilS⟩) w := run_build w 27 _ _ (by kernel_rfl)
theorem oneII (z y : Int) : ∀ u ∈ [Value.int .i64 z, Value.int .i64 y], u.oneCell' = true := by simp [Value.oneCell']
end Go.Proofs.Ytmkjhdiepkpdoaa

namespace Go.Proofs.Ytmkjhdiepkpdoaa
set_option maxRecDepth 100000
set_option maxHeartbeats 1600000
open Go.RowKit Go.Shelf
set_option linter.unusedVariables false
set_option linter.unusedSimpArgs false
theorem arT_rng (k : Int) : -1 ≤ arT k ∧ arT k ≤ 3 := by
 unfold arT
 split
 ·
  omega
 ·
  split
  ·
   omega
  ·
   split <;> omega
/-- Is it the variable that is d? -/
def CT.isV : CT → Int → Bool
 | .var n _, d => decide (n = d)
 | _, _ => false
theorem arity109 (k : Int) (w0 : World) : Calls Try.prog 122 #[.int .i64 k] w0 fun e w' => e = .returned (.tuple #[.int .i64 (max 0 (arT k)), .bool (decide (0 ≤ arT k))]) ∧ w' = w0 := by
 refine calls_fs 15 [(0, .int .i64 k)] Try.func122 rfl rfl rfl rfl rfl fun a F => ?_
 rcases (show k = 1 ∨ k = 2 ∨ k = 7 ∨ k = 3 ∨ k = 4 ∨ k = 6 ∨ k = 5 ∨ (k ≠ 1 ∧ k ≠ 2 ∧ k ≠ 7 ∧ k ≠ 3 ∧ k ≠ 4 ∧ k ≠ 6 ∧ k ≠ 5) by omega) with hk | hk | hk | hk | hk | hk | hk | hk
 ·
  skip
  refine wp_rs fun _ K2 => F.sg rfl fun a F => F.sg rfl fun a F => ?_
  refine s_end (K2 _ _ ?_)
  refine wp_seq_k fun _ K3 => ?_
  refine wp_rs fun _ K4 => F.mv rfl fun a F => ?_
  refine s_end (K4 _ _ ?_)
  refine wp_block ?_
  refine wp_seq_k fun _ K5 => ?_
  refine wp_rs fun _ K6 => F.vl (eqlT (by omega) rfl rfl) fun a F => F.sg rfl fun a F => ?_
  refine s_end (K6 _ _ ?_)
  refine wp_if F rfl ?_
  refine wp_skip (K5 _ _ ?_)
  refine wp_if F rfl ?_
  refine wp_rs fun _ K7 => F.sg rfl fun a F => F.sg rfl fun a F => ?_
  refine s_end (K7 _ _ ?_)
  refine wp_ret (inb_ret (then_ret (res_two F rfl rfl rfl ⟨by first | (rw [show arT k = 0 by simp [arT, hk]]; rfl) | (rw [show arT k = 2 by simp [arT, hk]]; rfl) | (rw [show arT k = 3 by simp [arT, hk]]; rfl) | (rw [show arT k = -1 by simp [arT, hk]]; rfl), rfl⟩)))
 ·
  skip
  refine wp_rs fun _ K8 => F.sg rfl fun a F => F.sg rfl fun a F => ?_
  refine s_end (K8 _ _ ?_)
  refine wp_seq_k fun _ K9 => ?_
  refine wp_rs fun _ K10 => F.mv rfl fun a F => ?_
  refine s_end (K10 _ _ ?_)
  refine wp_block ?_
  refine wp_seq_k fun _ K11 => ?_
  refine wp_rs fun _ K12 => F.vl (eqlF (by omega) rfl rfl) fun a F => F.sg rfl fun a F => ?_
  refine s_end (K12 _ _ ?_)
  refine wp_if F rfl ?_
  refine wp_rs fun _ K13 => F.vl (eqlT (by omega) rfl rfl) fun a F => F.sg rfl fun a F => ?_
  refine s_end (K13 _ _ ?_)
  refine wp_if F rfl ?_
  refine wp_skip (K11 _ _ ?_)
  refine wp_if F rfl ?_
  refine wp_rs fun _ K14 => F.sg rfl fun a F => F.sg rfl fun a F => ?_
  refine s_end (K14 _ _ ?_)
  refine wp_ret (inb_ret (then_ret (res_two F rfl rfl rfl ⟨by first | (rw [show arT k = 0 by simp [arT, hk]]; rfl) | (rw [show arT k = 2 by simp [arT, hk]]; rfl) | (rw [show arT k = 3 by simp [arT, hk]]; rfl) | (rw [show arT k = -1 by simp [arT, hk]]; rfl), rfl⟩)))
 ·
  skip
  refine wp_rs fun _ K15 => F.sg rfl fun a F => F.sg rfl fun a F => ?_
  refine s_end (K15 _ _ ?_)
  refine wp_seq_k fun _ K16 => ?_
  refine wp_rs fun _ K17 => F.mv rfl fun a F => ?_
  refine s_end (K17 _ _ ?_)
  refine wp_block ?_
  refine wp_seq_k fun _ K18 => ?_
  refine wp_rs fun _ K19 => F.vl (eqlF (by omega) rfl rfl) fun a F => F.sg rfl fun a F => ?_
  refine s_end (K19 _ _ ?_)
  refine wp_if F rfl ?_
  refine wp_rs fun _ K20 => F.vl (eqlF (by omega) rfl rfl) fun a F => F.sg rfl fun a F => ?_
  refine s_end (K20 _ _ ?_)
  refine wp_if F rfl ?_
  refine wp_region_lit ?_
  refine F.vl (eqlT (by omega) rfl rfl) fun a F => F.sg rfl fun a F => ?_
  refine s_end (K18 _ _ ?_)
  refine wp_if F rfl ?_
  refine wp_rs fun _ K21 => F.sg rfl fun a F => F.sg rfl fun a F => ?_
  refine s_end (K21 _ _ ?_)
  refine wp_ret (inb_ret (then_ret (res_two F rfl rfl rfl ⟨by first | (rw [show arT k = 0 by simp [arT, hk]]; rfl) | (rw [show arT k = 2 by simp [arT, hk]]; rfl) | (rw [show arT k = 3 by simp [arT, hk]]; rfl) | (rw [show arT k = -1 by simp [arT, hk]]; rfl), rfl⟩)))
 ·
  skip
  refine wp_rs fun _ K22 => F.sg rfl fun a F => F.sg rfl fun a F => ?_
  refine s_end (K22 _ _ ?_)
  refine wp_seq_k fun _ K23 => ?_
  refine wp_rs fun _ K24 => F.mv rfl fun a F => ?_
  refine s_end (K24 _ _ ?_)
  refine wp_block ?_
  refine wp_seq_k fun _ K25 => ?_
  refine wp_rs fun _ K26 => F.vl (eqlF (by omega) rfl rfl) fun a F => F.sg rfl fun a F => ?_
  refine s_end (K26 _ _ ?_)
  refine wp_if F rfl ?_
  refine wp_rs fun _ K27 => F.vl (eqlF (by omega) rfl rfl) fun a F => F.sg rfl fun a F => ?_
  refine s_end (K27 _ _ ?_)
  refine wp_if F rfl ?_
  refine wp_region_lit ?_
  refine F.vl (eqlF (by omega) rfl rfl) fun a F => F.sg rfl fun a F => ?_
  refine s_end (K25 _ _ ?_)
  refine wp_if F rfl ?_
  refine wp_seq_k fun _ K28 => ?_
  refine wp_rs fun _ K29 => F.vl (eqlT (by omega) rfl rfl) fun a F => F.sg rfl fun a F => ?_
  refine s_end (K29 _ _ ?_)
  refine wp_if F rfl ?_
  refine wp_skip (K28 _ _ ?_)
  refine wp_if F rfl ?_
  refine wp_rs fun _ K30 => F.sg rfl fun a F => F.sg rfl fun a F => ?_
  refine s_end (K30 _ _ ?_)
  refine wp_ret (inb_ret (then_ret (res_two F rfl rfl rfl ⟨by first | (rw [show arT k = 0 by simp [arT, hk]]; rfl) | (rw [show arT k = 2 by simp [arT, hk]]; rfl) | (rw [show arT k = 3 by simp [arT, hk]]; rfl) | (rw [show arT k = -1 by simp [arT, hk]]; rfl), rfl⟩)))
 ·
  skip
  refine wp_rs fun _ K31 => F.sg rfl fun a F => F.sg rfl fun a F => ?_
  refine s_end (K31 _ _ ?_)
  refine wp_seq_k fun _ K32 => ?_
  refine wp_rs fun _ K33 => F.mv rfl fun a F => ?_
  refine s_end (K33 _ _ ?_)
  refine wp_block ?_
  refine wp_seq_k fun _ K34 => ?_
  refine wp_rs fun _ K35 => F.vl (eqlF (by omega) rfl rfl) fun a F => F.sg rfl fun a F => ?_
  refine s_end (K35 _ _ ?_)
  refine wp_if F rfl ?_
  refine wp_rs fun _ K36 => F.vl (eqlF (by omega) rfl rfl) fun a F => F.sg rfl fun a F => ?_
  refine s_end (K36 _ _ ?_)
  refine wp_if F rfl ?_
  refine wp_region_lit ?_
  refine F.vl (eqlF (by omega) rfl rfl) fun a F => F.sg rfl fun a F => ?_
  refine s_end (K34 _ _ ?_)
  refine wp_if F rfl ?_
  refine wp_seq_k fun _ K37 => ?_
  refine wp_rs fun _ K38 => F.vl (eqlF (by omega) rfl rfl) fun a F => F.sg rfl fun a F => ?_
  refine s_end (K38 _ _ ?_)
  refine wp_if F rfl ?_
  refine wp_rs fun _ K39 => F.vl (eqlT (by omega) rfl rfl) fun a F => F.sg rfl fun a F => ?_
  refine s_end (K39 _ _ ?_)
  refine wp_if F rfl ?_
  refine wp_skip (K37 _ _ ?_)
  refine wp_if F rfl ?_
  refine wp_rs fun _ K40 => F.sg rfl fun a F => F.sg rfl fun a F => ?_
  refine s_end (K40 _ _ ?_)
  refine wp_ret (inb_ret (then_ret (res_two F rfl rfl rfl ⟨by first | (rw [show arT k = 0 by simp [arT, hk]]; rfl) | (rw [show arT k = 2 by simp [arT, hk]]; rfl) | (rw [show arT k = 3 by simp [arT, hk]]; rfl) | (rw [show arT k = -1 by simp [arT, hk]]; rfl), rfl⟩)))
 ·
  skip
  refine wp_rs fun _ K41 => F.sg rfl fun a F => F.sg rfl fun a F => ?_
  refine s_end (K41 _ _ ?_)
  refine wp_seq_k fun _ K42 => ?_
  refine wp_rs fun _ K43 => F.mv rfl fun a F => ?_
  refine s_end (K43 _ _ ?_)
  refine wp_block ?_
  refine wp_seq_k fun _ K44 => ?_
  refine wp_rs fun _ K45 => F.vl (eqlF (by omega) rfl rfl) fun a F => F.sg rfl fun a F => ?_
  refine s_end (K45 _ _ ?_)
  refine wp_if F rfl ?_
  refine wp_rs fun _ K46 => F.vl (eqlF (by omega) rfl rfl) fun a F => F.sg rfl fun a F => ?_
  refine s_end (K46 _ _ ?_)
  refine wp_if F rfl ?_
  refine wp_region_lit ?_
  refine F.vl (eqlF (by omega) rfl rfl) fun a F => F.sg rfl fun a F => ?_
  refine s_end (K44 _ _ ?_)
  refine wp_if F rfl ?_
  refine wp_seq_k fun _ K47 => ?_
  refine wp_rs fun _ K48 => F.vl (eqlF (by omega) rfl rfl) fun a F => F.sg rfl fun a F => ?_
  refine s_end (K48 _ _ ?_)
  refine wp_if F rfl ?_
  refine wp_rs fun _ K49 => F.vl (eqlF (by omega) rfl rfl) fun a F => F.sg rfl fun a F => ?_
  refine s_end (K49 _ _ ?_)
  refine wp_if F rfl ?_
  refine wp_region_lit ?_
  refine F.vl (eqlT (by omega) rfl rfl) fun a F => F.sg rfl fun a F => ?_
  refine s_end (K47 _ _ ?_)
  refine wp_if F rfl ?_
  refine wp_rs fun _ K50 => F.sg rfl fun a F => F.sg rfl fun a F => ?_
  refine s_end (K50 _ _ ?_)
  refine wp_ret (inb_ret (then_ret (res_two F rfl rfl rfl ⟨by first | (rw [show arT k = 0 by simp [arT, hk]]; rfl) | (rw [show arT k = 2 by simp [arT, hk]]; rfl) | (rw [show arT k = 3 by simp [arT, hk]]; rfl) | (rw [show arT k = -1 by simp [arT, hk]]; rfl), rfl⟩)))
 ·
  skip
  refine wp_rs fun _ K51 => F.sg rfl fun a F => F.sg rfl fun a F => ?_
  refine s_end (K51 _ _ ?_)
  refine wp_seq_k fun _ K52 => ?_
  refine wp_rs fun _ K53 => F.mv rfl fun a F => ?_
  refine s_end (K53 _ _ ?_)
  refine wp_block ?_
  refine wp_seq_k fun _ K54 => ?_
  refine wp_rs fun _ K55 => F.vl (eqlF (by omega) rfl rfl) fun a F => F.sg rfl fun a F => ?_
  refine s_end (K55 _ _ ?_)
  refine wp_if F rfl ?_
  refine wp_rs fun _ K56 => F.vl (eqlF (by omega) rfl rfl) fun a F => F.sg rfl fun a F => ?_
  refine s_end (K56 _ _ ?_)
  refine wp_if F rfl ?_
  refine wp_region_lit ?_
  refine F.vl (eqlF (by omega) rfl rfl) fun a F => F.sg rfl fun a F => ?_
  refine s_end (K54 _ _ ?_)
  refine wp_if F rfl ?_
  refine wp_seq_k fun _ K57 => ?_
  refine wp_rs fun _ K58 => F.vl (eqlF (by omega) rfl rfl) fun a F => F.sg rfl fun a F => ?_
  refine s_end (K58 _ _ ?_)
  refine wp_if F rfl ?_
  refine wp_rs fun _ K59 => F.vl (eqlF (by omega) rfl rfl) fun a F => F.sg rfl fun a F => ?_
  refine s_end (K59 _ _ ?_)
  refine wp_if F rfl ?_
  refine wp_region_lit ?_
  refine F.vl (eqlF (by omega) rfl rfl) fun a F => F.sg rfl fun a F => ?_
  refine s_end (K57 _ _ ?_)
  refine wp_if F rfl ?_
  refine wp_rs fun _ K60 => F.vl (eqlT (by omega) rfl rfl) fun a F => F.sg rfl fun a F => ?_
  refine s_end (K60 _ _ ?_)
  refine wp_if F rfl ?_
  refine wp_rs fun _ K61 => F.sg rfl fun a F => F.sg rfl fun a F => ?_
  refine s_end (K61 _ _ ?_)
  refine wp_ret (inb_ret (then_ret (res_two F rfl rfl rfl ⟨by first | (rw [show arT k = 0 by simp [arT, hk]]; rfl) | (rw [show arT k = 2 by simp [arT, hk]]; rfl) | (rw [show arT k = 3 by simp [arT, hk]]; rfl) | (rw [show arT k = -1 by simp [arT, hk]]; rfl), rfl⟩)))
 ·
  skip
  refine wp_rs fun _ K62 => F.sg rfl fun a F => F.sg rfl fun a F => ?_
  refine s_end (K62 _ _ ?_)
  refine wp_seq_k fun _ K63 => ?_
  refine wp_rs fun _ K64 => F.mv rfl fun a F => ?_
  refine s_end (K64 _ _ ?_)
  refine wp_block ?_
  refine wp_seq_k fun _ K65 => ?_
  refine wp_rs fun _ K66 => F.vl (eqlF (by omega) rfl rfl) fun a F => F.sg rfl fun a F => ?_
  refine s_end (K66 _ _ ?_)
  refine wp_if F rfl ?_
  refine wp_rs fun _ K67 => F.vl (eqlF (by omega) rfl rfl) fun a F => F.sg rfl fun a F => ?_
  refine s_end (K67 _ _ ?_)
  refine wp_if F rfl ?_
  refine wp_region_lit ?_
  refine F.vl (eqlF (by omega) rfl rfl) fun a F => F.sg rfl fun a F => ?_
  refine s_end (K65 _ _ ?_)
  refine wp_if F rfl ?_
  refine wp_seq_k fun _ K68 => ?_
  refine wp_rs fun _ K69 => F.vl (eqlF (by omega) rfl rfl) fun a F => F.sg rfl fun a F => ?_
  refine s_end (K69 _ _ ?_)
  refine wp_if F rfl ?_
  refine wp_rs fun _ K70 => F.vl (eqlF (by omega) rfl rfl) fun a F => F.sg rfl fun a F => ?_
  refine s_end (K70 _ _ ?_)
  refine wp_if F rfl ?_
  refine wp_region_lit ?_
  refine F.vl (eqlF (by omega) rfl rfl) fun a F => F.sg rfl fun a F => ?_
  refine s_end (K68 _ _ ?_)
  refine wp_if F rfl ?_
  refine wp_rs fun _ K71 => F.vl (eqlF (by omega) rfl rfl) fun a F => F.sg rfl fun a F => ?_
  refine s_end (K71 _ _ ?_)
  refine wp_if F rfl ?_
  refine wp_skip (K63 _ _ ?_)
  refine wp_rs fun _ K72 => F.sg rfl fun a F => F.sg rfl fun a F => ?_
  refine s_end (K72 _ _ ?_)
  refine wp_ret (res_two F rfl rfl rfl ⟨by first | (rw [show arT k = 0 by simp [arT, hk]]; rfl) | (rw [show arT k = 2 by simp [arT, hk]]; rfl) | (rw [show arT k = 3 by simp [arT, hk]]; rfl) | (rw [show arT k = -1 by simp [arT, hk]]; rfl), rfl⟩)
theorem kids54 (k : Int) (w0 : World) : Calls Try.prog 82 #[.int .i64 k] w0 fun e w' => e = .returned (.int .i64 (arT k)) ∧ w' = w0 := by
 refine calls_fs 14 [(0, .int .i64 k)] Try.func82 rfl rfl rfl rfl rfl fun a F => ?_
 rcases (show k = 1 ∨ k = 2 ∨ k = 7 ∨ k = 3 ∨ k = 4 ∨ k = 6 ∨ k = 5 ∨ (k ≠ 1 ∧ k ≠ 2 ∧ k ≠ 7 ∧ k ≠ 3 ∧ k ≠ 4 ∧ k ≠ 6 ∧ k ≠ 5) by omega) with hk | hk | hk | hk | hk | hk | hk | hk
 ·
  skip
  refine wp_rs fun _ K2 => F.sg rfl fun a F => ?_
  refine s_end (K2 _ _ ?_)
  refine wp_seq_k fun _ K3 => ?_
  refine wp_rs fun _ K4 => F.mv rfl fun a F => ?_
  refine s_end (K4 _ _ ?_)
  refine wp_block ?_
  refine wp_seq_k fun _ K5 => ?_
  refine wp_rs fun _ K6 => F.vl (eqlT (by omega) rfl rfl) fun a F => F.sg rfl fun a F => ?_
  refine s_end (K6 _ _ ?_)
  refine wp_if F rfl ?_
  refine wp_skip (K5 _ _ ?_)
  refine wp_if F rfl ?_
  refine wp_rs fun _ K7 => F.sg rfl fun a F => ?_
  refine s_end (K7 _ _ ?_)
  refine wp_ret (inb_ret (then_ret (res_slot F rfl rfl ⟨by simp [arT, hk], rfl⟩)))
 ·
  skip
  refine wp_rs fun _ K8 => F.sg rfl fun a F => ?_
  refine s_end (K8 _ _ ?_)
  refine wp_seq_k fun _ K9 => ?_
  refine wp_rs fun _ K10 => F.mv rfl fun a F => ?_
  refine s_end (K10 _ _ ?_)
  refine wp_block ?_
  refine wp_seq_k fun _ K11 => ?_
  refine wp_rs fun _ K12 => F.vl (eqlF (by omega) rfl rfl) fun a F => F.sg rfl fun a F => ?_
  refine s_end (K12 _ _ ?_)
  refine wp_if F rfl ?_
  refine wp_rs fun _ K13 => F.vl (eqlT (by omega) rfl rfl) fun a F => F.sg rfl fun a F => ?_
  refine s_end (K13 _ _ ?_)
  refine wp_if F rfl ?_
  refine wp_skip (K11 _ _ ?_)
  refine wp_if F rfl ?_
  refine wp_rs fun _ K14 => F.sg rfl fun a F => ?_
  refine s_end (K14 _ _ ?_)
  refine wp_ret (inb_ret (then_ret (res_slot F rfl rfl ⟨by simp [arT, hk], rfl⟩)))
 ·
  skip
  refine wp_rs fun _ K15 => F.sg rfl fun a F => ?_
  refine s_end (K15 _ _ ?_)
  refine wp_seq_k fun _ K16 => ?_
  refine wp_rs fun _ K17 => F.mv rfl fun a F => ?_
  refine s_end (K17 _ _ ?_)
  refine wp_block ?_
  refine wp_seq_k fun _ K18 => ?_
  refine wp_rs fun _ K19 => F.vl (eqlF (by omega) rfl rfl) fun a F => F.sg rfl fun a F => ?_
  refine s_end (K19 _ _ ?_)
  refine wp_if F rfl ?_
  refine wp_rs fun _ K20 => F.vl (eqlF (by omega) rfl rfl) fun a F => F.sg rfl fun a F => ?_
  refine s_end (K20 _ _ ?_)
  refine wp_if F rfl ?_
  refine wp_region_lit ?_
  refine F.vl (eqlT (by omega) rfl rfl) fun a F => F.sg rfl fun a F => ?_
  refine s_end (K18 _ _ ?_)
  refine wp_if F rfl ?_
  refine wp_rs fun _ K21 => F.sg rfl fun a F => ?_
  refine s_end (K21 _ _ ?_)
  refine wp_ret (inb_ret (then_ret (res_slot F rfl rfl ⟨by simp [arT, hk], rfl⟩)))
 ·
  skip
  refine wp_rs fun _ K22 => F.sg rfl fun a F => ?_
  refine s_end (K22 _ _ ?_)
  refine wp_seq_k fun _ K23 => ?_
  refine wp_rs fun _ K24 => F.mv rfl fun a F => ?_
  refine s_end (K24 _ _ ?_)
  refine wp_block ?_
  refine wp_seq_k fun _ K25 => ?_
  refine wp_rs fun _ K26 => F.vl (eqlF (by omega) rfl rfl) fun a F => F.sg rfl fun a F => ?_
  refine s_end (K26 _ _ ?_)
  refine wp_if F rfl ?_
  refine wp_rs fun _ K27 => F.vl (eqlF (by omega) rfl rfl) fun a F => F.sg rfl fun a F => ?_
  refine s_end (K27 _ _ ?_)
  refine wp_if F rfl ?_
  refine wp_region_lit ?_
  refine F.vl (eqlF (by omega) rfl rfl) fun a F => F.sg rfl fun a F => ?_
  refine s_end (K25 _ _ ?_)
  refine wp_if F rfl ?_
  refine wp_seq_k fun _ K28 => ?_
  refine wp_rs fun _ K29 => F.vl (eqlT (by omega) rfl rfl) fun a F => F.sg rfl fun a F => ?_
  refine s_end (K29 _ _ ?_)
  refine wp_if F rfl ?_
  refine wp_skip (K28 _ _ ?_)
  refine wp_if F rfl ?_
  refine wp_rs fun _ K30 => F.sg rfl fun a F => ?_
  refine s_end (K30 _ _ ?_)
  refine wp_ret (inb_ret (then_ret (res_slot F rfl rfl ⟨by simp [arT, hk], rfl⟩)))
 ·
  skip
  refine wp_rs fun _ K31 => F.sg rfl fun a F => ?_
  refine s_end (K31 _ _ ?_)
  refine wp_seq_k fun _ K32 => ?_
  refine wp_rs fun _ K33 => F.mv rfl fun a F => ?_
  refine s_end (K33 _ _ ?_)
  refine wp_block ?_
  refine wp_seq_k fun _ K34 => ?_
  refine wp_rs fun _ K35 => F.vl (eqlF (by omega) rfl rfl) fun a F => F.sg rfl fun a F => ?_
  refine s_end (K35 _ _ ?_)
  refine wp_if F rfl ?_
  refine wp_rs fun _ K36 => F.vl (eqlF (by omega) rfl rfl) fun a F => F.sg rfl fun a F => ?_
  refine s_end (K36 _ _ ?_)
  refine wp_if F rfl ?_
  refine wp_region_lit ?_
  refine F.vl (eqlF (by omega) rfl rfl) fun a F => F.sg rfl fun a F => ?_
  refine s_end (K34 _ _ ?_)
  refine wp_if F rfl ?_
  refine wp_seq_k fun _ K37 => ?_
  refine wp_rs fun _ K38 => F.vl (eqlF (by omega) rfl rfl) fun a F => F.sg rfl fun a F => ?_
  refine s_end (K38 _ _ ?_)
  refine wp_if F rfl ?_
  refine wp_rs fun _ K39 => F.vl (eqlT (by omega) rfl rfl) fun a F => F.sg rfl fun a F => ?_
  refine s_end (K39 _ _ ?_)
  refine wp_if F rfl ?_
  refine wp_skip (K37 _ _ ?_)
  refine wp_if F rfl ?_
  refine wp_rs fun _ K40 => F.sg rfl fun a F => ?_
  refine s_end (K40 _ _ ?_)
  refine wp_ret (inb_ret (then_ret (res_slot F rfl rfl ⟨by simp [arT, hk], rfl⟩)))
 ·
  skip
  refine wp_rs fun _ K41 => F.sg rfl fun a F => ?_
  refine s_end (K41 _ _ ?_)
  refine wp_seq_k fun _ K42 => ?_
  refine wp_rs fun _ K43 => F.mv rfl fun a F => ?_
  refine s_end (K43 _ _ ?_)
  refine wp_block ?_
  refine wp_seq_k fun _ K44 => ?_
  refine wp_rs fun _ K45 => F.vl (eqlF (by omega) rfl rfl) fun a F => F.sg rfl fun a F => ?_
  refine s_end (K45 _ _ ?_)
  refine wp_if F rfl ?_
  refine wp_rs fun _ K46 => F.vl (eqlF (by omega) rfl rfl) fun a F => F.sg rfl fun a F => ?_
  refine s_end (K46 _ _ ?_)
  refine wp_if F rfl ?_
  refine wp_region_lit ?_
  refine F.vl (eqlF (by omega) rfl rfl) fun a F => F.sg rfl fun a F => ?_
  refine s_end (K44 _ _ ?_)
  refine wp_if F rfl ?_
  refine wp_seq_k fun _ K47 => ?_
  refine wp_rs fun _ K48 => F.vl (eqlF (by omega) rfl rfl) fun a F => F.sg rfl fun a F => ?_
  refine s_end (K48 _ _ ?_)
  refine wp_if F rfl ?_
  refine wp_rs fun _ K49 => F.vl (eqlF (by omega) rfl rfl) fun a F => F.sg rfl fun a F => ?_
  refine s_end (K49 _ _ ?_)
  refine wp_if F rfl ?_
  refine wp_region_lit ?_
  refine F.vl (eqlT (by omega) rfl rfl) fun a F => F.sg rfl fun a F => ?_
  refine s_end (K47 _ _ ?_)
  refine wp_if F rfl ?_
  refine wp_rs fun _ K50 => F.sg rfl fun a F => ?_
  refine s_end (K50 _ _ ?_)
  refine wp_ret (inb_ret (then_ret (res_slot F rfl rfl ⟨by simp [arT, hk], rfl⟩)))
 ·
  skip
  refine wp_rs fun _ K51 => F.sg rfl fun a F => ?_
  refine s_end (K51 _ _ ?_)
  refine wp_seq_k fun _ K52 => ?_
  refine wp_rs fun _ K53 => F.mv rfl fun a F => ?_
  refine s_end (K53 _ _ ?_)
  refine wp_block ?_
  refine wp_seq_k fun _ K54 => ?_
  refine wp_rs fun _ K55 => F.vl (eqlF (by omega) rfl rfl) fun a F => F.sg rfl fun a F => ?_
  refine s_end (K55 _ _ ?_)
  refine wp_if F rfl ?_
  refine wp_rs fun _ K56 => F.vl (eqlF (by omega) rfl rfl) fun a F => F.sg rfl fun a F => ?_
  refine s_end (K56 _ _ ?_)
  refine wp_if F rfl ?_
  refine wp_region_lit ?_
  refine F.vl (eqlF (by omega) rfl rfl) fun a F => F.sg rfl fun a F => ?_
  refine s_end (K54 _ _ ?_)
  refine wp_if F rfl ?_
  refine wp_seq_k fun _ K57 => ?_
  refine wp_rs fun _ K58 => F.vl (eqlF (by omega) rfl rfl) fun a F => F.sg rfl fun a F => ?_
  refine s_end (K58 _ _ ?_)
  refine wp_if F rfl ?_
  refine wp_rs fun _ K59 => F.vl (eqlF (by omega) rfl rfl) fun a F => F.sg rfl fun a F => ?_
  refine s_end (K59 _ _ ?_)
  refine wp_if F rfl ?_
  refine wp_region_lit ?_
  refine F.vl (eqlF (by omega) rfl rfl) fun a F => F.sg rfl fun a F => ?_
  refine s_end (K57 _ _ ?_)
  refine wp_if F rfl ?_
  refine wp_rs fun _ K60 => F.vl (eqlT (by omega) rfl rfl) fun a F => F.sg rfl fun a F => ?_
  refine s_end (K60 _ _ ?_)
  refine wp_if F rfl ?_
  refine wp_rs fun _ K61 => F.sg rfl fun a F => ?_
  refine s_end (K61 _ _ ?_)
  refine wp_ret (inb_ret (then_ret (res_slot F rfl rfl ⟨by simp [arT, hk], rfl⟩)))
 ·
  skip
  refine wp_rs fun _ K62 => F.sg rfl fun a F => ?_
  refine s_end (K62 _ _ ?_)
  refine wp_seq_k fun _ K63 => ?_
  refine wp_rs fun _ K64 => F.mv rfl fun a F => ?_
  refine s_end (K64 _ _ ?_)
  refine wp_block ?_
  refine wp_seq_k fun _ K65 => ?_
  refine wp_rs fun _ K66 => F.vl (eqlF (by omega) rfl rfl) fun a F => F.sg rfl fun a F => ?_
  refine s_end (K66 _ _ ?_)
  refine wp_if F rfl ?_
  refine wp_rs fun _ K67 => F.vl (eqlF (by omega) rfl rfl) fun a F => F.sg rfl fun a F => ?_
  refine s_end (K67 _ _ ?_)
  refine wp_if F rfl ?_
  refine wp_region_lit ?_
  refine F.vl (eqlF (by omega) rfl rfl) fun a F => F.sg rfl fun a F => ?_
  refine s_end (K65 _ _ ?_)
  refine wp_if F rfl ?_
  refine wp_seq_k fun _ K68 => ?_
  refine wp_rs fun _ K69 => F.vl (eqlF (by omega) rfl rfl) fun a F => F.sg rfl fun a F => ?_
  refine s_end (K69 _ _ ?_)
  refine wp_if F rfl ?_
  refine wp_rs fun _ K70 => F.vl (eqlF (by omega) rfl rfl) fun a F => F.sg rfl fun a F => ?_
  refine s_end (K70 _ _ ?_)
  refine wp_if F rfl ?_
  refine wp_region_lit ?_
  refine F.vl (eqlF (by omega) rfl rfl) fun a F => F.sg rfl fun a F => ?_
  refine s_end (K68 _ _ ?_)
  refine wp_if F rfl ?_
  refine wp_rs fun _ K71 => F.vl (eqlF (by omega) rfl rfl) fun a F => F.sg rfl fun a F => ?_
  refine s_end (K71 _ _ ?_)
  refine wp_if F rfl ?_
  refine wp_skip (K63 _ _ ?_)
  refine wp_rs fun _ K72 => F.sg rfl fun a F => ?_
  refine s_end (K72 _ _ ?_)
  refine wp_ret (res_slot F rfl rfl ⟨by simp [arT, hk], rfl⟩)
theorem kidsOf101 (c : CT) (x : C8) (A : Nat → Prop) (wa w0 : World) (hx : RC wa A c x) : Calls Try.prog 84 #[tv x] w0 fun e w' => ∃ v, e = .returned v ∧ RK wa A v c.kids ∧ Below w0.heap.size w0 w' := by
 obtain ⟨av, nv, cv, hts, hle, hlen, hcap, hkid⟩ := hx.kids
 obtain ⟨xk, xn, xs, xl, xls, xts⟩ := x
 simp only at hts
 subst hts
 have hkd : xk = c.kd := hx.kd
 have hone := hx.one
 have hB := Below.refl w0.heap.size w0
 have sB := hB.size
 refine calls_fs 20 [(0, tv ⟨xk, xn, xs, xl, xls, .slice av nv cv⟩)] Try.func84 rfl rfl rfl rfl rfl fun a F => ?_
 rcases (show (arT xk ≤ nv ∧ (c.kids.length : Int) = max 0 (arT xk)) ∨ ((nv : Int) < arT xk ∧ c.kids.length = 0) by rw [hkd, hlen]; rcases CT.kids_arT hx with h | h <;> omega) with hk | hk
 ·
  skip
  refine wp_rs fun _ K2 => ?_
  refine s_box ([.int .i64 xk, .int .i64 xn, .string xs, .int .i64 xl.1, .int .i64 xl.2.1, xl.2.2, xls, .slice av nv cv]) F (by decide) rfl rfl fun w2 b1 a eb1 m1 B3 zb1 F => ?_
  have sB3 := B3.size
  have hB := bt hB B3
  refine F.sg rfl fun a F => ?_
  refine s_end (K2 _ _ ?_)
  refine wp_rs fun _ K3 => F.vl (x_fa0 fa27_0 rfl) fun a F => F.ld m1 flat3 rfl rfl fun a F => ?_
  refine s_callS [_] F E122 rfl (by decide) (arity109 xk w2) fun a F => ?_
  refine F.mv rfl fun a F => F.vl (x_ext rfl rfl) fun a F => F.vl (x_ext rfl rfl) fun a F => F.sg rfl fun a F => F.sg rfl fun a F => ?_
  refine s_end (K3 _ _ ?_)
  refine wp_seq_k fun _ K4 => ?_
  refine wp_rs fun _ K5 => F.vl (x_fa0 fa27_5 rfl) fun a F => F.ld m1 flat25 rfl rfl fun a F => F.vl (x_len Try.underlying25 rfl) fun a F => F.mv rfl fun a F => F.vl (lssF (by omega) rfl rfl) fun a F => ?_
  refine s_end (K5 _ _ ?_)
  refine wp_if F rfl ?_
  refine wp_skip (K4 _ _ ?_)
  refine wp_rs fun _ K6 => F.vl (x_fa0 fa27_5 rfl) fun a F => F.ld m1 flat25 rfl rfl fun a F => F.mv rfl fun a F => F.vl (x_slice (vlo := none) (vhi := some _) (vmx := none) rfl rfl rfl rfl (m_sliceUK c.kids.length Try.underlying25 el25.size (by omega) (by omega))) fun a F => F.sg rfl fun a F => ?_
  refine s_end (K6 _ _ ?_)
  refine wp_ret (res_slot F rfl rfl ⟨_, rfl, hkid, hB⟩)
 ·
  skip
  refine wp_rs fun _ K7 => ?_
  refine s_box ([.int .i64 xk, .int .i64 xn, .string xs, .int .i64 xl.1, .int .i64 xl.2.1, xl.2.2, xls, .slice av nv cv]) F (by decide) rfl rfl fun w4 b1 a eb1 m1 B5 zb1 F => ?_
  have sB5 := B5.size
  have hB := bt hB B5
  refine F.sg rfl fun a F => ?_
  refine s_end (K7 _ _ ?_)
  refine wp_rs fun _ K8 => F.vl (x_fa0 fa27_0 rfl) fun a F => F.ld m1 flat3 rfl rfl fun a F => ?_
  refine s_callS [_] F E122 rfl (by decide) (arity109 xk w4) fun a F => ?_
  refine F.mv rfl fun a F => F.vl (x_ext rfl rfl) fun a F => F.vl (x_ext rfl rfl) fun a F => F.sg rfl fun a F => F.sg rfl fun a F => ?_
  refine s_end (K8 _ _ ?_)
  refine wp_seq_k fun _ K9 => ?_
  refine wp_rs fun _ K10 => F.vl (x_fa0 fa27_5 rfl) fun a F => F.ld m1 flat25 rfl rfl fun a F => F.vl (x_len Try.underlying25 rfl) fun a F => F.mv rfl fun a F => F.vl (lssT (by omega) rfl rfl) fun a F => ?_
  refine s_end (K10 _ _ ?_)
  refine wp_if F rfl ?_
  refine wp_rs fun _ K11 => F.sg rfl fun a F => ?_
  refine s_end (K11 _ _ ?_)
  refine wp_ret (then_ret (res_slot F rfl rfl ⟨_, rfl, (by rw [List.eq_nil_of_length_eq_zero hk.2]; exact RK.nil _ _), hB⟩))
theorem isIn105 (n d : Int) (w0 : World) : Calls Try.prog 89 #[.agg [.int .i64 n, .int .i64 d].toArray] w0 fun e w' => e = .returned (.bool (decide (n ≤ 20000 ∧ d ≤ 2000))) ∧ Below w0.heap.size w0 w' := by
 have hB := Below.refl w0.heap.size w0
 have sB := hB.size
 refine calls_fs 11 [(0, .agg [.int .i64 n, .int .i64 d].toArray)] Try.func89 rfl rfl rfl rfl rfl fun a F => ?_
 rcases (show (n ≤ 20000 ∧ d ≤ 2000) ∨ (n ≤ 20000 ∧ ¬ d ≤ 2000) ∨ ¬ n ≤ 20000 by omega) with hk | hk | hk
 ·
  skip
  refine wp_rs fun _ K2 => ?_
  refine s_box ([.int .i64 n, .int .i64 d]) F (by decide) rfl rfl fun w2 b1 a eb1 m1 B3 zb1 F => ?_
  have sB3 := B3.size
  have hB := bt hB B3
  refine F.sg rfl fun a F => ?_
  refine s_end (K2 _ _ ?_)
  refine wp_rs fun _ K3 => F.vl (x_fa0 fa70_0 rfl) fun a F => F.ld m1 flat3 rfl rfl fun a F => F.vl (leqT (by omega) rfl rfl) fun a F => F.mv rfl fun a F => s_grd 6 F rfl rfl rfl <| F.vl (x_fa0 fa70_1 rfl) fun a F => s_grd 6 F rfl rfl rfl <| F.ld m1 flat3 rfl rfl fun a F => s_grd 6 F rfl rfl rfl <| F.vl (leqT (by omega) rfl rfl) fun a F => F.vl (x_pick (b := true) rfl rfl) fun a F => F.sg rfl fun a F => ?_
  refine s_end (K3 _ _ ?_)
  refine wp_ret (res_slot F rfl rfl ⟨by rw [decide_eq_true (by omega)], hB⟩)
 ·
  skip
  refine wp_rs fun _ K4 => ?_
  refine s_box ([.int .i64 n, .int .i64 d]) F (by decide) rfl rfl fun w4 b1 a eb1 m1 B5 zb1 F => ?_
  have sB5 := B5.size
  have hB := bt hB B5
  refine F.sg rfl fun a F => ?_
  refine s_end (K4 _ _ ?_)
  refine wp_rs fun _ K5 => F.vl (x_fa0 fa70_0 rfl) fun a F => F.ld m1 flat3 rfl rfl fun a F => F.vl (leqT (by omega) rfl rfl) fun a F => F.mv rfl fun a F => s_grd 6 F rfl rfl rfl <| F.vl (x_fa0 fa70_1 rfl) fun a F => s_grd 6 F rfl rfl rfl <| F.ld m1 flat3 rfl rfl fun a F => s_grd 6 F rfl rfl rfl <| F.vl (leqF (by omega) rfl rfl) fun a F => F.vl (x_pick (b := true) rfl rfl) fun a F => F.sg rfl fun a F => ?_
  refine s_end (K5 _ _ ?_)
  refine wp_ret (res_slot F rfl rfl ⟨by rw [decide_eq_false (by omega)], hB⟩)
 ·
  skip
  refine wp_rs fun _ K6 => ?_
  refine s_box ([.int .i64 n, .int .i64 d]) F (by decide) rfl rfl fun w6 b1 a eb1 m1 B7 zb1 F => ?_
  have sB7 := B7.size
  have hB := bt hB B7
  refine F.sg rfl fun a F => ?_
  refine s_end (K6 _ _ ?_)
  refine wp_rs fun _ K7 => F.vl (x_fa0 fa70_0 rfl) fun a F => F.ld m1 flat3 rfl rfl fun a F => F.vl (leqF (by omega) rfl rfl) fun a F => F.mv rfl fun a F => s_grdn 6 F rfl rfl (by decide) fun a F => s_grdn 6 F rfl rfl (by decide) fun a F => s_grdn 6 F rfl rfl (by decide) fun a F => F.vl (x_pick (b := false) rfl rfl) fun a F => F.sg rfl fun a F => ?_
  refine s_end (K7 _ _ ?_)
  refine wp_ret (res_slot F rfl rfl ⟨by rw [decide_eq_false (by omega)], hB⟩)
theorem leaf70 (c : CT) (x : C8) (A : Nat → Prop) (wa w0 : World) (hx : RC wa A c x) : Calls Try.prog 54 #[tv x] w0 fun e w' => e = .returned (.bool (decide (arT c.kd < 0 ∨ (c.len : Int) < arT c.kd))) ∧ Below w0.heap.size w0 w' := by
 obtain ⟨av, nv, cv, hts, hle, hlen, hcap, hkid⟩ := hx.kids
 obtain ⟨xk, xn, xs, xl, xls, xts⟩ := x
 simp only at hts
 subst hts
 have hkd : xk = c.kd := hx.kd
 have hone := hx.one
 have hB := Below.refl w0.heap.size w0
 have sB := hB.size
 refine calls_fs 16 [(0, tv ⟨xk, xn, xs, xl, xls, .slice av nv cv⟩)] Try.func54 rfl rfl rfl rfl rfl fun a F => ?_
 rcases (show arT xk < 0 ∨ (0 ≤ arT xk ∧ (nv : Int) < arT xk) ∨ (0 ≤ arT xk ∧ ¬ (nv : Int) < arT xk) by omega) with hk | hk | hk
 ·
  skip
  refine wp_rs fun _ K2 => ?_
  refine s_box ([.int .i64 xk, .int .i64 xn, .string xs, .int .i64 xl.1, .int .i64 xl.2.1, xl.2.2, xls, .slice av nv cv]) F (by decide) rfl rfl fun w2 b1 a eb1 m1 B3 zb1 F => ?_
  have sB3 := B3.size
  have hB := bt hB B3
  refine F.sg rfl fun a F => ?_
  refine s_end (K2 _ _ ?_)
  refine dk2_seq (w2.heap.size) (w2.heap.size) (ops := regOps Try.f54 1) (N := 14) (by kernel_rfl) wide_orders (by kernel_rfl) fun w4 hw4 B5 hS K3 K3 => ?_
  have zw4 : w4.heap.size = w2.heap.size := by rw [hw4]
  have sB5 := B5.size
  have hB := bt hB B5
  have m1 := m1.old B5
  have m1_d := m1
  have hB_d := hB
  refine F.dv 0 3 (.fieldAddr 27 (.tmp 1) 0) hS (fun W hW => x_fa0 fa27_0 rfl) fun a F => F.dv 1 4 (.load 3 (.tmp 3)) hS (fun W hW => x_load rfl (m_load flat3 ((m1_d.k2 hW (by omega)).cell (j := 0) rfl))) fun a F => ?_
  refine d1 2 (some 5) (.call (.mk (.value (.func 82)) #[(.tmp 4)] #[3])) fun ty pos af => ?_
  refine s_callS [_] F E82 rfl (by decide) (kids54 xk w4) fun a F => ?_
  refine s_end ⟨hS, ?_⟩
  refine F.dv 3 6 (.binOp .lss 3 (.tmp 5) (.const (.int .i64 0)) 3) hS (fun W hW => lssT (by omega) rfl rfl) fun a F => F.dv 4 7 (.move (.tmp 6)) hS (fun W hW => x_move rfl) fun a F => d_skip 5 8 7 (j := 4) (want := false) (op := (.fieldAddr 27 (.tmp 1) 5)) F hS (by kernel_rfl) (by kernel_rfl) rfl (by kernel_rfl) (by decide) fun a F => d_skip 6 9 7 (j := 4) (want := false) (op := (.load 25 (.tmp 8))) F hS (by kernel_rfl) (by kernel_rfl) rfl (by kernel_rfl) (by decide) fun a F => d_skip 7 10 7 (j := 4) (want := false) (op := (.call (.mk (.builtin .len) #[(.tmp 9)] #[25]))) F hS (by kernel_rfl) (by kernel_rfl) rfl (by kernel_rfl) (by decide) fun a F => d_skip 8 11 7 (j := 4) (want := false) (op := (.fieldAddr 27 (.tmp 1) 0)) F hS (by kernel_rfl) (by kernel_rfl) rfl (by kernel_rfl) (by decide) fun a F => d_skip 9 12 7 (j := 4) (want := false) (op := (.load 3 (.tmp 11))) F hS (by kernel_rfl) (by kernel_rfl) rfl (by kernel_rfl) (by decide) fun a F => d_skip 10 13 7 (j := 4) (want := false) (op := (.call (.mk (.value (.func 82)) #[(.tmp 12)] #[3]))) F hS (by kernel_rfl) (by kernel_rfl) rfl (by kernel_rfl) (by decide) fun a F => d_skip 11 14 7 (j := 4) (want := false) (op := (.binOp .lss 3 (.tmp 10) (.tmp 13) 3)) F hS (by kernel_rfl) (by kernel_rfl) rfl (by kernel_rfl) (by decide) fun a F => F.dv 12 15 (.pick (.tmp 7) (.const (.bool true)) (.tmp 14)) hS (fun W hW => x_pick (b := true) rfl rfl) fun a F => F.dv 13 2 (.assign (.tmp 15)) hS (fun W hW => x_assign rfl) fun a F => ?_
  refine d_end (by kernel_rfl) (K3 _ _ ?_)
  refine wp_ret (res_slot F rfl rfl ⟨by rw [← hkd, ← hlen, decide_eq_true (by omega)], hB⟩)
 ·
  skip
  refine wp_rs fun _ K4 => ?_
  refine s_box ([.int .i64 xk, .int .i64 xn, .string xs, .int .i64 xl.1, .int .i64 xl.2.1, xl.2.2, xls, .slice av nv cv]) F (by decide) rfl rfl fun w6 b1 a eb1 m1 B7 zb1 F => ?_
  have sB7 := B7.size
  have hB := bt hB B7
  refine F.sg rfl fun a F => ?_
  refine s_end (K4 _ _ ?_)
  refine dk2_seq (w6.heap.size) (w6.heap.size) (ops := regOps Try.f54 1) (N := 14) (by kernel_rfl) wide_orders (by kernel_rfl) fun w8 hw8 B9 hS K5 K5 => ?_
  have zw8 : w8.heap.size = w6.heap.size := by rw [hw8]
  have sB9 := B9.size
  have hB := bt hB B9
  have m1 := m1.old B9
  have m1_d := m1
  have hB_d := hB
  refine F.dv 0 3 (.fieldAddr 27 (.tmp 1) 0) hS (fun W hW => x_fa0 fa27_0 rfl) fun a F => F.dv 1 4 (.load 3 (.tmp 3)) hS (fun W hW => x_load rfl (m_load flat3 ((m1_d.k2 hW (by omega)).cell (j := 0) rfl))) fun a F => ?_
  refine d1 2 (some 5) (.call (.mk (.value (.func 82)) #[(.tmp 4)] #[3])) fun ty pos af => ?_
  refine s_callS [_] F E82 rfl (by decide) (kids54 xk w8) fun a F => ?_
  refine s_end ⟨hS, ?_⟩
  refine F.dv 3 6 (.binOp .lss 3 (.tmp 5) (.const (.int .i64 0)) 3) hS (fun W hW => lssF (by omega) rfl rfl) fun a F => F.dv 4 7 (.move (.tmp 6)) hS (fun W hW => x_move rfl) fun a F => F.dg 5 8 7 4 false (.fieldAddr 27 (.tmp 1) 5) hS rfl (fun W hW => x_fa0 fa27_5 rfl) fun a F => F.dg 6 9 7 4 false (.load 25 (.tmp 8)) hS rfl (fun W hW => x_load rfl (m_load flat25 ((m1_d.k2 hW (by omega)).cell (j := 7) rfl))) fun a F => F.dg 7 10 7 4 false (.call (.mk (.builtin .len) #[(.tmp 9)] #[25])) hS rfl (fun W hW => x_len Try.underlying25 rfl) fun a F => F.dg 8 11 7 4 false (.fieldAddr 27 (.tmp 1) 0) hS rfl (fun W hW => x_fa0 fa27_0 rfl) fun a F => F.dg 9 12 7 4 false (.load 3 (.tmp 11)) hS rfl (fun W hW => x_load rfl (m_load flat3 ((m1_d.k2 hW (by omega)).cell (j := 0) rfl))) fun a F => ?_
  refine d_oneg 10 7 (some 13) (.call (.mk (.value (.func 82)) #[(.tmp 12)] #[3])) (j := 4) (want := false) F (by kernel_rfl) (by kernel_rfl) (by kernel_rfl) rfl fun ty pos af => ?_
  refine s_callS [_] F E82 rfl (by decide) (kids54 xk w8) fun a F => ?_
  refine s_end ⟨hS, ?_⟩
  refine F.dg 11 14 7 4 false (.binOp .lss 3 (.tmp 10) (.tmp 13) 3) hS rfl (fun W hW => lssT (by omega) rfl rfl) fun a F => F.dv 12 15 (.pick (.tmp 7) (.const (.bool true)) (.tmp 14)) hS (fun W hW => x_pick (b := false) rfl rfl) fun a F => F.dv 13 2 (.assign (.tmp 15)) hS (fun W hW => x_assign rfl) fun a F => ?_
  refine d_end (by kernel_rfl) (K5 _ _ ?_)
  refine wp_ret (res_slot F rfl rfl ⟨by rw [← hkd, ← hlen, decide_eq_true (by omega)], hB⟩)
 ·
  skip
  refine wp_rs fun _ K6 => ?_
  refine s_box ([.int .i64 xk, .int .i64 xn, .string xs, .int .i64 xl.1, .int .i64 xl.2.1, xl.2.2, xls, .slice av nv cv]) F (by decide) rfl rfl fun w10 b1 a eb1 m1 B11 zb1 F => ?_
  have sB11 := B11.size
  have hB := bt hB B11
  refine F.sg rfl fun a F => ?_
  refine s_end (K6 _ _ ?_)
  refine dk2_seq (w10.heap.size) (w10.heap.size) (ops := regOps Try.f54 1) (N := 14) (by kernel_rfl) wide_orders (by kernel_rfl) fun w12 hw12 B13 hS K7 K7 => ?_
  have zw12 : w12.heap.size = w10.heap.size := by rw [hw12]
  have sB13 := B13.size
  have hB := bt hB B13
  have m1 := m1.old B13
  have m1_d := m1
  have hB_d := hB
  refine F.dv 0 3 (.fieldAddr 27 (.tmp 1) 0) hS (fun W hW => x_fa0 fa27_0 rfl) fun a F => F.dv 1 4 (.load 3 (.tmp 3)) hS (fun W hW => x_load rfl (m_load flat3 ((m1_d.k2 hW (by omega)).cell (j := 0) rfl))) fun a F => ?_
  refine d1 2 (some 5) (.call (.mk (.value (.func 82)) #[(.tmp 4)] #[3])) fun ty pos af => ?_
  refine s_callS [_] F E82 rfl (by decide) (kids54 xk w12) fun a F => ?_
  refine s_end ⟨hS, ?_⟩
  refine F.dv 3 6 (.binOp .lss 3 (.tmp 5) (.const (.int .i64 0)) 3) hS (fun W hW => lssF (by omega) rfl rfl) fun a F => F.dv 4 7 (.move (.tmp 6)) hS (fun W hW => x_move rfl) fun a F => F.dg 5 8 7 4 false (.fieldAddr 27 (.tmp 1) 5) hS rfl (fun W hW => x_fa0 fa27_5 rfl) fun a F => F.dg 6 9 7 4 false (.load 25 (.tmp 8)) hS rfl (fun W hW => x_load rfl (m_load flat25 ((m1_d.k2 hW (by omega)).cell (j := 7) rfl))) fun a F => F.dg 7 10 7 4 false (.call (.mk (.builtin .len) #[(.tmp 9)] #[25])) hS rfl (fun W hW => x_len Try.underlying25 rfl) fun a F => F.dg 8 11 7 4 false (.fieldAddr 27 (.tmp 1) 0) hS rfl (fun W hW => x_fa0 fa27_0 rfl) fun a F => F.dg 9 12 7 4 false (.load 3 (.tmp 11)) hS rfl (fun W hW => x_load rfl (m_load flat3 ((m1_d.k2 hW (by omega)).cell (j := 0) rfl))) fun a F => ?_
  refine d_oneg 10 7 (some 13) (.call (.mk (.value (.func 82)) #[(.tmp 12)] #[3])) (j := 4) (want := false) F (by kernel_rfl) (by kernel_rfl) (by kernel_rfl) rfl fun ty pos af => ?_
  refine s_callS [_] F E82 rfl (by decide) (kids54 xk w12) fun a F => ?_
  refine s_end ⟨hS, ?_⟩
  refine F.dg 11 14 7 4 false (.binOp .lss 3 (.tmp 10) (.tmp 13) 3) hS rfl (fun W hW => lssF (by omega) rfl rfl) fun a F => F.dv 12 15 (.pick (.tmp 7) (.const (.bool true)) (.tmp 14)) hS (fun W hW => x_pick (b := false) rfl rfl) fun a F => F.dv 13 2 (.assign (.tmp 15)) hS (fun W hW => x_assign rfl) fun a F => ?_
  refine d_end (by kernel_rfl) (K7 _ _ ?_)
  refine wp_ret (res_slot F rfl rfl ⟨by rw [← hkd, ← hlen, decide_eq_false (by omega)], hB⟩)
end Go.Proofs.Ytmkjhdiepkpdoaa

namespace Go.Proofs.Ytmkjhdiepkpdoaa
set_option maxRecDepth 100000
set_option maxHeartbeats 1600000
open Go.RowKit Go.Shelf
set_option linter.unusedVariables false
set_option linter.unusedSimpArgs false
/-- A term's nodes, with their depths. -/
def CT.nodes : CT → Int → List (Int × CT)
 | .two k a b m, d => (d, .two k a b m) :: (a.nodes (d + 1) ++ b.nodes (d + 1))
 | .lt a b c m, d => (d, .lt a b c m) :: (a.nodes (d + 1) ++ (b.nodes (d + 1) ++ c.nodes (d + 1)))
 | c, d => [(d, c)]
theorem CT.nodes_eq (c : CT) (d : Int) : c.nodes d = (d, c) :: c.kids.flatMap (·.nodes (d + 1)) := by
 cases c <;> simp [CT.nodes, CT.kids]
theorem take_at {α β : Type} {l : List α} {i : Nat} {x : α} (h : l[i]? = some x) (f : α → List β) : (l.take (i + 1)).flatMap f = (l.take i).flatMap f ++ f x := by
 rw [List.take_add_one, h, List.flatMap_append]; simp
theorem split_at {α : Type} {l : List α} {i : Nat} {x : α} (h : l[i]? = some x) : l = l.take i ++ x :: l.drop (i + 1) := by
 have hi : i < l.length := (List.getElem?_eq_some_iff.1 h).1
 have : l[i] = x := (List.getElem?_eq_some_iff.1 h).2
 rw [← this, List.getElem_cons_drop, List.take_append_drop]
theorem CT.nodes_split {c k : CT} {i : Nat} (d : Int) (h : c.kids[i]? = some k) : c.nodes d = ((d, c) :: (c.kids.take i).flatMap (·.nodes (d + 1))) ++ (k.nodes (d + 1) ++ (c.kids.drop (i + 1)).flatMap (·.nodes (d + 1))) := by
 rw [c.nodes_eq d]
 conv => lhs; rw [split_at h]
 simp
/-- What is handed on of a node. -/
def encN (w0 : World) (e : Int × CT) (vs : List Value) : Prop := ∃ y, vs = [.int .i64 e.1, tv y] ∧ RC w0 (fun k => k < w0.heap.size) e.2 y
theorem walk108 (w0 : World) : ∀ (N : Nat) (c : CT) (x : C8) (d : Int), c.size < N → RC w0 (fun k => k < w0.heap.size) c x → 0 ≤ d → d ≤ 4611686018427387905 →
    ∀ (hi L : Nat) (J Jx : List (Int × CT) → World → Prop), w0.heap.size ≤ hi → (∀ p W W', J p W → Below hi W W' → J p W') → (∀ p W W', Jx p W → Below hi W W' → Jx p W') → (∀ p e W, J (p ++ [e]) W → e.1 ≤ 4611686018427387904) →
    (∀ p e rest W vs, c.nodes d = p ++ e :: rest → encN w0 e vs → J p W → hi ≤ W.heap.size → Below w0.heap.size w0 W → YieldAt Fence.wide 0 Try.prog L vs.toArray W fun en W' => Mid w0.heap.size hi W W' ∧ ((en = .returned (.bool true) ∧ J (p ++ [e]) W') ∨ (en = .returned (.bool false) ∧ Jx (p ++ [e]) W'))) →
    ∀ W, J [] W → hi ≤ W.heap.size → Below w0.heap.size w0 W → Calls Try.prog 125 #[tv x, .int .i64 d, .func (.yield L) #[] #[]] W fun en W' => ∃ b, en = .returned (.bool b) ∧ Mid w0.heap.size hi W W' ∧ ((b = true ∧ J (c.nodes d) W') ∨ (b = false ∧ ∃ p, p <+: c.nodes d ∧ Jx p W')) := by
  intro N
  induction N with
  | zero => intro c x d h; omega
  | succ N ih =>
  intro c x d hN hx hd0 hd1 hi L J Jx hlo hJs hJxs hJb hY W hJ hWs hB
  obtain ⟨xk, xn, xs, xl, xls, xts⟩ := x
  have h3 := c.kids_le
  have hM := Mid.refl w0.heap.size hi W
  have sB := hB.size
  refine calls_fs 28 [(0, tv ⟨xk, xn, xs, xl, xls, xts⟩), (1, .int .i64 d), (2, .func (.yield L) #[] #[])] Try.func125 rfl rfl rfl rfl rfl fun a F => ?_
  refine wp_rs fun _ K1 => ?_
  refine s_box ([.int .i64 xk, .int .i64 xn, .string xs, .int .i64 xl.1, .int .i64 xl.2.1, xl.2.2, xls, xts]) F (by decide) rfl rfl fun w2 b3 a eb3 m3 B3 zb3 F => ?_
  have sB3 := B3.size
  have hB := bt hB B3
  have hM := hM.old B3
  have hJ := hJs _ _ _ hJ (B3.mono (by omega))
  refine F.sg rfl fun a F => ?_
  refine s_end (K1 _ _ ?_)
  refine wp_seq_k fun _ K2 => ?_
  refine wp_rsI fun _ K3 => ?_
  refine i_val F (x_move rfl) rfl (by decide) fun a F => ?_
  refine i_val F (x_move rfl) rfl (by decide) fun a F => ?_
  refine i_val F (x_ldW wide27 m3 rfl rfl) rfl (by decide) fun a F => ?_
  refine i_yield (R := fun v W' => ∃ b, v = .bool b ∧ Mid w0.heap.size hi w2 W' ∧ ((b = true ∧ J [(d, c)] W') ∨ (b = false ∧ Jx [(d, c)] W'))) F [_, _] rfl rfl (by decide) ?_ ?_
  · refine YieldAt.mono (hY [] (d, c) _ w2 _ (by rw [c.nodes_eq]; rfl) ⟨⟨xk, xn, xs, xl, xls, xts⟩, rfl, hx⟩ hJ (by omega) hB) ?_
    rintro en W' ⟨h1, ⟨rfl, h2⟩ | ⟨rfl, h2⟩⟩
    · exact ⟨_, rfl, true, rfl, h1, .inl ⟨rfl, h2⟩⟩
    · exact ⟨_, rfl, false, rfl, h1, .inr ⟨rfl, h2⟩⟩
  rintro _ w4 a ⟨b12, rfl, hm12, h12⟩ F
  have shm12 := hm12.size
  have hB := hB.trans (hm12.below (by omega))
  have hM := hM.trans hm12
  have m3 := m3.mid hm12 (.inr (by omega))
  refine i_val F (x_not rfl) rfl (by decide) fun a F => ?_
  refine i_end (K3 _ _ ?_)
  refine wp_ifb F rfl (fun hc13 => ?_) (fun hc13 => ?_)
  · obtain ⟨rfl, h12x⟩ : b12 = false ∧ Jx [(d, c)] _ := by rcases h12 with ⟨rfl, _⟩ | h; (· cases hc13); exact h
    refine wp_rs fun _ K4 => F.sg rfl fun a F => ?_
    refine s_end (K4 _ _ ?_)
    refine wp_ret (then_ret (res_slot F rfl rfl ⟨false, rfl, hM, .inr ⟨rfl, [(d, c)], by rw [c.nodes_eq]; exact ⟨_, rfl⟩, h12x⟩⟩))
  · obtain ⟨rfl, hJ⟩ : b12 = true ∧ J [(d, c)] _ := by rcases h12 with h | ⟨rfl, _⟩; (· exact h); cases hc13
    have hdd := hJb [] (d, c) _ hJ
    simp only at hdd
    refine wp_skip (K2 _ _ ?_)
    refine wp_seq_k fun _ K5 => ?_
    refine wp_rs fun _ K6 => F.vl (x_ldW wide27 m3 rfl rfl) fun a F => ?_
    refine s_callR (R := fun v w' => RK w0 (fun k => k < w0.heap.size) v c.kids) [_] F E84 rfl (by decide) (kidsOf101 c ⟨xk, xn, xs, xl, xls, xts⟩ _ w0 w4 hx) ?_
    rintro v15 w5 a hv15 B6 F
    have sB6 := B6.size
    have hB := bt hB B6
    have hM := hM.old B6
    have hJ := hJs _ _ _ hJ (B6.mono (by omega))
    obtain ⟨a15, c15, hve, _⟩ := hv15.form
    subst hve
    refine F.vl (x_len Try.underlying25 rfl) fun a F => F.mv rfl fun a F => ?_
    refine s_end (K6 _ _ ?_)
    refine wp_block ?_
    refine wp_up c.kids.length (fun i a w => J ((d, c) :: (c.kids.take i).flatMap (·.nodes (d + 1))) w ∧ Mid w0.heap.size hi W w ∧ Below w0.heap.size w0 w ∧ Fs 28 a [(17, .int .i64 (i : Int)), (16, .int .i64 (c.kids.length : Int)), (15, .slice a15 c.kids.length c15), (1, .int .i64 d), (2, .func (.yield L) #[] #[])]) ⟨by simpa using hJ, hM, hB, F.sub _ rfl⟩ ?_
    repeat clear F
    clear hJ hM hB
    rintro i a w hi2 ⟨hJ, hM, hB, F⟩ K' hK'
    have sB := hB.size
    have sM := hM.size
    refine wp_rs fun _ K7 => F.vl (x_lss (b := decide (i < c.kids.length)) (decide_eq_decide.2 (by omega)) rfl rfl) fun a F => ?_
    refine s_end (K7 _ _ ?_)
    refine wp_seq_k fun _ K8 => ?_
    refine wp_iff F rfl (fun hc18 => ?_) (fun hc18 => ?_)
    · obtain ⟨b9, off9, c9, y, kd, hve, hyk, hry, hAb, hbl, hrow⟩ := hv15.row (i := i) (by omega)
      cases hve
      have hks := CT.kid_size hyk
      refine wp_skip (K8 _ _ ?_)
      refine wp_seq_k fun _ K9 => ?_
      refine wp_block ?_
      refine wp_rs fun _ K10 => F.vl (x_ixa rfl rfl (m_ixsK i Try.underlying25 el25.size rfl (by omega))) fun a F => F.vl (x_ldA wide27 (hrow _ (hB.block _ hbl)) rfl rfl) fun a F => ?_
      refine s_alloc F (by decide) zero27 fun w7 b8 a eb8 m8 B8 zb8 F => ?_
      have sB8 := B8.size
      have hB := bt hB B8
      have hM := hM.old B8
      have hJ := hJs _ _ _ hJ (B8.mono (by omega))
      refine s_putW F rfl rfl (size_wide wide27) m8 rfl hry.one fun w11 m8 o12 => ?_
      have so12 := o12.size
      have hB := hB.trans (o12.below (by omega))
      have hM := hM.only o12 (by omega)
      have hJ := hJs _ _ _ hJ (o12.below (by omega))
      refine s_end (K10 _ _ ?_)
      refine wp_rs fun _ K11 => F.vl (x_ldW wide27 m8 rfl rfl) fun a F => F.mv rfl fun a F => F.vl (x_add (by omega) (by omega) rfl rfl) fun a F => F.mv rfl fun a F => ?_
      refine s_call (R := fun v W' => ∃ b, v = .bool b ∧ Mid w0.heap.size hi w11 W' ∧ ((b = true ∧ J ((d, c) :: (c.kids.take (i + 1)).flatMap (·.nodes (d + 1))) W') ∨ (b = false ∧ ∃ p, p <+: c.nodes d ∧ Jx p W'))) F [_, _, _] E125 rfl (by decide) ?_ ?_
      · refine Calls.mono (ih kd y (d + 1) (by omega) hry (by omega) (by omega) hi L (fun p W => J (((d, c) :: (c.kids.take i).flatMap (·.nodes (d + 1))) ++ p) W) (fun p W => Jx (((d, c) :: (c.kids.take i).flatMap (·.nodes (d + 1))) ++ p) W) hlo (fun p => hJs _) (fun p => hJxs _) (fun p e W h => hJb _ e W (by rw [List.append_assoc]; exact h)) ?_ w11 (by rw [List.append_nil]; exact hJ) (by omega) hB) ?_
        · intro p e rest W vs he hv hj h1 h2
          have := hY (((d, c) :: (c.kids.take i).flatMap (·.nodes (d + 1))) ++ p) e (rest ++ (c.kids.drop (i + 1)).flatMap (·.nodes (d + 1))) W vs (by rw [CT.nodes_split d hyk, he]; simp) hv hj h1 h2
          rw [List.append_assoc] at this
          exact this
        · rintro en W' ⟨b, rfl, h1, ⟨rfl, h2⟩ | ⟨rfl, p, h2, h4⟩⟩
          · exact ⟨_, rfl, true, rfl, h1, .inl ⟨rfl, by rw [take_at hyk]; exact h2⟩⟩
          · exact ⟨_, rfl, false, rfl, h1, .inr ⟨rfl, _, by rw [CT.nodes_split d hyk]; exact List.prefix_append_right_inj _ |>.2 (h2.trans (List.prefix_append _ _)), h4⟩⟩
      rintro _ w13 a ⟨b25, rfl, hm25, h25⟩ F
      have shm25 := hm25.size
      have hB := hB.trans (hm25.below (by omega))
      have hM := hM.trans hm25
      refine F.vl (x_not rfl) fun a F => ?_
      refine s_end (K11 _ _ ?_)
      refine wp_ifb F rfl (fun hc26 => ?_) (fun hc26 => ?_)
      · obtain ⟨rfl, p25, hp25, h25x⟩ : b25 = false ∧ ∃ p, p <+: c.nodes d ∧ Jx p _ := by rcases h25 with ⟨rfl, _⟩ | h; (· cases hc26); exact h
        refine wp_rs fun _ K12 => F.sg rfl fun a F => ?_
        refine s_end (K12 _ _ ?_)
        refine wp_ret (inb_ret (then_ret (then_ret (inb_ret (then_ret (res_slot F rfl rfl ⟨false, rfl, hM, .inr ⟨rfl, p25, hp25, h25x⟩⟩))))))
      · obtain ⟨rfl, hJ⟩ : b25 = true ∧ J ((d, c) :: (c.kids.take (i + 1)).flatMap (·.nodes (d + 1))) _ := by rcases h25 with h | ⟨rfl, _⟩; (· exact h); cases hc26
        refine wp_skip (K9 _ _ ?_)
        refine wp_region_lit ?_
        refine F.vl (x_add (by omega) (by omega) rfl rfl) fun a F => F.mv rfl fun a F => ?_
        refine s_end (hK' _ _ (by omega) ⟨hJ, hM, hB, F.sub _ rfl⟩)
    · obtain rfl : i = c.kids.length := by omega
      rw [List.take_length] at hJ
      refine wp_exit (K5 _ _ ?_)
      refine wp_rs fun _ K13 => F.sg rfl fun a F => ?_
      refine s_end (K13 _ _ ?_)
      refine wp_ret (res_slot F rfl rfl ⟨true, rfl, hM, .inl ⟨rfl, by rw [c.nodes_eq]; exact hJ⟩⟩)
theorem nodes107 (w0 : World) (c : CT) (x : C8) (b1 hi : Nat) (hx : RC w0 (fun k => k < w0.heap.size) c x) (h1 : w0.heap.size ≤ b1) (h2 : b1 < hi) (w1 : World) (m1 : Blk w1 b1 27 (tc x)) (h3 : w0.heap.size ≤ hi) (J Jx : List (Int × CT) → World → Prop) (L : Nat)
    (hJs : ∀ p W W', J p W → Below hi W W' → J p W') (hJxs : ∀ p W W', Jx p W → Below hi W W' → Jx p W') (hJb : ∀ p e W, J (p ++ [e]) W → e.1 ≤ 4611686018427387904)
    (hY : ∀ p e rest W vs, c.nodes 1 = p ++ e :: rest → encN w0 e vs → J p W → hi ≤ W.heap.size → Below w0.heap.size w0 W → YieldAt Fence.wide 0 Try.prog L vs.toArray W fun en W' => Mid w0.heap.size hi W W' ∧ ((en = .returned (.bool true) ∧ J (p ++ [e]) W') ∨ (en = .returned (.bool false) ∧ Jx (p ++ [e]) W')))
    (W : World) (hJ : J [] W) (hWs : hi ≤ W.heap.size) (hB : Below w0.heap.size w0 W) (hb : Blk W b1 27 (tc x)) :
    Calls Try.prog 124 #[.func (.yield L) #[] #[], .pointer (some ⟨b1, 0, none⟩)] W fun en W' => (∃ v, en = .returned v) ∧ Mid w0.heap.size hi W W' ∧ (J (c.nodes 1) W' ∨ ∃ p, p <+: c.nodes 1 ∧ Jx p W') := by
  refine calls_fs 6 [(0, .func (.yield L) #[] #[]), (1, .pointer (some ⟨b1, 0, none⟩))] Try.func124 rfl rfl rfl rfl rfl fun a F => ?_
  refine wp_region_lit ?_
  refine F.vl (x_ldW wide27 hb rfl rfl) fun a F => F.mv rfl fun a F => ?_
  refine s_call (R := fun v W' => ∃ b, v = .bool b ∧ Mid w0.heap.size hi W W' ∧ ((b = true ∧ J (c.nodes 1) W') ∨ (b = false ∧ ∃ p, p <+: c.nodes 1 ∧ Jx p W'))) F [_, _, _] E125 rfl (by decide) ((walk108 w0 (c.size + 1) c x 1 (by omega) hx (by decide) (by decide) hi L J Jx h3 hJs hJxs hJb hY W hJ hWs hB).mono fun en W' ⟨b, h, h'⟩ => ⟨_, h, b, rfl, h'⟩) ?_
  rintro _ w9 a ⟨b9, rfl, hm9, h9⟩ F
  refine s_end ?_
  show bodyPost Try.prog Try.f124 (fun en W' => (∃ v, en = .returned v) ∧ Mid w0.heap.size hi W W' ∧ (J (c.nodes 1) W' ∨ ∃ p, p <+: c.nodes 1 ∧ Jx p W')) .normal a w9
  refine post_normal (res_none F rfl ⟨⟨_, rfl⟩, hm9, ?_⟩)
  rcases h9 with ⟨_, h⟩ | ⟨_, h⟩
  · exact .inl h
  · exact .inr h
end Go.Proofs.Ytmkjhdiepkpdoaa

namespace Go.Proofs.Ytmkjhdiepkpdoaa
set_option maxRecDepth 100000
set_option maxHeartbeats 1600000
open Go.RowKit Go.Shelf
set_option linter.unusedVariables false
set_option linter.unusedSimpArgs false
/-- The block of what is deferred. -/
def Dfr (w : World) (b : Nat) : Prop := w.heap[b]? = some (.deferred (some []))
section
variable {w w' : World} {b : Nat}
theorem Dfr.lt (h : Dfr w b) : b < w.heap.size := (Array.getElem?_eq_some_iff.1 h).1
theorem Dfr.old (h : Dfr w b) (hB : Below w.heap.size w w') : Dfr w' b := (hB.block b h.lt).trans h
theorem Dfr.only {k : Nat} (h : Dfr w b) (ho : Only k w w') (hb : b ≠ k) : Dfr w' b := (ho.block b hb).trans h
theorem Dfr.k2 {a c : Nat} (h : Dfr w b) (hK : Ktw a c w w') (hb : b ≠ a ∧ b ≠ c) : Dfr w' b := (hK.block b h.lt hb).trans h
theorem Dfr.mid {lo hi : Nat} (h : Dfr w b) (hM : Mid lo hi w w') (hb : b < lo ∨ hi ≤ b) : Dfr w' b := (hM.block b h.lt hb).trans h
end
/-- It is not too great. -/
def CT.ok (c : CT) : Prop := c.size ≤ 20000 ∧ c.dep ≤ 2000
instance (c : CT) : Decidable c.ok := inferInstanceAs (Decidable (_ ∧ _))
def CT.mN (c : CT) : Nat := if c.ok then c.size else 0
def CT.mD (c : CT) : Nat := if c.ok then c.dep else 0
def mxd (p : List (Int × CT)) : Int := p.foldl (fun d e => max d e.1) 0
theorem mxd_app (p : List (Int × CT)) (e : Int × CT) : mxd (p ++ [e]) = max (mxd p) e.1 := by simp [mxd]
mutual
theorem CT.nodes_len : ∀ (c : CT) (d : Int), (c.nodes d).length = c.size
 | .two k a b m, d => by simp [CT.nodes, CT.size, a.nodes_len, b.nodes_len]
 | .lt a b c m, d => by simp [CT.nodes, CT.size, a.nodes_len, b.nodes_len, c.nodes_len]; omega
 | .var .., d => rfl
 | .sort .., d => rfl
 | .cst .., d => rfl
 | .odd .., d => rfl
end
theorem CT.nodes_dep : ∀ (c : CT) (d : Int), (∀ e ∈ c.nodes d, d ≤ e.1 ∧ e.1 ≤ d + c.dep - 1) ∧ ∃ e ∈ c.nodes d, e.1 = d + c.dep - 1
 | .two k a b m, d => by
  obtain ⟨h1, e1, h2, h3⟩ := a.nodes_dep (d + 1)
  obtain ⟨h4, e2, h5, h6⟩ := b.nodes_dep (d + 1)
  have := a.dep_pos
  have := b.dep_pos
  refine ⟨?_, ?_⟩
  ·
   intro e he
   simp only [CT.nodes, List.mem_cons, List.mem_append] at he
   simp only [CT.dep]
   rcases he with rfl | he | he
   ·
    simp only; omega
   ·
    have := h1 e he; omega
   ·
    have := h4 e he; omega
  ·
   simp only [CT.nodes, List.mem_cons, List.mem_append, CT.dep]
   rcases Nat.le_total a.dep b.dep with h | h
   ·
    exact ⟨e2, .inr (.inr h5), by omega⟩
   ·
    exact ⟨e1, .inr (.inl h2), by omega⟩
 | .lt a b c m, d => by
  obtain ⟨h1, e1, h2, h3⟩ := a.nodes_dep (d + 1)
  obtain ⟨h4, e2, h5, h6⟩ := b.nodes_dep (d + 1)
  obtain ⟨h7, e3, h8, h9⟩ := c.nodes_dep (d + 1)
  have := a.dep_pos
  have := b.dep_pos
  have := c.dep_pos
  refine ⟨?_, ?_⟩
  ·
   intro e he
   simp only [CT.nodes, List.mem_cons, List.mem_append] at he
   simp only [CT.dep]
   rcases he with rfl | he | he | he
   ·
    simp only; omega
   ·
    have := h1 e he; omega
   ·
    have := h4 e he; omega
   ·
    have := h7 e he; omega
  ·
   simp only [CT.nodes, List.mem_cons, List.mem_append, CT.dep]
   rcases (show (b.dep ≤ a.dep ∧ c.dep ≤ a.dep) ∨ (a.dep ≤ b.dep ∧ c.dep ≤ b.dep) ∨ (a.dep ≤ c.dep ∧ b.dep ≤ c.dep) by omega) with h | h | h
   ·
    exact ⟨e1, .inr (.inl h2), by omega⟩
   ·
    exact ⟨e2, .inr (.inr (.inl h5)), by omega⟩
   ·
    exact ⟨e3, .inr (.inr (.inr h8)), by omega⟩
 | .var n m, d => ⟨by simp [CT.nodes, CT.dep], _, List.mem_singleton.2 rfl, by simp [CT.dep]⟩
 | .sort n m, d => ⟨by simp [CT.nodes, CT.dep], _, List.mem_singleton.2 rfl, by simp [CT.dep]⟩
 | .cst s n m, d => ⟨by simp [CT.nodes, CT.dep], _, List.mem_singleton.2 rfl, by simp [CT.dep]⟩
 | .odd n m, d => ⟨by simp [CT.nodes, CT.dep], _, List.mem_singleton.2 rfl, by simp [CT.dep]⟩
theorem mxd_ge : ∀ (p : List (Int × CT)), 0 ≤ mxd p ∧ ∀ e ∈ p, e.1 ≤ mxd p := by
 intro p
 suffices H : ∀ (p : List (Int × CT)) (z : Int), z ≤ p.foldl (fun d e => max d e.1) z ∧ ∀ e ∈ p, e.1 ≤ p.foldl (fun d e => max d e.1) z from H p 0
 intro p
 induction p with
 | nil => intro z; simp
 | cons u p ih =>
  intro z
  simp only [List.foldl_cons]
  obtain ⟨h1, h2⟩ := ih (max z u.1)
  refine ⟨by omega, ?_⟩
  intro e he
  rcases List.mem_cons.1 he with rfl | he
  ·
   omega
  ·
   exact h2 e he
theorem mxd_le : ∀ (p : List (Int × CT)) (M : Int), 0 ≤ M → (∀ e ∈ p, e.1 ≤ M) → mxd p ≤ M := by
 intro p M
 suffices H : ∀ (p : List (Int × CT)) (z : Int), z ≤ M → (∀ e ∈ p, e.1 ≤ M) → p.foldl (fun d e => max d e.1) z ≤ M from fun h0 h => H p 0 h0 h
 intro p
 induction p with
 | nil => intro z h _; exact h
 | cons u p ih =>
  intro z hz h
  simp only [List.foldl_cons]
  exact ih _ (by have := h u (by simp); omega) (fun e he => h e (by simp [he]))
theorem mxd_nodes (c : CT) : mxd (c.nodes 1) = c.dep := by
 obtain ⟨h1, e, h2, h3⟩ := c.nodes_dep 1
 have h4 := (mxd_ge (c.nodes 1)).2 e h2
 have h5 := mxd_le (c.nodes 1) c.dep (by omega) (fun e he => by have := (h1 e he).2; omega)
 omega
theorem prefix_ok {c : CT} {p : List (Int × CT)} (h : p <+: c.nodes 1) (hc : c.ok) : p.length ≤ 20000 ∧ mxd p ≤ 2000 := by
 obtain ⟨q, hq⟩ := h
 have h1 := congrArg List.length hq
 rw [c.nodes_len, List.length_append] at h1
 refine ⟨by have := hc.1; omega, mxd_le _ _ (by decide) fun e he => ?_⟩
 have h2 := ((c.nodes_dep 1).1 e (by rw [← hq]; exact List.mem_append_left _ he)).2
 have := hc.2
 omega
/-- The nodes, handed on. -/
theorem hands107 (w0 : World) (c : CT) (x : C8) (b1 hi : Nat) (hx : RC w0 (fun k => k < w0.heap.size) c x) (h1 : w0.heap.size ≤ b1) (h2 : b1 < hi) (w1 : World) (m1 : Blk w1 b1 27 (tc x)) (h3 : w0.heap.size ≤ hi) : Hands Try.prog 124 #[.pointer (some ⟨b1, 0, none⟩)] w0.heap.size hi w0 (fun W => Blk W b1 27 (tc x)) (fun e => e.1 ≤ 4611686018427387904) (encN w0) (c.nodes 1) :=
 fun L J Jx hJs hJxs hJb hY W hS hJ hWs hB => nodes107 w0 c x b1 hi hx h1 h2 w1 m1 h3 J Jx L hJs hJxs hJb hY W hJ hWs hB hS
theorem nodes71 (x : C8) (w0 : World) (h1x : ∀ u ∈ tc x, u.oneCell' = true) : Calls Try.prog 88 #[tv x] w0 fun e w' => ∃ v, e = .returned v ∧ (∃ b1, v = .func (.func 124) #[] #[.pointer (some ⟨b1, 0, none⟩)] ∧ w0.heap.size ≤ b1 ∧ Blk w' b1 27 (tc x)) ∧ Below w0.heap.size w0 w' := by
 have hB := Below.refl w0.heap.size w0
 have sB := hB.size
 refine calls_fs 4 [(0, tv x)] Try.func88 rfl rfl rfl rfl rfl fun a F => ?_
 refine wp_rs fun _ K1 => ?_
 refine s_box (tc x) F (by decide) rfl rfl fun w2 b1 a eb1 m1 B3 zb1 F => ?_
 have sB3 := B3.size
 have hB := bt hB B3
 refine F.sg rfl fun a F => ?_
 refine s_end (K1 _ _ ?_)
 refine wp_rs fun _ K2 => F.vl (x_mkf [_] rfl) fun a F => F.sg rfl fun a F => ?_
 refine s_end (K2 _ _ ?_)
 refine wp_ret (res_slot F rfl rfl ⟨_, rfl, ⟨b1, rfl, by omega, m1⟩, hB⟩)
theorem measure62 (c : CT) (x : C8) (w0 : World) (hx : RC w0 (fun k => k < w0.heap.size) c x) : Calls Try.prog 46 #[tv x] w0 fun e w' => e = .returned (.tuple #[.agg [.int .i64 (c.mN : Int), .int .i64 (c.mD : Int)].toArray, .bool (decide c.ok)]) ∧ Below w0.heap.size w0 w' := by
 have hB := Below.refl w0.heap.size w0
 have sB := hB.size
 refine calls_fsM 24 [(0, tv x)] Try.func46 rfl rfl rfl rfl rfl fun a F => ?_
 refine wp_rs fun _ K1 => ?_
 refine s_box (tc x) F (by decide) rfl rfl fun w2 b1 a eb1 m1 B3 zb1 F => ?_
 have sB3 := B3.size
 have hB := bt hB B3
 refine s_alloc F (by decide) zero70 fun w4 b2 a eb2 m2 B5 zb2 F => ?_
 have sB5 := B5.size
 have hB := bt hB B5
 have m1 := m1.old B5
 refine s_alloc1 F (by decide) zero4 rfl fun w6 b3 a eb3 m3 B7 zb3 F => ?_
 have sB7 := B7.size
 have hB := bt hB B7
 have m1 := m1.old B7
 have m2 := m2.old B7
 refine s_end (K1 _ _ ?_)
 refine wp_rs fun _ K2 => ?_
 refine s_alloc F (by decide) zero70 fun w8 b4 a eb4 m4 B9 zb4 F => ?_
 have sB9 := B9.size
 have hB := bt hB B9
 have m1 := m1.old B9
 have m2 := m2.old B9
 have m3 := m3.old B9
 refine s_end (K2 _ _ ?_)
 refine wp_seq_k fun _ K3 => ?_
 refine wp_rs fun _ K4 => F.vl (x_ldW wide27 m1 rfl rfl) fun a F => ?_
 refine s_callR (R := fun v w' => ∃ b1, v = .func (.func 124) #[] #[.pointer (some ⟨b1, 0, none⟩)] ∧ w8.heap.size ≤ b1 ∧ Blk w' b1 27 (tc x)) [_] F E88 rfl (by decide) (nodes71 x w8 hx.one) ?_
 rintro v7 w10 a ⟨bx, hve, hbx, mx⟩ B11 F
 have sB11 := B11.size
 have hB := bt hB B11
 have m2 := m2.old B11
 have m3 := m3.old B11
 have m4 := m4.old B11
 subst hve
 refine s_end (K4 _ _ ?_)
 refine wp_block ?_
 have sD := hB.size
 refine wp_range (w0 := w0) F rfl E124 _ rfl hB (hands107 w0 c x bx _ hx (by omega) (by have := mx.lt; omega) _ mx (by omega)) (fun W' hW' => mx.old hW') (by decide) (fun e vs ⟨y, h, _⟩ => by rw [h]; rfl)
  (fun p W => p.length ≤ 20000 ∧ mxd p ≤ 2000 ∧ Blk W b4 69 [.int .i64 (p.length : Int), .int .i64 (mxd p)] ∧ Blk W b2 69 [.int .i64 0, .int .i64 0] ∧ Blk W b3 4 [.bool false])
  (fun c' p W => c' = .ret ∧ ¬ (p.length ≤ 20000 ∧ mxd p ≤ 2000) ∧ Blk W b2 69 [.int .i64 0, .int .i64 0] ∧ Blk W b3 4 [.bool false])
  (fun p W W' ⟨h1, h2, h3, h4, h5⟩ hW => ⟨h1, h2, h3.below hW (by omega), h4.below hW (by omega), h5.below hW (by omega)⟩) (fun c p W W' ⟨h1, h2, h4, h5⟩ hW => ⟨h1, h2, h4.below hW (by omega), h5.below hW (by omega)⟩) (fun p e W ⟨h1, h2, _⟩ => by have := mxd_app p e; omega) (⟨by simp, by simp [mxd], by simpa [mxd] using m4, m2, m3⟩) ?_ ?_ ?_
 ·
  rintro L p e1 rest W a vs hL hq hv hI hWs hBr F K hK
  obtain ⟨hl, hd, m4, m2, m3⟩ := hI
  obtain ⟨y, rfl, hy⟩ := hv
  have sBr := hBr.size
  have hlW : w10.heap.size + 1 < W.heap.size := by omega
  refine wpI_r (by repeat' first | exact rndPost.calm | exact false.calm | refine Calm.then ?_ _ | refine Calm.block ?_ _) rfl ?_
  refine F.sg rfl fun a F => ?_
  refine s_end ?_
  refine hK _ _ (Mid.refl _ _ _) fun W3 hO3 => ?_
  have hM := Mid.refl w0.heap.size w10.heap.size W3
  have sO := hO3.size
  have m4 := m4.only hO3 (by omega)
  have m2 := m2.only hO3 (by omega)
  have m3 := m3.only hO3 (by omega)
  obtain ⟨hbd, _⟩ := (c.nodes_dep 1).1 e1 (by rw [hq]; simp)
  have hp0 := (mxd_ge p).1
  have hpl : (p ++ [e1]).length = p.length + 1 := by simp
  have hmx := mxd_app p e1
  refine wpIn_block ?_
  refine wpI_rs (by repeat' first | exact rndPost.calm | exact false.calm | refine Calm.then ?_ _ | refine Calm.block ?_ _) rfl fun _ K5 => ?_
  refine F.vl (x_fa0 fa70_0 rfl) fun a F => F.ld m4 flat3 rfl rfl fun a F => F.vl (x_add (by omega) (by omega) rfl rfl) fun a F => F.vl (x_fa0 fa70_0 rfl) fun a F => ?_
  refine s_put F rfl rfl flat3 m4 (by first | (simp; done) | decide) rfl fun w12 m4 o13 => ?_
  have so13 := o13.size
  have m2 := m2.only o13 (by omega)
  have m3 := m3.only o13 (by omega)
  have hM := hM.only o13 (by omega)
  refine s_end (K5 _ _ ?_)
  refine wpI_rs (by repeat' first | exact rndPost.calm | exact false.calm | refine Calm.then ?_ _ | refine Calm.block ?_ _) rfl fun _ K6 => ?_
  refine F.vl (x_fa0 fa70_1 rfl) fun a F => F.ld m4 flat3 rfl rfl fun a F => F.mv rfl fun a F => F.vl (x_imax rfl rfl) fun a F => F.vl (x_fa0 fa70_1 rfl) fun a F => ?_
  refine s_put F rfl rfl flat3 m4 (by first | (simp; done) | decide) rfl fun w14 m4 o15 => ?_
  have so15 := o15.size
  have m2 := m2.only o15 (by omega)
  have m3 := m3.only o15 (by omega)
  have hM := hM.only o15 (by omega)
  refine s_end (K6 _ _ ?_)
  rcases (show (((p.length : Int) + 1 ≤ 20000 ∧ max (mxd p) e1.1 ≤ 2000) ∨ ¬ ((p.length : Int) + 1 ≤ 20000 ∧ max (mxd p) e1.1 ≤ 2000)) by omega) with hk | hk
  ·
   have hin := decide_eq_true hk
   refine wpI_rs (by repeat' first | exact rndPost.calm | exact false.calm | refine Calm.then ?_ _ | refine Calm.block ?_ _) rfl fun _ K8 => ?_
   refine F.vl (x_ldW wide70 m4 rfl rfl) fun a F => ?_
   refine s_callB [_] F E89 rfl (by decide) ((isIn105 _ _ _).mono fun en W' h => ⟨by rw [h.1, hin], h.2⟩) fun w20 a B20 F => ?_
   have sB20 := B20.size
   have m4 := m4.old B20
   have m2 := m2.old B20
   have m3 := m3.old B20
   have hM := hM.old B20
   refine F.vl (x_not rfl) fun a F => ?_
   refine s_end (K8 _ _ ?_)
   refine wpI_if F rfl ?_
   refine wpIn_skip ?_
   exact ⟨hM, by rw [hpl]; omega, by rw [hmx]; omega, by rw [hpl, hmx]; simpa using m4, m2, m3⟩
  ·
   have hin := decide_eq_false hk
   refine wpI_rs (by repeat' first | exact rndPost.calm | exact false.calm | refine Calm.then ?_ _ | refine Calm.block ?_ _) rfl fun _ K9 => ?_
   refine F.vl (x_ldW wide70 m4 rfl rfl) fun a F => ?_
   refine s_callB [_] F E89 rfl (by decide) ((isIn105 _ _ _).mono fun en W' h => ⟨by rw [h.1, hin], h.2⟩) fun w20 a B20 F => ?_
   have sB20 := B20.size
   have m2 := m2.old B20
   have m3 := m3.old B20
   have hM := hM.old B20
   refine F.vl (x_not rfl) fun a F => ?_
   refine s_end (K9 _ _ ?_)
   refine wpI_if F rfl ?_
   refine wpI_rs (by repeat' first | exact rndPost.calm | exact false.calm | refine Calm.then ?_ _ | refine Calm.block ?_ _) rfl fun _ K10 => ?_
   refine F.vl (x_build (vs := []) rfl (b70_ _)) fun a F => ?_
   refine s_putW F rfl rfl (size_wide wide70) m2 rfl (oneII _ _) fun w18 m2 o19 => ?_
   have so19 := o19.size
   have m3 := m3.only o19 (by omega)
   have hM := hM.only o19 (by omega)
   refine s_put F rfl rfl flat4 m3 (by first | (simp; done) | decide) rfl fun w20 m3 o21 => ?_
   have so21 := o21.size
   have m2 := m2.only o21 (by omega)
   have hM := hM.only o21 (by omega)
   refine s_end (K10 _ _ ?_)
   refine wpIn_ret ⟨hM, rfl, by rw [hpl, hmx]; omega, m2, m3⟩
 ·
  rintro a W hI hM hD F
  obtain ⟨hl, hd, m4, m2, m3⟩ := hI
  have sM := hM.size
  have hB := hB.trans (hM.below (by omega))
  have hsz := c.nodes_len 1
  have hdp := mxd_nodes c
  have hok : c.ok := ⟨by omega, by omega⟩
  obtain ⟨bD, hbD⟩ : ∃ bD, bD = w10.heap.size := ⟨_, rfl⟩
  rw [← hbD] at hD F
  have hD : Dfr W bD := hD
  rw [hsz, hdp] at m4
  refine K3 _ _ ?_
  refine wp_rs fun _ K11 => F.vl (x_ldW wide70 m4 rfl rfl) fun a F => ?_
  refine s_putW F rfl rfl (size_wide wide70) m2 rfl (oneII _ _) fun w24 m2 o25 => ?_
  have so25 := o25.size
  have hB := hB.trans (o25.below (by omega))
  have m3 := m3.only o25 (by omega)
  have hD := hD.only o25 (by omega)
  refine s_put F rfl rfl flat4 m3 (by first | (simp; done) | decide) rfl fun w26 m3 o27 => ?_
  have so27 := o27.size
  have hB := hB.trans (o27.below (by omega))
  have m2 := m2.only o27 (by omega)
  have hD := hD.only o27 (by omega)
  refine s_end (K11 _ _ ?_)
  refine wp_ret (resM F hD fun w9 o9 => ⟨run_cell2 F rfl rfl rfl (m_loadW (cs := [_, _]) wide70 (m2.only o9 (by omega))) (m_load flat4 ((m3.only o9 (by omega)).cell (j := 0) rfl)), by rw [decide_eq_true hok, show c.mN = c.size from if_pos hok, show c.mD = c.dep from if_pos hok], hB.trans (o9.below (by omega))⟩)
 ·
  rintro a c p W hp hI hM hD F
  obtain ⟨rfl, hno, m2, m3⟩ := hI
  have hB := hB.trans (hM.below (by omega))
  have hok : ¬ c.ok := fun h => hno (prefix_ok hp h)
  refine wp_ret (inb_ret (then_ret (resM F hD fun w9 o9 => ⟨run_cell2 F rfl rfl rfl (m_loadW (cs := [_, _]) wide70 (m2.only o9 (by omega))) (m_load flat4 ((m3.only o9 (by omega)).cell (j := 0) rfl)), by rw [decide_eq_false hok, show c.mN = 0 from if_neg hok, show c.mD = 0 from if_neg hok]; rfl, hB.trans (o9.below (by omega))⟩)))
end Go.Proofs.Ytmkjhdiepkpdoaa

namespace Go.Proofs.Ytmkjhdiepkpdoaa
open Go.RowKit Go.Shelf
set_option linter.unusedVariables false
set_option linter.unusedSimpArgs false
/-! ### Levels: what is sound, and what that is -/
mutual
def parse : Lv → Option SL
 | .mk k n ls => if k = 1 then some (.num n.toNat) else if k = 2 then some (.var n.toNat) else match parses ls with
  | [some a] => some (.succ n.toNat a)
  | [some a, some b] => some (.mx a b)
  | _ => none
def parses : List Lv → List (Option SL)
 | [] => []
 | l :: ls => parse l :: parses ls
end
/-- The sound level that it is. -/
def slO (l : Lv) : Option SL := if sndL l then parse l else none
theorem parse_rs {W : World} : ∀ {s : SL} {x : C3} {l : Lv}, RL W x l → RS W s x → parse l = some s
 | .num m, (k, n, v), _, .mk hR hl hk _, ⟨h1, h2, h3⟩ => by
  simp only at h1 h2; subst h1 h2; simp [parse]
 | .var m, (k, n, v), _, .mk hR hl hk _, ⟨h1, h2, h3⟩ => by
  simp only at h1 h2; subst h1 h2; simp [parse]
 | .succ m a, (k, n, v), _, @RL.mk _ _ _ _ xs ls hR hl hk _, ⟨h1, h2, y, h3, h4⟩ => by
  simp only at h1 h2 h3; subst h1 h2
  obtain ⟨e1, e2⟩ := hR.inj h3
  obtain ⟨z, rfl⟩ : ∃ z, xs = [z] := List.length_eq_one_iff.1 e1
  obtain ⟨l, rfl⟩ : ∃ l, ls = [l] := List.length_eq_one_iff.1 (hl ▸ e1)
  have e3 : z = y := lc_inj (by simpa using e2)
  subst e3
  have := parse_rs (hk 0 z l rfl rfl) h4
  simp [parse, parses, this]
 | .mx a b, (k, n, v), _, @RL.mk _ _ _ _ xs ls hR hl hk _, ⟨h1, y, z, h3, h4, h5⟩ => by
  simp only at h1 h3; subst h1
  obtain ⟨e1, e2⟩ := hR.inj h3
  obtain ⟨y', z', rfl⟩ := len2 e1
  obtain ⟨la, lb, rfl⟩ := len2 (hl ▸ e1)
  have e2 : lc y' ++ lc z' = lc y ++ lc z := by simpa using e2
  obtain ⟨e3, e4⟩ := List.append_inj e2 rfl
  have e3 := lc_inj e3
  have e4 := lc_inj e4
  subst e3 e4
  have h6 := parse_rs (hk 0 y' la rfl rfl) h4
  have h7 := parse_rs (hk 1 z' lb rfl rfl) h5
  simp [parse, parses, h6, h7]
theorem slO_of {W : World} {x : C3} {l : Lv} {s : SL} (hL : RL W x l) (hs : RS W s x) (hg : s.good) : slO l = some s := by
 unfold slO
 rw [if_pos (rs_snd hL hs hg), parse_rs hL hs]
theorem slO_some {W : World} {x : C3} {l : Lv} {s : SL} (hL : RL W x l) (h : slO l = some s) : sndL l ∧ RS W s x ∧ s.good := by
 unfold slO at h
 split at h
 ·
  next hs =>
  obtain ⟨t, h1, h2⟩ := sound_sl hL hs
  rw [parse_rs hL h1] at h
  cases h
  exact ⟨hs, h1, h2⟩
 ·
  cases h
theorem slO_none {W : World} {x : C3} {l : Lv} (hL : RL W x l) : slO l = none ↔ ¬ sndL l := by
 constructor
 ·
  intro h hs
  obtain ⟨t, h1, h2⟩ := sound_sl hL hs
  rw [slO_of hL h1 h2] at h
  cases h
 ·
  intro h
  unfold slO
  rw [if_neg h]
/-- A sound one lies where the level lies. -/
theorem RSn.of {W : World} {A : Nat → Prop} : ∀ {s : SL} {x : C3} {l : Lv}, RLn W A x l → RS W s x → RSn W A s x
 | .num m, (k, n, v), _, .mk hR hl hk _, h => h
 | .var m, (k, n, v), _, .mk hR hl hk _, h => h
 | .succ m a, (k, n, v), _, @RLn.mk _ _ _ _ _ xs ls hR hl hk _, ⟨h1, h2, y, h3, h4⟩ => by
  obtain ⟨e1, e2⟩ := hR.1.inj h3
  obtain ⟨z, rfl⟩ : ∃ z, xs = [z] := List.length_eq_one_iff.1 e1
  obtain ⟨l, rfl⟩ : ∃ l, ls = [l] := List.length_eq_one_iff.1 (hl ▸ e1)
  have e3 : z = y := lc_inj (by simpa using e2)
  subst e3
  exact ⟨h1, h2, z, h3, fun j hj => hR.2 (by simp) j hj, RSn.of (hk 0 z l rfl rfl) h4⟩
 | .mx a b, (k, n, v), _, @RLn.mk _ _ _ _ _ xs ls hR hl hk _, ⟨h1, y, z, h3, h4, h5⟩ => by
  obtain ⟨e1, e2⟩ := hR.1.inj h3
  obtain ⟨y', z', rfl⟩ := len2 e1
  obtain ⟨la, lb, rfl⟩ := len2 (hl ▸ e1)
  have e2 : lc y' ++ lc z' = lc y ++ lc z := by simpa using e2
  obtain ⟨e3, e4⟩ := List.append_inj e2 rfl
  have e3 := lc_inj e3
  have e4 := lc_inj e4
  subst e3 e4
  exact ⟨h1, y', z', h3, fun j hj => hR.2 (by simp) j hj, RSn.of (hk 0 y' la rfl rfl) h4, RSn.of (hk 1 z' lb rfl rfl) h5⟩
/-- A sound one, as one of whatever form, where it lies. -/
theorem RSn.rln {W : World} {A : Nat → Prop} : ∀ {s : SL} {x : C3}, RSn W A s x → ∃ l, RLn W A x l
 | .num m, (k, n, v), ⟨h1, h2, h3⟩ => ⟨.mk k n [], .mk (xs := []) ⟨h3, fun h => by simp at h⟩ rfl (fun i x l h => by simp at h)⟩
 | .var m, (k, n, v), ⟨h1, h2, h3⟩ => ⟨.mk k n [], .mk (xs := []) ⟨h3, fun h => by simp at h⟩ rfl (fun i x l h => by simp at h)⟩
 | .succ m a, (k, n, v), ⟨h1, h2, y, h3, ha, h4⟩ => by
  obtain ⟨l, g1⟩ := RSn.rln h4
  refine ⟨.mk k n [l], .mk (xs := [y]) ⟨by simpa using h3, fun _ b hb => ha b hb⟩ rfl (fun i x l' e1 e2 => ?_)⟩
  cases i
  ·
   simp at e1 e2; subst e1 e2; exact g1
  ·
   simp at e1
 | .mx a b, (k, n, v), ⟨h1, y, z, h3, ha, h4, h5⟩ => by
  obtain ⟨la, g1⟩ := RSn.rln h4
  obtain ⟨lb, g3⟩ := RSn.rln h5
  refine ⟨.mk k n [la, lb], .mk (xs := [y, z]) ⟨by simpa using h3, fun _ b hb => ha b hb⟩ rfl (fun i x l' e1 e2 => ?_)⟩
  rcases i with _ | _ | i
  ·
   simp at e1 e2; subst e1 e2; exact g1
  ·
   simp at e1 e2; subst e1 e2; exact g3
  ·
   simp at e1
/-- x reads as a level that says o. -/
def RO (W : World) (A : Nat → Prop) (o : Option SL) (x : C3) : Prop := ∃ l, RLn W A x l ∧ slO l = o
theorem RO.of {W : World} {A : Nat → Prop} {s : SL} {x : C3} (h : RSn W A s x) (hg : s.good) : RO W A (some s) x := by
 obtain ⟨l, hl⟩ := h.rln
 exact ⟨l, hl, slO_of hl.rl h.rs hg⟩
/-! ### Copies of levels -/
mutual
def cpy : Lv → Lv
 | .mk k n ls => if k = 1 ∨ k = 2 ∨ k = 3 then .mk k n (cpys ls) else if k = 4 then .mk 4 0 (cpys ls) else .mk k 0 []
def cpys : List Lv → List Lv
 | [] => []
 | l :: ls => cpy l :: cpys ls
end
theorem cpys_len : ∀ ls : List Lv, (cpys ls).length = ls.length
 | [] => rfl
 | l :: ls => by simp [cpys, cpys_len ls]
theorem nodeE_n4 {D top vars d n m : Int} {r : Nat} {len : Nat} : nodeE D top vars d r 4 n len = nodeE D top vars d r 4 m len := by simp [nodeE, numB]
theorem nodeE_odd {D top vars d n m : Int} {r : Nat} {k : Int} {len len' : Nat} (h : ¬ (k = 1 ∨ k = 2 ∨ k = 3) ∧ k ≠ 4) : nodeE D top vars d r k n len = nodeE D top vars d r k m len' ∧ nodeE D top vars d r k n len ≠ 0 := by
 have e : ∀ l, kidsB k l = false := by intro l; simp [kidsB]; omega
 simp only [nodeE, e, true_or, if_true]
 refine ⟨trivial, ?_⟩
 split <;> simp
mutual
theorem chk_cpy (D top vars : Int) (d : Int) (r : Nat) : ∀ l, chk D top vars d r (cpy l) = chk D top vars d r l
 | .mk k n ls => by
  unfold cpy
  split
  ·
   unfold chk
   rw [cpys_len, chks_cpy D top vars (d + 1) (r - 1) ls]
  ·
   next h1 =>
   split
   ·
    next h2 =>
    subst h2
    unfold chk
    rw [cpys_len, chks_cpy D top vars (d + 1) (r - 1) ls, nodeE_n4 (n := 0) (m := n)]
   ·
    next h2 =>
    obtain ⟨e1, e2⟩ := nodeE_odd (D := D) (top := top) (vars := vars) (d := d) (n := n) (m := 0) (r := r) (k := k) (len := ls.length) (len' := 0) ⟨h1, h2⟩
    unfold chk
    rw [List.length_nil, ← e1, if_pos e2, if_pos e2]
theorem chks_cpy (D top vars : Int) (d : Int) (r : Nat) : ∀ ls, chks D top vars d r (cpys ls) = chks D top vars d r ls
 | [] => rfl
 | l :: ls => by
  unfold cpys chks
  rw [chk_cpy D top vars d r l, chks_cpy D top vars d _ ls]
end
theorem snd_cpy (l : Lv) : sndL (cpy l) ↔ sndL l := by unfold sndL; rw [chk_cpy]
theorem parse_cpy {W : World} {A : Nat → Prop} : ∀ {s : SL} {x : C3} {l : Lv}, RL W x l → RS W s x → parse (cpy l) = some s
 | .num m, (k, n, v), _, .mk hR hl hk _, ⟨h1, h2, h3⟩ => by
  simp only at h1 h2; subst h1 h2; simp [parse, cpy]
 | .var m, (k, n, v), _, .mk hR hl hk _, ⟨h1, h2, h3⟩ => by
  simp only at h1 h2; subst h1 h2; simp [parse, cpy]
 | .succ m a, (k, n, v), _, @RL.mk _ _ _ _ xs ls hR hl hk _, ⟨h1, h2, y, h3, h4⟩ => by
  simp only at h1 h2 h3; subst h1 h2
  obtain ⟨e1, e2⟩ := hR.inj h3
  obtain ⟨z, rfl⟩ : ∃ z, xs = [z] := List.length_eq_one_iff.1 e1
  obtain ⟨l, rfl⟩ : ∃ l, ls = [l] := List.length_eq_one_iff.1 (hl ▸ e1)
  have e3 : z = y := lc_inj (by simpa using e2)
  subst e3
  have := parse_cpy (A := A) (hk 0 z l rfl rfl) h4
  simp [parse, parses, cpy, cpys, this]
 | .mx a b, (k, n, v), _, @RL.mk _ _ _ _ xs ls hR hl hk _, ⟨h1, y, z, h3, h4, h5⟩ => by
  simp only at h1 h3; subst h1
  obtain ⟨e1, e2⟩ := hR.inj h3
  obtain ⟨y', z', rfl⟩ := len2 e1
  obtain ⟨la, lb, rfl⟩ := len2 (hl ▸ e1)
  have e2 : lc y' ++ lc z' = lc y ++ lc z := by simpa using e2
  obtain ⟨e3, e4⟩ := List.append_inj e2 rfl
  have e3 := lc_inj e3
  have e4 := lc_inj e4
  subst e3 e4
  have h6 := parse_cpy (A := A) (hk 0 y' la rfl rfl) h4
  have h7 := parse_cpy (A := A) (hk 1 z' lb rfl rfl) h5
  simp [parse, parses, cpy, cpys, h6, h7]
theorem slO_cpy {W : World} {x : C3} {l : Lv} (hL : RL W x l) : slO (cpy l) = slO l := by
 by_cases h : sndL l
 ·
  obtain ⟨s, h1, h2⟩ := sound_sl hL h
  rw [slO_of hL h1 h2]
  unfold slO
  rw [if_pos ((snd_cpy l).2 h), parse_cpy (A := fun _ => True) hL h1]
 ·
  unfold slO
  rw [if_neg h, if_neg (fun h' => h ((snd_cpy l).1 h'))]
/-! ### Terms -/
inductive PT where
 | var (n : Int)
 | sort (o : Option SL)
 | cst (s : ByteArray) (os : List (Option SL))
 | odd (k : Int)
 | two (k : Int) (a b : PT)
 | lt (a b c : PT)
def CT.ess : CT → PT
 | .var n _ => .var n
 | .sort l _ => .sort (slO l)
 | .cst s ls _ => .cst s (ls.map slO)
 | .odd k _ => .odd k
 | .two k a b _ => .two k a.ess b.ess
 | .lt a b c _ => .lt a.ess b.ess c.ess
def PT.size : PT → Nat
 | .two _ a b => a.size + b.size + 1
 | .lt a b c => a.size + b.size + c.size + 1
 | _ => 1
def PT.dep : PT → Nat
 | .two _ a b => max a.dep b.dep + 1
 | .lt a b c => max a.dep (max b.dep c.dep) + 1
 | _ => 1
def PT.kids : PT → List PT
 | .two _ a b => [a, b]
 | .lt a b c => [a, b, c]
 | _ => []
/-- x reads as a term that says p. -/
def RE (W : World) (A : Nat → Prop) (p : PT) (x : C8) : Prop := ∃ c, RC W A c x ∧ c.ess = p
section
variable {W W' : World} {A B : Nat → Prop} {p : PT} {x : C8}
theorem RE.keep (hs : W.heap.size ≤ W'.heap.size) (hk : ∀ k, A k → k < W.heap.size → W'.heap[k]? = W.heap[k]?) (h : RE W A p x) : RE W' A p x := let ⟨c, h1, h2⟩ := h; ⟨c, h1.keep hs hk, h2⟩
theorem RE.mono (hAB : ∀ k, A k → B k) (h : RE W A p x) : RE W B p x := let ⟨c, h1, h2⟩ := h; ⟨c, h1.mono hAB, h2⟩
theorem RE.below (h : RE W A p x) (hB : Below W.heap.size W W') : RE W' A p x := h.keep hB.size (fun k _ hk => hB.block k hk)
theorem RE.only {b : Nat} (h : RE W A p x) (o : Only b W W') (hb : ¬ A b) : RE W' A p x := h.keep (Nat.le_of_eq o.size.symm) (fun k ha _ => o.block k (fun e => hb (e ▸ ha)))
theorem RE.k2 {a b : Nat} (h : RE W A p x) (hK : Ktw a b W W') (ha : ¬ A a) (hb : ¬ A b) : RE W' A p x := h.keep hK.size (fun k hA hk => hK.block k hk ⟨fun e => ha (e ▸ hA), fun e => hb (e ▸ hA)⟩)
theorem RE.one (h : RE W A p x) : ∀ u ∈ tc x, u.oneCell' = true := let ⟨_, h1, _⟩ := h; h1.one
end
/-! ### Folds -/
section
variable {α : Type}
def CT.fold (G : CT → Int → List α → α) : CT → Int → α
 | .two k a b m, d => G (.two k a b m) d [a.fold G (d + (CT.two k a b m).bnd 0), b.fold G (d + (CT.two k a b m).bnd 1)]
 | .lt a b c m, d => G (.lt a b c m) d [a.fold G (d + (CT.lt a b c m).bnd 0), b.fold G (d + (CT.lt a b c m).bnd 1), c.fold G (d + (CT.lt a b c m).bnd 2)]
 | .var n m, d => G (.var n m) d []
 | .sort l m, d => G (.sort l m) d []
 | .cst s ls m, d => G (.cst s ls m) d []
 | .odd k m, d => G (.odd k m) d []
/-- What is made of the kids. -/
def CT.folds (G : CT → Int → List α → α) (c : CT) (d : Int) : List α := c.kids.mapIdx fun i k => k.fold G (d + c.bnd i)
end
end Go.Proofs.Ytmkjhdiepkpdoaa

namespace Go.Proofs.Ytmkjhdiepkpdoaa
open Go.RowKit Go.Shelf
set_option linter.unusedVariables false
set_option linter.unusedSimpArgs false
section
variable {P : Program} {n d : Nat} {l : List (Nat × Value)} {w : World} {a : Act} {ops : Array Oper} {Q : Exit → Act → World → Prop} {rest : List Oper} {ty : TypeId} {pos : String} {af : Array Edge} {x y : Operand}
end
theorem put_len {α : Type} {cs vs : List α} {o : Nat} (h : o + vs.length ≤ cs.length) : (cs.take o ++ vs ++ cs.drop (o + vs.length)).length = cs.length := by
 simp; omega
section
variable {W : World} {A : Nat → Prop}
theorem RLn.valid {x : C3} {l : Lv} (h : RLn W A x l) : RLn W (fun k => A k ∧ k < W.heap.size) x l := by
 induction h with
 | mk hR hl hk hbd9 ih => exact .mk hR.lt hl ih hbd9
theorem RVn.valid {v : Value} {ls : List Lv} : RVn W A v ls → RVn W (fun k => A k ∧ k < W.heap.size) v ls := fun ⟨xs, h1, h2, h3⟩ => ⟨xs, h1.lt, h2, fun i x l e1 e2 => (h3 i x l e1 e2).valid⟩
theorem Ok.valid {x : C8} : Ok W A x → Ok W (fun k => A k ∧ k < W.heap.size) x := fun ⟨⟨l, h1⟩, ls, h2⟩ => ⟨⟨l, h1.valid⟩, ls, h2.valid⟩
theorem RC.valid : ∀ {c : CT} {x : C8}, RC W A c x → RC W (fun k => A k ∧ k < W.heap.size) c x
 | .var .., x, ⟨h1, h2, h3, ⟨cs, h4⟩, h5⟩ => ⟨h1, h2, h3, ⟨cs, h4.lt⟩, h5.valid⟩
 | .sort .., x, ⟨h1, h2, ⟨cs, h4⟩, h5⟩ => ⟨h1, h2.valid, ⟨cs, h4.lt⟩, h5.valid⟩
 | .cst .., x, ⟨h1, h2, h3, ⟨cs, h4⟩, h5⟩ => ⟨h1, h2, h3.valid, ⟨cs, h4.lt⟩, h5.valid⟩
 | .odd .., x, ⟨h1, h2, ⟨cs, h4⟩, h5⟩ => ⟨h1, h2, ⟨cs, h4.lt⟩, h5.valid⟩
 | .two .., x, ⟨h1, h2, ⟨y, z, cs, h3, h4, h5⟩, h6⟩ => ⟨h1, h2, ⟨y, z, cs, h3.lt, RC.valid h4, RC.valid h5⟩, h6.valid⟩
 | .lt .., x, ⟨h1, ⟨y, z, u, cs, h3, h4, h5, h7⟩, h6⟩ => ⟨h1, ⟨y, z, u, cs, h3.lt, RC.valid h4, RC.valid h5, RC.valid h7⟩, h6.valid⟩
theorem RE.valid {p : PT} {x : C8} (h : RE W A p x) : RE W (fun k => A k ∧ k < W.heap.size) p x := let ⟨c, h1, h2⟩ := h; ⟨c, h1.valid, h2⟩
end
/-- What is left of a room. -/
def Room (W : World) (br : Nat) : Prop := ∃ r : Int, Blk W br 102 [.int .i64 r] ∧ 0 ≤ r ∧ r ≤ 2147483647
theorem Room.below {W W' : World} {br : Nat} (h : Room W br) (hB : Below W.heap.size W W') : Room W' br := let ⟨r, h1, h2⟩ := h; ⟨r, h1.old hB, h2⟩
theorem Room.only {W W' : World} {br b : Nat} (h : Room W br) (hO : Only b W W') (hb : br ≠ b) : Room W' br := let ⟨r, h1, h2⟩ := h; ⟨r, h1.only hO hb, h2⟩
theorem Room.lt {W : World} {br : Nat} (h : Room W br) : br < W.heap.size := let ⟨_, h1, _⟩ := h; h1.lt
/-- Where what is handed in lies, and what has come about since a block. -/
def Ar (lo br s : Nat) : Nat → Prop := fun k => k ≠ br ∧ (k < lo ∨ s ≤ k)
def Ai (lo br : Nat) : Nat → Prop := fun k => k ≠ br ∧ k < lo
theorem Ar.mono {lo br s s' : Nat} (h : s' ≤ s) : ∀ k, Ar lo br s k → Ar lo br s' k := fun k ⟨h1, h2⟩ => ⟨h1, by omega⟩
theorem Ar.no {lo br s b : Nat} (h : lo ≤ b ∧ b < s) : ¬ Ar lo br s b := fun h' => by have := h'.2; omega
theorem Ai.no {lo br b : Nat} (h : lo ≤ b) : ¬ Ai lo br b := fun h' => by have := h'.2; omega
/-- What was handed in, and what has come about since a block. -/
def AS (A : Nat → Prop) (s : Nat) : Nat → Prop := fun k => A k ∨ s ≤ k
theorem AS.mono {A : Nat → Prop} {s s' : Nat} (h : s' ≤ s) : ∀ k, AS A s k → AS A s' k := fun k hk => hk.elim .inl (fun h' => .inr (by omega))
/-- A slice of terms that say ps. -/
def RKE (W : World) (A : Nat → Prop) (v : Value) (ps : List PT) : Prop := ∃ xs : List C8, Rn W A v 8 xs.length (xs.flatMap tc) ∧ xs.length = ps.length ∧ ∀ (i : Nat) x p, xs[i]? = some x → ps[i]? = some p → RE W A p x
section
variable {W W' : World} {A B : Nat → Prop} {v : Value} {ps : List PT}
theorem RKE.keep (hs : W.heap.size ≤ W'.heap.size) (hk : ∀ k, A k → k < W.heap.size → W'.heap[k]? = W.heap[k]?) : RKE W A v ps → RKE W' A v ps :=
 fun ⟨xs, h1, h2, h3⟩ => ⟨xs, h1.keep hs hk, h2, fun i x c e1 e2 => (h3 i x c e1 e2).keep hs hk⟩
theorem RKE.mono (hAB : ∀ k, A k → B k) : RKE W A v ps → RKE W B v ps := fun ⟨xs, h1, h2, h3⟩ => ⟨xs, h1.mono hAB, h2, fun i x c e1 e2 => (h3 i x c e1 e2).mono hAB⟩
theorem RKE.below (h : RKE W A v ps) (hB : Below W.heap.size W W') : RKE W' A v ps := h.keep hB.size (fun k _ hk => hB.block k hk)
theorem RKE.only {b : Nat} (h : RKE W A v ps) (o : Only b W W') (hb : ¬ A b) : RKE W' A v ps := h.keep (Nat.le_of_eq o.size.symm) (fun k ha _ => o.block k (fun e => hb (e ▸ ha)))
theorem RKE.k2 {a b : Nat} (h : RKE W A v ps) (hK : Ktw a b W W') (ha : ¬ A a) (hb : ¬ A b) : RKE W' A v ps := h.keep hK.size (fun k hA hk => hK.block k hk ⟨fun e => ha (e ▸ hA), fun e => hb (e ▸ hA)⟩)
theorem RKE.nil (W : World) (A : Nat → Prop) : RKE W A nilS [] := ⟨[], Rn.nil W A 8, rfl, fun i x c h => by simp at h⟩
theorem RKE.form (h : RKE W A v ps) : ∃ a c, v = .slice a ps.length c ∧ ps.length ≤ c ∧ (a = none → c = 0) := by
 obtain ⟨xs, h1, h2, _⟩ := h
 rw [← h2]
 exact h1.1.form
theorem RKE.one (h : RKE W A v ps) : v.oneCell' = true := by
 obtain ⟨a, c, rfl, _⟩ := h.form
 rfl
end
/-- The first of the cells read as terms that say ps. -/
def MkT (W : World) (A : Nat → Prop) (cs : List Value) (ps : List PT) : Prop := ∃ ys : List C8, cs.take (ps.length * 8) = ys.flatMap tc ∧ ys.length = ps.length ∧ ∀ (j : Nat) y p, ys[j]? = some y → ps[j]? = some p → RE W A p y
section
variable {W W' : World} {A B : Nat → Prop} {cs : List Value} {ps : List PT}
theorem MkT.start (W : World) (A : Nat → Prop) (cs : List Value) : MkT W A cs [] := ⟨[], by simp, rfl, fun j y p h => by simp at h⟩
theorem MkT.valid : MkT W A cs ps → MkT W (fun k => A k ∧ k < W.heap.size) cs ps := fun ⟨xs, h1, h2, h3⟩ => ⟨xs, h1, h2, fun i x c e1 e2 => (h3 i x c e1 e2).valid⟩
theorem MkT.mono (hAB : ∀ k, A k → B k) : MkT W A cs ps → MkT W B cs ps := fun ⟨xs, h1, h2, h3⟩ => ⟨xs, h1, h2, fun i x c e1 e2 => (h3 i x c e1 e2).mono hAB⟩
theorem MkT.keep (hs : W.heap.size ≤ W'.heap.size) (hk : ∀ k, A k → k < W.heap.size → W'.heap[k]? = W.heap[k]?) : MkT W A cs ps → MkT W' A cs ps :=
 fun ⟨xs, h1, h2, h3⟩ => ⟨xs, h1, h2, fun i x c e1 e2 => (h3 i x c e1 e2).keep hs hk⟩
theorem MkT.below (h : MkT W A cs ps) (hB : Below W.heap.size W W') : MkT W' A cs ps := h.keep hB.size (fun k _ hk => hB.block k hk)
theorem MkT.only {b : Nat} (h : MkT W A cs ps) (o : Only b W W') (hb : ¬ A b) : MkT W' A cs ps := h.keep (Nat.le_of_eq o.size.symm) (fun k ha _ => o.block k (fun e => hb (e ▸ ha)))
theorem MkT.k2 {a b : Nat} (h : MkT W A cs ps) (hK : Ktw a b W W') (ha : ¬ A a) (hb : ¬ A b) : MkT W' A cs ps := h.keep hK.size (fun k hA hk => hK.block k hk ⟨fun e => ha (e ▸ hA), fun e => hb (e ▸ hA)⟩)
end
end Go.Proofs.Ytmkjhdiepkpdoaa

namespace Go.Proofs.Ytmkjhdiepkpdoaa
open Go.RowKit Go.Shelf
set_option linter.unusedVariables false
set_option linter.unusedSimpArgs false
/-- Its kids' list holds just so many. -/
def Tn (n : Nat) (y : C8) : Prop := ∃ a cp, y.ts = .slice a n cp
def Tt (c : CT) (y : C8) : Prop := 0 < c.kids.length → Tn c.kids.length y
theorem take_snoc {α : Type} {l : List α} {i : Nat} {p : α} (h : l[i]? = some p) : l.take (i + 1) = l.take i ++ [p] := by
 rw [List.take_add_one, h]; rfl
end Go.Proofs.Ytmkjhdiepkpdoaa

namespace Go.Proofs.Ytmkjhdiepkpdoaa
open Go.RowKit Go.Shelf
set_option linter.unusedVariables false
set_option linter.unusedSimpArgs false
def enc2 (p : Int × Int) : List Value := [.int .i64 p.1, .int .i64 p.2]
def enc1 (z : Int) : List Value := [.int .i64 z]
end Go.Proofs.Ytmkjhdiepkpdoaa

namespace Go.Proofs.Ytmkjhdiepkpdoaa
open Go.RowKit Go.Shelf
set_option linter.unusedVariables false
set_option linter.unusedSimpArgs false
section
variable {P : Program} {ops : Array Oper} {n d : Nat} {l : List (Nat × Value)} {w : World} {a : Act} {Q : Exit → Act → World → Prop} {rest : List Oper} {ty : TypeId} {pos : String} {af : Array Edge} {x y : Operand} {t e k kb base m o : Nat} {v : Value} {xs ys : List Value}
end
mutual
def Lv.sz : Lv → Nat
 | .mk _ _ ls => Lv.szs ls + 1
def Lv.szs : List Lv → Nat
 | [] => 0
 | l :: ls => l.sz + Lv.szs ls
end
/-- Levels of whatever form, one behind the other. -/
def QL (W : World) (A : Nat → Prop) (zs : List C3) (ps : List Lv) : Prop := zs.length = ps.length ∧ ∀ (j : Nat) z p, zs[j]? = some z → ps[j]? = some p → RLn W A z p
section
variable {W W' : World} {A B : Nat → Prop} {zs : List C3} {ps : List Lv}
theorem QL.nil : QL W A [] [] := ⟨rfl, fun j z p h => by simp at h⟩
theorem QL.mono (h : QL W A zs ps) (hm : ∀ k, A k → B k) : QL W B zs ps := ⟨h.1, fun j z p h1 h2 => (h.2 j z p h1 h2).mono hm⟩
theorem QL.valid (h : QL W A zs ps) : QL W (fun k => A k ∧ k < W.heap.size) zs ps := ⟨h.1, fun j z p h1 h2 => (h.2 j z p h1 h2).valid⟩
theorem QL.keep (h : QL W A zs ps) (hs : W.heap.size ≤ W'.heap.size) (hk : ∀ k, A k → k < W.heap.size → W'.heap[k]? = W.heap[k]?) : QL W' A zs ps := ⟨h.1, fun j z p h1 h2 => RLn.keep hs hk (h.2 j z p h1 h2)⟩
theorem QL.below (h : QL W A zs ps) (hB : Below W.heap.size W W') : QL W' A zs ps := h.keep hB.size fun k _ hk => hB.block k hk
theorem QL.only {c : Nat} (h : QL W A zs ps) (o : Only c W W') (hc : ∀ k, A k → k ≠ c) : QL W' A zs ps := h.keep (Nat.le_of_eq o.size.symm) fun k ha _ => o.block k (hc k ha)
theorem QL.k2 {a b : Nat} (h : QL W A zs ps) (hK : Ktw a b W W') (hc : ∀ k, A k → k ≠ a ∧ k ≠ b) : QL W' A zs ps := h.keep hK.size fun k ha hk => hK.block k hk (hc k ha)
end
/-- RLn, by another name. -/
def RLx (W : World) (A : Nat → Prop) (x : C3) (l : Lv) : Prop := RLn W A x l
section
variable {W W' : World} {A B : Nat → Prop} {x : C3} {l : Lv}
theorem RLx.below (h : RLx W A x l) (hB : Below W.heap.size W W') : RLx W' A x l := RLn.keep hB.size (fun k _ hk => hB.block k hk) h
theorem RLx.only {c : Nat} (h : RLx W A x l) (o : Only c W W') (hc : ∀ k, A k → k ≠ c) : RLx W' A x l := RLn.keep (Nat.le_of_eq o.size.symm) (fun k ha _ => o.block k (hc k ha)) h
theorem RLx.k2 {a b : Nat} (h : RLx W A x l) (hK : Ktw a b W W') (hc : ∀ k, A k → k ≠ a ∧ k ≠ b) : RLx W' A x l := RLn.keep hK.size (fun k ha hk => hK.block k hk (hc k ha)) h
theorem RLx.mono (h : RLx W A x l) (hm : ∀ k, A k → B k) : RLx W B x l := RLn.mono hm h
theorem RLx.valid (h : RLx W A x l) : RLx W (fun k => A k ∧ k < W.heap.size) x l := RLn.valid h
theorem RLx.rl (h : RLx W A x l) : RL W x l := RLn.rl h
end
/-- A level as it was, or a copy of it. -/
def isCp (l l' : Lv) : Prop := l' = l ∨ l' = cpy l
theorem isCp.slO {W : World} {x : C3} {l l' : Lv} (h : isCp l l') (hL : RL W x l) : slO l' = slO l := by
 rcases h with rfl | rfl
 ·
  rfl
 ·
  exact slO_cpy hL
end Go.Proofs.Ytmkjhdiepkpdoaa

namespace Go.Proofs.Ytmkjhdiepkpdoaa
open Go.RowKit Go.Shelf
set_option linter.unusedVariables false
set_option linter.unusedSimpArgs false
section
variable {P : Program} {n : Nat} {l : List (Nat × Value)} {w : World}
end
def Lv.kids : Lv → List Lv
 | .mk _ _ ls => ls
theorem RLn.kids {W : World} {A : Nat → Prop} {x : C3} {l : Lv} (h : RLn W A x l) : RVn W A x.2.2 l.kids := by
 cases h with
 | mk hR hl hk => exact ⟨_, hR, hl, hk⟩
theorem RVn.row {W : World} {A : Nat → Prop} {v : Value} {ls : List Lv} (h : RVn W A v ls) {i : Nat} (hi : i < ls.length) :
    ∃ b off c x y, v = .slice (some ⟨b, off, none⟩) ls.length c ∧ ls[i]? = some y ∧ RLn W A x y ∧ A b ∧ b < W.heap.size ∧ ∀ W' : World, W'.heap[b]? = W.heap[b]? → ∀ j u, (lc x)[j]? = some u → W'.cell? ((⟨b, off + i * 3, none⟩ : Addr).add j) = some u := by
  obtain ⟨xs, h1, h2, h3⟩ := h
  obtain ⟨b, off, c, rfl, hb⟩ := h1.1.some (by omega)
  refine ⟨b, off, c, xs[i]'(by omega), ls[i], by rw [h2], List.getElem?_eq_getElem hi, h3 i _ _ (List.getElem?_eq_getElem (by omega)) (List.getElem?_eq_getElem hi), h1.2 (by omega) b rfl, hb, fun W' hB j u hj => ?_⟩
  rw [addr_addn, Nat.add_assoc]
  exact (World.cell?_of_block (w := W) (a := ⟨b, off + (i * 3 + j), none⟩) hB).trans (h1.1.cell (fm3_get xs i j _ u (List.getElem?_eq_getElem (by omega)) hj))
def sumT (cs : List CT) : Nat := (cs.map CT.size).sum
end Go.Proofs.Ytmkjhdiepkpdoaa

namespace Go.Proofs.Ytmkjhdiepkpdoaa
open Go.RowKit Go.Shelf
set_option linter.unusedVariables false
set_option linter.unusedSimpArgs false
theorem RVn.k2 {W W' : World} {A : Nat → Prop} {v : Value} {ls : List Lv} {a b : Nat} (h : RVn W A v ls) (hK : Ktw a b W W') (hA : ∀ k, A k → k ≠ a ∧ k ≠ b) : RVn W' A v ls := h.keep hK.size (fun k ha hk => hK.block k hk (hA k ha))
theorem Ok.k2 {W W' : World} {A : Nat → Prop} {x : C8} {a b : Nat} (h : Ok W A x) (hK : Ktw a b W W') (hA : ∀ k, A k → k ≠ a ∧ k ≠ b) : Ok W' A x := h.keep hK.size (fun k ha hk => hK.block k hk (hA k ha))
/-- Each is as it was, or a copy. -/
def cpAll (ls ls' : List Lv) : Prop := ∀ (j : Nat) l l', ls[j]? = some l → ls'[j]? = some l' → isCp l l'
theorem cpAll.slO {W : World} {A : Nat → Prop} {v : Value} {ls ls' : List Lv} (h : cpAll ls ls') (hl : ls'.length = ls.length) (hV : RVn W A v ls) : ls'.map slO = ls.map slO := by
 obtain ⟨xs, h1, h2, h3⟩ := hV
 apply List.ext_getElem?
 intro i
 by_cases hi : i < ls.length
 ·
  rw [List.getElem?_map, List.getElem?_map, List.getElem?_eq_getElem hi, List.getElem?_eq_getElem (by omega : i < ls'.length)]
  exact congrArg some ((h i _ _ (List.getElem?_eq_getElem hi) (List.getElem?_eq_getElem (by omega))).slO (h3 i (xs[i]'(by omega)) _ (List.getElem?_eq_getElem (by omega)) (List.getElem?_eq_getElem hi)).rl)
 ·
  rw [List.getElem?_eq_none (by simp; omega), List.getElem?_eq_none (by simp; omega)]
/-- A node, with these kids. -/
def nodeP : CT → List PT → PT
 | .var n _, _ => .var n
 | .sort l _, _ => .sort (slO l)
 | .cst s ls _, _ => .cst s (ls.map slO)
 | .odd k _, _ => .odd k
 | .two k _ _ _, ps => .two k (ps.getD 0 (.odd 0)) (ps.getD 1 (.odd 0))
 | .lt .., ps => .lt (ps.getD 0 (.odd 0)) (ps.getD 1 (.odd 0)) (ps.getD 2 (.odd 0))
section
variable {W W' : World} {A B : Nat → Prop}
theorem RC.var_of : ∀ {c : CT} {x : C8}, RC W A c x → x.k = 1 → ∃ n m, c = .var n m
 | .var n m, _, _, _ => ⟨n, m, rfl⟩
 | .sort .., x, h, hk => by have := h.1; omega
 | .cst .., x, h, hk => by have := h.1; omega
 | .odd k m, x, h, hk => by
  have h1 := h.1
  have h2 := h.2.1
  rw [← h1, hk] at h2
  simp [arT] at h2
  omega
 | .two .., x, h, hk => by have := h.1; have := h.2.1; omega
 | .lt .., x, h, hk => by have := h.1; omega
theorem RC.sort_of : ∀ {c : CT} {x : C8}, RC W A c x → x.k = 2 → ∃ n m, c = .sort n m
 | .sort n m, _, _, _ => ⟨n, m, rfl⟩
 | .var .., x, h, hk => by have := h.1; omega
 | .cst .., x, h, hk => by have := h.1; omega
 | .odd k m, x, h, hk => by
  have h1 := h.1
  have h2 := h.2.1
  rw [← h1, hk] at h2
  simp [arT] at h2
  omega
 | .two .., x, h, hk => by have := h.1; have := h.2.1; omega
 | .lt .., x, h, hk => by have := h.1; omega
theorem RC.cst_of : ∀ {c : CT} {x : C8}, RC W A c x → x.k = 7 → ∃ s ls m, c = .cst s ls m
 | .cst s n m, _, _, _ => ⟨s, n, m, rfl⟩
 | .var .., x, h, hk => by have := h.1; omega
 | .sort .., x, h, hk => by have := h.1; omega
 | .odd k m, x, h, hk => by
  have h1 := h.1
  have h2 := h.2.1
  rw [← h1, hk] at h2
  simp [arT] at h2
  omega
 | .two .., x, h, hk => by have := h.1; have := h.2.1; omega
 | .lt .., x, h, hk => by have := h.1; omega
theorem RVn.below {v : Value} {ls : List Lv} (h : RVn W A v ls) (hB : Below W.heap.size W W') : RVn W' A v ls := h.keep hB.size fun k _ hk => hB.block k hk
theorem RVn.only {v : Value} {ls : List Lv} {c : Nat} (h : RVn W A v ls) (o : Only c W W') (hc : ∀ k, A k → k ≠ c) : RVn W' A v ls := h.keep (Nat.le_of_eq o.size.symm) fun k ha _ => o.block k (hc k ha)
end
end Go.Proofs.Ytmkjhdiepkpdoaa

namespace Go.Proofs.Ytmkjhdiepkpdoaa
open Go.RowKit Go.Shelf
set_option linter.unusedVariables false
set_option linter.unusedSimpArgs false
def Go_ (c : CT) (_ : Int) (ps : List PT) : PT := nodeP c ps
def mx63 : Int := 9223372036854775807
def liftN (f b d n : Int) : Int := if d ≤ n ∧ f ≤ n - d then max (min (n + b) 9223372036854775807) d else n
def PT.lift (f b : Int) : PT → Int → PT
 | .var n, d => .var (liftN f b d n)
 | .two k p q, d => .two k (p.lift f b d) (q.lift f b (d + if k = 3 ∨ k = 4 then 1 else 0))
 | .lt p q r, d => .lt (p.lift f b d) (q.lift f b d) (r.lift f b (d + 1))
 | .sort o, _ => .sort o
 | .cst s os, _ => .cst s os
 | .odd k, _ => .odd k
def Gl (f b : Int) (c : CT) (d : Int) (ps : List PT) : PT := match c with
 | .var n _ => .var (liftN f b d n)
 | c => nodeP c ps
def PT.put (v : PT) : PT → Int → PT
 | .var n, d => if n = d then v.lift 0 d 0 else .var (if d < n then n - 1 else n)
 | .two k p q, d => .two k (PT.put v p d) (PT.put v q (d + if k = 3 ∨ k = 4 then 1 else 0))
 | .lt p q r, d => .lt (PT.put v p d) (PT.put v q d) (PT.put v r (d + 1))
 | .sort o, _ => .sort o
 | .cst s os, _ => .cst s os
 | .odd k, _ => .odd k
def Gp (v : PT) (c : CT) (d : Int) (ps : List PT) : PT := match c with
 | .var n _ => if n = d then v.lift 0 d 0 else .var (if d < n then n - 1 else n)
 | c => nodeP c ps
theorem RKE.valid {W : World} {A : Nat → Prop} {v : Value} {ps : List PT} : RKE W A v ps → RKE W (fun k => A k ∧ k < W.heap.size) v ps := fun ⟨xs, h1, h2, h3⟩ => ⟨xs, h1.lt, h2, fun i x c e1 e2 => (h3 i x c e1 e2).valid⟩
end Go.Proofs.Ytmkjhdiepkpdoaa

namespace Go.Proofs.Ytmkjhdiepkpdoaa
open Go.RowKit Go.Shelf
set_option linter.unusedVariables false
set_option linter.unusedSimpArgs false
theorem Room.k2 {W W' : World} {br a b : Nat} (h : Room W br) (hK : Ktw a b W W') (hb : br ≠ a ∧ br ≠ b) : Room W' br := let ⟨r, h1, h2⟩ := h; ⟨r, h1.k2 hK hb, h2⟩
/-- Terms, one behind the other. -/
def QT (W : World) (A : Nat → Prop) (zs : List C8) (ps : List PT) : Prop := zs.length = ps.length ∧ ∀ (j : Nat) z p, zs[j]? = some z → ps[j]? = some p → RE W A p z
section
variable {W W' : World} {A B : Nat → Prop} {zs : List C8} {ps : List PT}
theorem QT.nil : QT W A [] [] := ⟨rfl, fun j z p h => by simp at h⟩
theorem QT.mono (h : QT W A zs ps) (hm : ∀ k, A k → B k) : QT W B zs ps := ⟨h.1, fun j z p h1 h2 => (h.2 j z p h1 h2).mono hm⟩
theorem QT.keep (h : QT W A zs ps) (hs : W.heap.size ≤ W'.heap.size) (hk : ∀ k, A k → k < W.heap.size → W'.heap[k]? = W.heap[k]?) : QT W' A zs ps := ⟨h.1, fun j z p h1 h2 => RE.keep hs hk (h.2 j z p h1 h2)⟩
theorem QT.below (h : QT W A zs ps) (hB : Below W.heap.size W W') : QT W' A zs ps := h.keep hB.size fun k _ hk => hB.block k hk
theorem QT.only {c : Nat} (h : QT W A zs ps) (o : Only c W W') (hc : ∀ k, A k → k ≠ c) : QT W' A zs ps := h.keep (Nat.le_of_eq o.size.symm) fun k ha _ => o.block k (hc k ha)
theorem QT.k2 {a b : Nat} (h : QT W A zs ps) (hK : Ktw a b W W') (hc : ∀ k, A k → k ≠ a ∧ k ≠ b) : QT W' A zs ps := h.keep hK.size fun k ha hk => hK.block k hk (hc k ha)
end
/-- RE, by another name. -/
def REx (W : World) (A : Nat → Prop) (p : PT) (x : C8) : Prop := RE W A p x
section
variable {W W' : World} {A B : Nat → Prop} {p : PT} {x : C8}
theorem REx.below (h : REx W A p x) (hB : Below W.heap.size W W') : REx W' A p x := RE.below h hB
theorem REx.only {c : Nat} (h : REx W A p x) (o : Only c W W') (hc : ∀ k, A k → k ≠ c) : REx W' A p x := RE.only h o (fun ha => hc c ha rfl)
theorem REx.k2 {a b : Nat} (h : REx W A p x) (hK : Ktw a b W W') (hc : ∀ k, A k → k ≠ a ∧ k ≠ b) : REx W' A p x := RE.k2 h hK (fun ha => (hc a ha).1 rfl) (fun hb => (hc b hb).2 rfl)
end
def plc (o p : Int × Int) : Int × Int := (o.1 + p.1, if 0 < p.1 then max o.2 (p.2 + 1) else o.2)
def Gpl (c : CT) (d : Int) (ps : List (Int × Int)) : Int × Int := if c.isV d then (1, 1) else ps.foldl plc (0, 0)
end Go.Proofs.Ytmkjhdiepkpdoaa

namespace Go.Proofs.Ytmkjhdiepkpdoaa
set_option maxRecDepth 100000
set_option maxHeartbeats 1600000
open Go.RowKit Go.Shelf
set_option linter.unusedVariables false
set_option linter.unusedSimpArgs false
theorem RC.bel {w0 w : World} {c : CT} {x : C8} (h : RC w0 (fun k => k < w0.heap.size) c x) (hB : Below w0.heap.size w0 w) : RC w (fun k => k < w.heap.size) c x :=
 (h.keep hB.size (fun k hk _ => hB.block k hk)).mono (fun k hk => by have := hB.size; omega)
theorem PT.size_pos (p : PT) : 0 < p.size := by cases p <;> simp [PT.size]
theorem PT.dep_pos (p : PT) : 0 < p.dep := by cases p <;> simp [PT.dep]
def PT.ok (p : PT) : Prop := p.size ≤ 20000 ∧ p.dep ≤ 2000
instance (p : PT) : Decidable p.ok := inferInstanceAs (Decidable (_ ∧ _))
/-- What it is asked ahead of putting in. -/
def holdsP (n dp vn vd cnt pd : Int) : Prop := n + cnt * (vn - 1) ≤ 20000 ∧ (if 0 < cnt then max dp (pd + vd - 1) else dp) ≤ 2000
instance (n dp vn vd cnt pd : Int) : Decidable (holdsP n dp vn vd cnt pd) := inferInstanceAs (Decidable (_ ∧ _))
theorem isGreat66 (c : CT) (x : C8) (w0 : World) (hx : RC w0 (fun k => k < w0.heap.size) c x) : Calls Try.prog 50 #[tv x] w0 fun e w' => e = .returned (.bool (decide (¬ c.ok))) ∧ Below w0.heap.size w0 w' := by
 have hB := Below.refl w0.heap.size w0
 have sB := hB.size
 refine calls_fs 12 [(0, tv x)] Try.func50 rfl rfl rfl rfl rfl fun a F => ?_
 refine wp_rs fun _ K1 => ?_
 refine s_box (tc x) F (by decide) rfl rfl fun w2 b1 a eb1 m1 B3 zb1 F => ?_
 have sB3 := B3.size
 have hB := bt hB B3
 refine F.sg rfl fun a F => ?_
 refine s_end (K1 _ _ ?_)
 refine wp_rs fun _ K2 => F.vl (x_ldW wide27 m1 rfl rfl) fun a F => ?_
 refine s_callB [_] F E46 rfl (by decide) (measure62 c x w2 (hx.bel hB)) fun w4 a B5 F => ?_
 have sB5 := B5.size
 have hB := bt hB B5
 refine F.mv rfl fun a F => F.vl (x_ext rfl rfl) fun a F => F.vl (x_ext rfl rfl) fun a F => ?_
 refine s_alloc F (by decide) zero70 fun w6 b3 a eb3 m3 B7 zb3 F => ?_
 have sB7 := B7.size
 have hB := bt hB B7
 refine s_putW F rfl rfl (size_wide wide70) m3 rfl (oneII _ _) fun w10 m3 o11 => ?_
 have so11 := o11.size
 have hB := hB.trans (o11.below (by omega))
 refine F.sg rfl fun a F => ?_
 refine s_end (K2 _ _ ?_)
 refine wp_rs fun _ K3 => F.mv rfl fun a F => F.vl (x_not rfl) fun a F => F.sg rfl fun a F => ?_
 refine s_end (K3 _ _ ?_)
 refine wp_ret (res_slot F rfl rfl ⟨by rw [decide_not], hB⟩)
end Go.Proofs.Ytmkjhdiepkpdoaa

namespace Go.Proofs.Ytmkjhdiepkpdoaa
open Go.RowKit Go.Shelf
set_option linter.unusedVariables false
set_option linter.unusedSimpArgs false
/-- x reads as a term that says p. -/
def RT (W : World) (p : PT) (x : C8) : Prop := RE W (fun k => k < W.heap.size) p x
theorem RE.rt {W : World} {A : Nat → Prop} {p : PT} {x : C8} (h : RE W A p x) : RT W p x := h.valid.mono (fun k hk => hk.2)
theorem RT.below {W W' : World} {p : PT} {x : C8} (h : RT W p x) (hB : Below W.heap.size W W') : RT W' p x := (RE.below h hB).rt
def PT.inst (t v : PT) : PT := if t.ok ∧ v.ok ∧ (PT.put v t 0).ok then PT.put v t 0 else .odd 0
def cut20 (b : Int) : Int := min (max b (-1048576)) 1048576
def PT.Lift (t : PT) (f b : Int) : PT := if t.ok then t.lift (max f 0) (cut20 b) 0 else .odd 0
end Go.Proofs.Ytmkjhdiepkpdoaa

namespace Go.Proofs.Ytmkjhdiepkpdoaa
open Go.RowKit Go.Shelf
set_option linter.unusedVariables false
set_option linter.unusedSimpArgs false
def PT.apps (f : PT) (xs : List PT) : PT := xs.foldl (fun t a => .two 6 t a) f
def PT.appsR (f : PT) (xs : List PT) : PT := if (PT.apps f xs).ok then PT.apps f xs else .odd 0
end Go.Proofs.Ytmkjhdiepkpdoaa

namespace Go.Proofs.Ytmkjhdiepkpdoaa
open Go.RowKit Go.Shelf
set_option linter.unusedVariables false
set_option linter.unusedSimpArgs false
abbrev sA : ByteArray := ByteArray.mk #[97]
abbrev sC : ByteArray := ByteArray.mk #[99]
end Go.Proofs.Ytmkjhdiepkpdoaa

namespace Go.Proofs.Ytmkjhdiepkpdoaa
open Go.RowKit Go.Shelf
set_option linter.unusedVariables false
set_option linter.unusedSimpArgs false
def letC (c : UInt8) : Prop := 97 ≤ c.toNat ∧ c.toNat ≤ 122
def othC (c : UInt8) : Prop := (48 ≤ c.toNat ∧ c.toNat ≤ 57) ∨ c.toNat = 95 ∨ c.toNat = 46
def okAt (l : List UInt8) (i : Nat) : Prop := ∀ c, l[i]? = some c → letC c ∨ (i ≠ 0 ∧ othC c)
def nameP (l : List UInt8) : Prop := (∀ i, okAt l i) ∧ 1 ≤ l.length ∧ l.length ≤ 32
noncomputable def nameB (s : ByteArray) : Bool := @decide (nameP s.data.toList) (Classical.propDecidable _)
theorem nameB_true {s : ByteArray} : nameB s = true ↔ nameP s.data.toList := by unfold nameB; exact @decide_eq_true_iff _ (Classical.propDecidable _)
theorem nameB_of {s : ByteArray} {b : Bool} (h : b = true ↔ nameP s.data.toList) : nameB s = b := by
 rw [Bool.eq_iff_iff, nameB_true, h]
theorem size_list (s : ByteArray) : s.data.toList.length = s.size := by simp
/-- No name and no list of levels is longer than may be. -/
def CT.fit : CT → Prop
 | .cst s ls _ => s.size ≤ 9223372036854775807 ∧ ls.length ≤ 9223372036854775807
 | .two _ a b _ => a.fit ∧ b.fit
 | .lt a b c _ => a.fit ∧ b.fit ∧ c.fit
 | _ => True
theorem CT.fit_kid : ∀ {c k : CT} {i : Nat}, c.fit → c.kids[i]? = some k → k.fit
 | .two _ a b _, k, i, h, hk => by
  rcases i with _ | _ | i
  ·
   simp [CT.kids] at hk; subst hk; exact h.1
  ·
   simp [CT.kids] at hk; subst hk; exact h.2
  ·
   simp [CT.kids] at hk
 | .lt a b c _, k, i, h, hk => by
  rcases i with _ | _ | _ | i
  ·
   simp [CT.kids] at hk; subst hk; exact h.1
  ·
   simp [CT.kids] at hk; subst hk; exact h.2.1
  ·
   simp [CT.kids] at hk; subst hk; exact h.2.2
  ·
   simp [CT.kids] at hk
 | .var .., k, i, h, hk => by simp [CT.kids] at hk
 | .sort .., k, i, h, hk => by simp [CT.kids] at hk
 | .cst .., k, i, h, hk => by simp [CT.kids] at hk
 | .odd .., k, i, h, hk => by simp [CT.kids] at hk
def fstErr (vars : Int) : List Lv → Int
 | [] => 0
 | l :: ls => if (chk 32 1048576 vars 1 100 l).1 ≠ 0 then (chk 32 1048576 vars 1 100 l).1 else fstErr vars ls
noncomputable def leafErr (vars : Int) : CT → Int
 | .var n _ => if n < 0 ∨ 1048576 < n then 1 else 0
 | .sort l _ => (chk 32 1048576 vars 1 100 l).1
 | .cst s ls _ => if nameB s = false then 8 else if 6 < ls.length then 2 else fstErr vars ls
 | _ => 0
noncomputable def nodeErr (vars d : Int) (n : Nat) (c : CT) : Int := if 64 < d ∨ 400 < n then 2 else if arT c.kd < 0 ∨ (c.len : Int) ≠ arT c.kd then 1 else leafErr vars c
noncomputable def CT.mayT (vars : Int) : CT → Int → Nat → Int × Nat
 | .two k a b m, d, n => if nodeErr vars d (n + 1) (.two k a b m) ≠ 0 then (nodeErr vars d (n + 1) (.two k a b m), n + 1) else
  if (a.mayT vars (d + 1) (n + 1)).1 ≠ 0 then a.mayT vars (d + 1) (n + 1) else b.mayT vars (d + 1) (a.mayT vars (d + 1) (n + 1)).2
 | .lt a b c m, d, n => if nodeErr vars d (n + 1) (.lt a b c m) ≠ 0 then (nodeErr vars d (n + 1) (.lt a b c m), n + 1) else
  if (a.mayT vars (d + 1) (n + 1)).1 ≠ 0 then a.mayT vars (d + 1) (n + 1) else
  if (b.mayT vars (d + 1) (a.mayT vars (d + 1) (n + 1)).2).1 ≠ 0 then b.mayT vars (d + 1) (a.mayT vars (d + 1) (n + 1)).2 else c.mayT vars (d + 1) (b.mayT vars (d + 1) (a.mayT vars (d + 1) (n + 1)).2).2
 | .var z m, d, n => (nodeErr vars d (n + 1) (.var z m), n + 1)
 | .sort l m, d, n => (nodeErr vars d (n + 1) (.sort l m), n + 1)
 | .cst s ls m, d, n => (nodeErr vars d (n + 1) (.cst s ls m), n + 1)
 | .odd k m, d, n => (nodeErr vars d (n + 1) (.odd k m), n + 1)
noncomputable def mayK (vars : Int) : List CT → Int → Nat → Int × Nat
 | [], _, n => (0, n)
 | k :: ks, d, n => if (k.mayT vars d n).1 ≠ 0 then k.mayT vars d n else mayK vars ks d (k.mayT vars d n).2
theorem nodeErr_two {vars d : Int} {n : Nat} {c : CT} (h : 64 < d ∨ 400 < n) : nodeErr vars d n c = 2 := if_pos h
theorem nodeErr_leaf {vars d : Int} {n : Nat} {c : CT} (h : ¬ (64 < d ∨ 400 < n)) (h2 : ¬ (arT c.kd < 0 ∨ (c.len : Int) ≠ arT c.kd)) : nodeErr vars d n c = leafErr vars c := by unfold nodeErr; rw [if_neg h, if_neg h2]
theorem leafErr_rest {W : World} {A : Nat → Prop} {vars : Int} : ∀ {c : CT} {x : C8}, RC W A c x → (x.k ≠ 1 ∧ x.k ≠ 2 ∧ x.k ≠ 7) → leafErr vars c = 0
 | .var .., x, h, hk => by have := h.1; omega
 | .sort .., x, h, hk => by have := h.1; omega
 | .cst .., x, h, hk => by have := h.1; omega
 | .odd .., x, h, hk => rfl
 | .two .., x, h, hk => rfl
 | .lt .., x, h, hk => rfl
/-- What passes. -/
def CT.okV (vars : Int) : CT → Prop
 | .var n _ => 0 ≤ n ∧ n ≤ 1048576
 | .sort l _ => (chk 32 1048576 vars 1 100 l).1 = 0
 | .cst _ ls _ => ls.length ≤ 6 ∧ ∀ l ∈ ls, (chk 32 1048576 vars 1 100 l).1 = 0
 | .odd .. => False
 | .two _ a b _ => a.okV vars ∧ b.okV vars
 | .lt a b c _ => a.okV vars ∧ b.okV vars ∧ c.okV vars
theorem fstErr_zero {vars : Int} : ∀ {ls : List Lv}, fstErr vars ls = 0 → ∀ l ∈ ls, (chk 32 1048576 vars 1 100 l).1 = 0
 | [], _, l, h => by cases h
 | l' :: ls, h, l, hl => by
  unfold fstErr at h
  split at h
  ·
   next h2 => exact absurd h h2
  ·
   next h2 =>
   rcases List.mem_cons.1 hl with rfl | hl
   ·
    omega
   ·
    exact fstErr_zero h l hl
theorem nodeErr_zero {vars d : Int} {n : Nat} {c : CT} (h : nodeErr vars d n c = 0) : d ≤ 64 ∧ n ≤ 400 ∧ ¬ (arT c.kd < 0 ∨ (c.len : Int) ≠ arT c.kd) ∧ leafErr vars c = 0 := by
 unfold nodeErr at h
 split at h
 ·
  omega
 ·
  split at h
  ·
   omega
  ·
   exact ⟨by omega, by omega, by assumption, h⟩
theorem may_zero {W : World} {A : Nat → Prop} {vars : Int} : ∀ (c : CT) (x : C8) (d : Int) (n : Nat), RC W A c x → (c.mayT vars d n).1 = 0 → c.okV vars ∧ (c.mayT vars d n).2 = n + c.size ∧ n + c.size ≤ 400 ∧ d + c.dep ≤ 65
 | .two k a b m, x, d, n, hx, h => by
  obtain ⟨_, _, ⟨y, z, cs, _, ha, hb⟩, _⟩ := hx
  simp only [CT.mayT] at h ⊢
  split at h
  ·
   next h1 => exact absurd h h1
  ·
   next h1 =>
   rw [if_neg h1]
   have h0 := nodeErr_zero (show nodeErr vars d (n + 1) (.two k a b m) = 0 by omega)
   split at h
   ·
    next h2 => exact absurd h h2
   ·
    next h2 =>
    rw [if_neg h2]
    obtain ⟨a1, a2, a3, a4⟩ := may_zero (vars := vars) a y (d + 1) (n + 1) ha (by omega)
    obtain ⟨b1, b2, b3, b4⟩ := may_zero (vars := vars) b z (d + 1) (a.mayT vars (d + 1) (n + 1)).2 hb h
    refine ⟨⟨a1, b1⟩, ?_, ?_, ?_⟩
    ·
     rw [b2, a2]; simp only [CT.size]; omega
    ·
     rw [a2] at b3; simp only [CT.size]; omega
    ·
     simp only [CT.dep]; omega
 | .lt a b c m, x, d, n, hx, h => by
  obtain ⟨_, ⟨y, z, u, cs, _, ha, hb, hc⟩, _⟩ := hx
  simp only [CT.mayT] at h ⊢
  split at h
  ·
   next h1 => exact absurd h h1
  ·
   next h1 =>
   rw [if_neg h1]
   have h0 := nodeErr_zero (show nodeErr vars d (n + 1) (.lt a b c m) = 0 by omega)
   split at h
   ·
    next h2 => exact absurd h h2
   ·
    next h2 =>
    rw [if_neg h2]
    split at h
    ·
     next h3 => exact absurd h h3
    ·
     next h3 =>
     rw [if_neg h3]
     obtain ⟨a1, a2, a3, a4⟩ := may_zero (vars := vars) a y (d + 1) (n + 1) ha (by omega)
     obtain ⟨b1, b2, b3, b4⟩ := may_zero (vars := vars) b z (d + 1) (a.mayT vars (d + 1) (n + 1)).2 hb (by omega)
     obtain ⟨c1, c2, c3, c4⟩ := may_zero (vars := vars) c u (d + 1) (b.mayT vars (d + 1) (a.mayT vars (d + 1) (n + 1)).2).2 hc h
     refine ⟨⟨a1, b1, c1⟩, ?_, ?_, ?_⟩
     ·
      rw [c2, b2, a2]; simp only [CT.size]; omega
     ·
      rw [b2, a2] at c3; simp only [CT.size]; omega
     ·
      simp only [CT.dep]; omega
 | .var z m, x, d, n, hx, h => by
  obtain ⟨h1, h2, h3, h4⟩ := nodeErr_zero h
  refine ⟨?_, rfl, h2, by simp only [CT.dep]; omega⟩
  simp only [leafErr] at h4
  simp only [CT.okV]
  split at h4 <;> omega
 | .sort l m, x, d, n, hx, h => by
  obtain ⟨h1, h2, h3, h4⟩ := nodeErr_zero h
  exact ⟨h4, rfl, h2, by simp only [CT.dep]; omega⟩
 | .cst s ls m, x, d, n, hx, h => by
  obtain ⟨h1, h2, h3, h4⟩ := nodeErr_zero h
  refine ⟨?_, rfl, h2, by simp only [CT.dep]; omega⟩
  simp only [leafErr] at h4
  split at h4
  ·
   omega
  ·
   split at h4
   ·
    omega
   ·
    exact ⟨by omega, fstErr_zero h4⟩
 | .odd k m, x, d, n, hx, h => by
  obtain ⟨h1, h2, h3, h4⟩ := nodeErr_zero h
  have := hx.2.1
  simp only [CT.kd, CT.len] at h3
  omega
end Go.Proofs.Ytmkjhdiepkpdoaa

namespace Go.Proofs.Ytmkjhdiepkpdoaa
open Go.RowKit Go.Shelf
set_option linter.unusedVariables false
set_option linter.unusedSimpArgs false
theorem fstErr_at {vars : Int} {ls : List Lv} {i : Nat} {l : Lv} (h : ls[i]? = some l) : fstErr vars (ls.drop i) = if (chk 32 1048576 vars 1 100 l).1 ≠ 0 then (chk 32 1048576 vars 1 100 l).1 else fstErr vars (ls.drop (i + 1)) := by
 have hi : i < ls.length := (List.getElem?_eq_some_iff.1 h).1
 have : ls[i] = l := (List.getElem?_eq_some_iff.1 h).2
 rw [← List.getElem_cons_drop hi, this, fstErr]
end Go.Proofs.Ytmkjhdiepkpdoaa

namespace Go.Proofs.Ytmkjhdiepkpdoaa
open Go.RowKit Go.Shelf
set_option linter.unusedVariables false
set_option linter.unusedSimpArgs false
/-- What whole lets pass. -/
def CT.wf (c : CT) : Prop := c.okV 6 ∧ c.size ≤ 400 ∧ c.dep ≤ 64
theorem CT.wf.ok {c : CT} (h : c.wf) : c.ok := ⟨by have := h.2.1; omega, by have := h.2.2; omega⟩
def PT.loose : PT → Int → Int
 | .var n, d => if d ≤ n then min (n - d + 1) 9223372036854775807 else 0
 | .two k p q, d => max (p.loose d) (q.loose (d + if k = 3 ∨ k = 4 then 1 else 0))
 | .lt p q r, d => max (p.loose d) (max (q.loose d) (r.loose (d + 1)))
 | .sort _, _ => 0
 | .cst _ _, _ => 0
 | .odd _, _ => 0
def mostL (ps : List Int) : Int := if ps.length = 0 then 0 else mxl ps
def Glo (c : CT) (d : Int) (ps : List Int) : Int := match c with
 | .var n _ => if d ≤ n then min (n - d + 1) 9223372036854775807 else 0
 | _ => mostL ps
def CT.looseR (c : CT) : Int := if c.ok then c.ess.loose 0 else 0
end Go.Proofs.Ytmkjhdiepkpdoaa

namespace Go.Proofs.Ytmkjhdiepkpdoaa
set_option maxRecDepth 100000
set_option maxHeartbeats 1600000
open Go.RowKit Go.Shelf
set_option linter.unusedVariables false
set_option linter.unusedSimpArgs false
def letB (q : UInt8) : Bool := decide (97 ≤ q.toNat ∧ q.toNat ≤ 122)
theorem ok_byte {l : List UInt8} {i : Nat} {q : UInt8} (hq : l[i]? = some q) (h0 : i = 0 → letC q) (h : letC q ∨ othC q) : okAt l i := fun c hc => by
 rw [hq] at hc; cases hc
 rcases Nat.eq_zero_or_pos i with hi | hi
 ·
  exact .inl (h0 hi)
 ·
  rcases h with h | h
  ·
   exact .inl h
  ·
   exact .inr ⟨by omega, h⟩
theorem letB_iff {q : UInt8} : letB q = true ↔ letC q := by unfold letB letC; simp
theorem isLetter74 (q : UInt8) (w0 : World) : Calls Try.prog 114 #[.int .u8 (q.toNat : Int)] w0 fun e w' => e = .returned (.bool (letB q)) ∧ w' = w0 := by
 refine calls_fs 9 [(0, .int .u8 (q.toNat : Int))] Try.func114 rfl rfl rfl rfl rfl fun a F => ?_
 refine wp_rs fun _ K1 => F.sg rfl fun a F => ?_
 refine s_end (K1 _ _ ?_)
 rcases (show (97 ≤ (q.toNat : Int) ∧ (q.toNat : Int) ≤ 122) ∨ (97 ≤ (q.toNat : Int) ∧ ¬ (q.toNat : Int) ≤ 122) ∨ ¬ 97 ≤ (q.toNat : Int) by omega) with hz | hz | hz
 ·
  have hr : letB q = true := decide_eq_true (by omega)
  refine wp_rs fun _ K3 => F.mv rfl fun a F => F.vl (leqT (by omega) rfl rfl) fun a F => F.mv rfl fun a F => s_grd 5 F rfl rfl rfl <| F.mv rfl fun a F => s_grd 5 F rfl rfl rfl <| F.vl (leqT (by omega) rfl rfl) fun a F => F.vl (x_pick (b := true) rfl rfl) fun a F => F.sg rfl fun a F => ?_
  refine s_end (K3 _ _ ?_)
  refine wp_ret (res_slot F rfl rfl ⟨by rw [hr], rfl⟩)
 ·
  have hr : letB q = false := decide_eq_false (by omega)
  refine wp_rs fun _ K4 => F.mv rfl fun a F => F.vl (leqT (by omega) rfl rfl) fun a F => F.mv rfl fun a F => s_grd 5 F rfl rfl rfl <| F.mv rfl fun a F => s_grd 5 F rfl rfl rfl <| F.vl (leqF (by omega) rfl rfl) fun a F => F.vl (x_pick (b := true) rfl rfl) fun a F => F.sg rfl fun a F => ?_
  refine s_end (K4 _ _ ?_)
  refine wp_ret (res_slot F rfl rfl ⟨by rw [hr], rfl⟩)
 ·
  have hr : letB q = false := decide_eq_false (by omega)
  refine wp_rs fun _ K5 => F.mv rfl fun a F => F.vl (leqF (by omega) rfl rfl) fun a F => F.mv rfl fun a F => s_grdn 5 F rfl rfl (by decide) fun a F => s_grdn 5 F rfl rfl (by decide) fun a F => F.vl (x_pick (b := false) rfl rfl) fun a F => F.sg rfl fun a F => ?_
  refine s_end (K5 _ _ ?_)
  refine wp_ret (res_slot F rfl rfl ⟨by rw [hr], rfl⟩)
theorem Name31 (s : ByteArray) (w0 : World) (hs : s.size ≤ 9223372036854775807) : Calls Try.prog 69 #[.string s] w0 fun e w' => e = .returned (.bool (nameB s)) ∧ w' = w0 := by
 refine calls_fs 47 [(0, .string s)] Try.func69 rfl rfl rfl rfl rfl fun a F => ?_
 refine wp_rs fun _ K1 => F.sg rfl fun a F => ?_
 refine s_end (K1 _ _ ?_)
 refine wp_seq_k fun _ K2 => ?_
 rcases (show (s.size : Int) = 0 ∨ (¬ (s.size : Int) = 0 ∧ 32 < (s.size : Int)) ∨ (¬ (s.size : Int) = 0 ∧ ¬ 32 < (s.size : Int) ∧ (∃ q0, s.data.toList[0]? = some q0 ∧ letB q0 = true)) ∨ (¬ (s.size : Int) = 0 ∧ ¬ 32 < (s.size : Int) ∧ (∃ q0, s.data.toList[0]? = some q0 ∧ letB q0 = false)) by
  rcases (show (s.size : Int) = 0 ∨ (¬ (s.size : Int) = 0 ∧ 32 < (s.size : Int)) ∨ (¬ (s.size : Int) = 0 ∧ ¬ 32 < (s.size : Int)) by omega) with hz | hz | hz
  ·
   exact .inl hz
  ·
   exact .inr (.inl hz)
  ·
   obtain ⟨q0, hq0⟩ : ∃ q0, s.data.toList[0]? = some q0 := ⟨_, List.getElem?_eq_getElem (by rw [size_list]; omega)⟩
   cases hb : letB q0
   ·
    exact .inr (.inr (.inr ⟨hz.1, hz.2, q0, hq0, hb⟩))
   ·
    exact .inr (.inr (.inl ⟨hz.1, hz.2, q0, hq0, hb⟩))) with hz | hz | ⟨hz1, hz2, q0, hq0, hw⟩ | ⟨hz1, hz2, q0, hq0, hw⟩
 ·
  have hres : nameB s = false := nameB_of ⟨fun h => absurd h (by decide), fun h => by have h1 := h.2.1; rw [size_list] at h1; omega⟩
  refine wp_rs fun _ K4 => F.mv rfl fun a F => F.vl (x_lenS Try.underlying9 rfl) fun a F => F.vl (eqlT (by omega) rfl rfl) fun a F => F.mv rfl fun a F => s_grdn 8 F rfl rfl (by decide) fun a F => s_grdn 8 F rfl rfl (by decide) fun a F => s_grdn 8 F rfl rfl (by decide) fun a F => F.vl (x_pick (b := true) rfl rfl) fun a F => F.mv rfl fun a F => s_grdn 13 F rfl rfl (by decide) fun a F => s_grdn 13 F rfl rfl (by decide) fun a F => s_grdn 13 F rfl rfl (by decide) fun a F => s_grdn 13 F rfl rfl (by decide) fun a F => F.vl (x_pick (b := true) rfl rfl) fun a F => ?_
  refine s_end (K4 _ _ ?_)
  refine wp_if F rfl ?_
  refine wp_rs fun _ K5 => F.sg rfl fun a F => ?_
  refine s_end (K5 _ _ ?_)
  refine wp_ret (then_ret (res_slot F rfl rfl ⟨by rw [hres], rfl⟩))
 ·
  have hres : nameB s = false := nameB_of ⟨fun h => absurd h (by decide), fun h => by have h1 := h.2.2; rw [size_list] at h1; omega⟩
  refine wp_rs fun _ K6 => F.mv rfl fun a F => F.vl (x_lenS Try.underlying9 rfl) fun a F => F.vl (eqlF (by omega) rfl rfl) fun a F => F.mv rfl fun a F => s_grd 8 F rfl rfl rfl <| F.mv rfl fun a F => s_grd 8 F rfl rfl rfl <| F.vl (x_lenS Try.underlying9 rfl) fun a F => s_grd 8 F rfl rfl rfl <| F.vl (gtrT (by omega) rfl rfl) fun a F => F.vl (x_pick (b := false) rfl rfl) fun a F => F.mv rfl fun a F => s_grdn 13 F rfl rfl (by decide) fun a F => s_grdn 13 F rfl rfl (by decide) fun a F => s_grdn 13 F rfl rfl (by decide) fun a F => s_grdn 13 F rfl rfl (by decide) fun a F => F.vl (x_pick (b := true) rfl rfl) fun a F => ?_
  refine s_end (K6 _ _ ?_)
  refine wp_if F rfl ?_
  refine wp_rs fun _ K7 => F.sg rfl fun a F => ?_
  refine s_end (K7 _ _ ?_)
  refine wp_ret (then_ret (res_slot F rfl rfl ⟨by rw [hres], rfl⟩))
 ·
  skip
  refine wp_rs fun _ K8 => F.mv rfl fun a F => F.vl (x_lenS Try.underlying9 rfl) fun a F => F.vl (eqlF (by omega) rfl rfl) fun a F => F.mv rfl fun a F => s_grd 8 F rfl rfl rfl <| F.mv rfl fun a F => s_grd 8 F rfl rfl rfl <| F.vl (x_lenS Try.underlying9 rfl) fun a F => s_grd 8 F rfl rfl rfl <| F.vl (gtrF (by omega) rfl rfl) fun a F => F.vl (x_pick (b := false) rfl rfl) fun a F => F.mv rfl fun a F => s_grd 13 F rfl rfl rfl <| F.mv rfl fun a F => s_grd 13 F rfl rfl rfl <| F.vl (x_ix rfl rfl (m_ixstr 0 Try.underlying9 rfl hq0)) fun a F => s_grd 13 F rfl rfl rfl ?_
  refine s_callS [_] F E114 rfl (by decide) ((isLetter74 q0 w0).mono fun e w' h => ⟨by rw [h.1, hw], h.2⟩) fun a F => ?_
  refine s_grd 13 F rfl rfl rfl <| F.vl (x_not rfl) fun a F => F.vl (x_pick (b := false) rfl rfl) fun a F => ?_
  refine s_end (K8 _ _ ?_)
  refine wp_if F rfl ?_
  refine wp_skip (K2 _ _ ?_)
  refine wp_seq_k fun _ K9 => ?_
  refine wp_rs fun _ K10 => F.mv rfl fun a F => F.vl (x_lenS Try.underlying9 rfl) fun a F => F.mv rfl fun a F => ?_
  refine s_end (K10 _ _ ?_)
  refine wp_block ?_
  refine wp_up s.size (fun i a w => w = w0 ∧ (∀ j, j < i → okAt s.data.toList j) ∧ Fs 47 a [(0, .string s), (20, .int .i64 (s.size : Int)), (21, .int .i64 (i : Int))]) ⟨rfl, (fun j h => absurd h (by omega)), F.sub _ rfl⟩ ?_
  clear F
  rintro i a w hi ⟨hw, hok, F⟩ K' hK'
  subst hw
  refine wp_rs fun _ K11 => F.vl (x_lss (b := decide (i < s.size)) (decide_eq_decide.2 (by omega)) rfl rfl) fun a F => ?_
  refine s_end (K11 _ _ ?_)
  refine wp_seq_k fun _ K12 => ?_
  refine wp_iff F rfl (fun hc22 => ?_) (fun hc22 => ?_)
  ·
   obtain ⟨q, hq⟩ : ∃ q, s.data.toList[i]? = some q := ⟨_, List.getElem?_eq_getElem (by rw [size_list]; omega)⟩
   refine wp_skip (K12 _ _ ?_)
   refine wp_seq_k fun _ K13 => ?_
   refine wp_block ?_
   refine wp_rs fun _ K14 => F.mv rfl fun a F => F.sg rfl fun a F => ?_
   refine s_end (K14 _ _ ?_)
   refine wp_rs fun _ K15 => F.mv rfl fun a F => F.mv rfl fun a F => F.vl (x_ix rfl rfl (m_ixstr i Try.underlying9 rfl hq)) fun a F => F.sg rfl fun a F => ?_
   refine s_end (K15 _ _ ?_)
   rcases (show (97 ≤ (q.toNat : Int) ∧ (q.toNat : Int) ≤ 122) ∨ (¬ (97 ≤ (q.toNat : Int) ∧ (q.toNat : Int) ≤ 122) ∧ (q.toNat : Int) < 48 ∧ (q.toNat : Int) ≠ 46) ∨ (¬ (97 ≤ (q.toNat : Int) ∧ (q.toNat : Int) ≤ 122) ∧ (q.toNat : Int) = 46) ∨ (¬ (97 ≤ (q.toNat : Int) ∧ (q.toNat : Int) ≤ 122) ∧ 57 < (q.toNat : Int) ∧ (q.toNat : Int) = 95) ∨ (¬ (97 ≤ (q.toNat : Int) ∧ (q.toNat : Int) ≤ 122) ∧ 57 < (q.toNat : Int) ∧ (q.toNat : Int) ≠ 95) ∨ (¬ (97 ≤ (q.toNat : Int) ∧ (q.toNat : Int) ≤ 122) ∧ 48 ≤ (q.toNat : Int) ∧ (q.toNat : Int) ≤ 57) by omega) with hy | hy | hy | hy | hy | hy
   ·
    have hl : letB q = true := decide_eq_true (by omega)
    have hoki : okAt s.data.toList i := ok_byte hq (fun h0 => by subst h0; rw [hq0] at hq; cases hq; exact letB_iff.1 hw) (by unfold letC othC; omega)
    refine wp_rs fun _ K17 => F.mv rfl fun a F => ?_
    refine s_callS [_] F E114 rfl (by decide) ((isLetter74 q w).mono fun e w' h => ⟨by rw [h.1, hl], h.2⟩) fun a F => ?_
    refine F.vl (x_not rfl) fun a F => F.mv rfl fun a F => s_grdn 30 F rfl rfl (by decide) fun a F => s_grdn 30 F rfl rfl (by decide) fun a F => s_grdn 30 F rfl rfl (by decide) fun a F => s_grdu 33 F rfl rfl (by decide) fun a F => s_grdu 33 F rfl rfl (by decide) fun a F => s_grdn 30 F rfl rfl (by decide) fun a F => F.vl (x_pick (b := false) rfl rfl) fun a F => F.mv rfl fun a F => s_grdn 38 F rfl rfl (by decide) fun a F => s_grdn 38 F rfl rfl (by decide) fun a F => F.vl (x_pick (b := false) rfl rfl) fun a F => F.mv rfl fun a F => s_grdn 42 F rfl rfl (by decide) fun a F => s_grdn 42 F rfl rfl (by decide) fun a F => F.vl (x_pick (b := false) rfl rfl) fun a F => ?_
    refine s_end (K17 _ _ ?_)
    refine wp_if F rfl ?_
    refine wp_skip (K13 _ _ ?_)
    refine wp_region_lit ?_
    refine F.vl (x_addn (i + 1) (by omega) (by omega) rfl rfl) fun a F => F.mv rfl fun a F => ?_
    refine s_end (hK' _ _ (by omega) ⟨rfl, (fun j hj => by rcases Nat.lt_or_ge j i with h | h; (· exact hok j h); (· rw [show j = i by omega]; exact hoki)), F.sub _ rfl⟩)
   ·
    have hl : letB q = false := decide_eq_false (by omega)
    have hres : nameB s = false := nameB_of ⟨fun h => absurd h (by decide), fun h => by have := h.1 i q hq; unfold letC othC at this; omega⟩
    refine wp_rs fun _ K18 => F.mv rfl fun a F => ?_
    refine s_callS [_] F E114 rfl (by decide) ((isLetter74 q w).mono fun e w' h => ⟨by rw [h.1, hl], h.2⟩) fun a F => ?_
    refine F.vl (x_not rfl) fun a F => F.mv rfl fun a F => s_grd 30 F rfl rfl rfl <| F.mv rfl fun a F => s_grd 30 F rfl rfl rfl <| F.vl (lssT (by omega) rfl rfl) fun a F => s_grd 30 F rfl rfl rfl <| F.mv rfl fun a F => s_grdn 33 F rfl rfl (by decide) fun a F => s_grdn 33 F rfl rfl (by decide) fun a F => s_grd 30 F rfl rfl rfl <| F.vl (x_pick (b := true) rfl rfl) fun a F => F.vl (x_pick (b := true) rfl rfl) fun a F => F.mv rfl fun a F => s_grd 38 F rfl rfl rfl <| F.mv rfl fun a F => s_grd 38 F rfl rfl rfl <| F.vl (neqT (by omega) rfl rfl) fun a F => F.vl (x_pick (b := true) rfl rfl) fun a F => F.mv rfl fun a F => s_grd 42 F rfl rfl rfl <| F.mv rfl fun a F => s_grd 42 F rfl rfl rfl <| F.vl (neqT (by omega) rfl rfl) fun a F => F.vl (x_pick (b := true) rfl rfl) fun a F => ?_
    refine s_end (K18 _ _ ?_)
    refine wp_if F rfl ?_
    refine wp_rs fun _ K19 => F.sg rfl fun a F => ?_
    refine s_end (K19 _ _ ?_)
    refine wp_ret (inb_ret (then_ret (then_ret (inb_ret (then_ret (res_slot F rfl rfl ⟨by rw [hres], rfl⟩))))))
   ·
    have hl : letB q = false := decide_eq_false (by omega)
    have hoki : okAt s.data.toList i := ok_byte hq (fun h0 => by subst h0; rw [hq0] at hq; cases hq; exact letB_iff.1 hw) (by unfold letC othC; omega)
    refine wp_rs fun _ K20 => F.mv rfl fun a F => ?_
    refine s_callS [_] F E114 rfl (by decide) ((isLetter74 q w).mono fun e w' h => ⟨by rw [h.1, hl], h.2⟩) fun a F => ?_
    refine F.vl (x_not rfl) fun a F => F.mv rfl fun a F => s_grd 30 F rfl rfl rfl <| F.mv rfl fun a F => s_grd 30 F rfl rfl rfl <| F.vl (lssT (by omega) rfl rfl) fun a F => s_grd 30 F rfl rfl rfl <| F.mv rfl fun a F => s_grdn 33 F rfl rfl (by decide) fun a F => s_grdn 33 F rfl rfl (by decide) fun a F => s_grd 30 F rfl rfl rfl <| F.vl (x_pick (b := true) rfl rfl) fun a F => F.vl (x_pick (b := true) rfl rfl) fun a F => F.mv rfl fun a F => s_grd 38 F rfl rfl rfl <| F.mv rfl fun a F => s_grd 38 F rfl rfl rfl <| F.vl (neqT (by omega) rfl rfl) fun a F => F.vl (x_pick (b := true) rfl rfl) fun a F => F.mv rfl fun a F => s_grd 42 F rfl rfl rfl <| F.mv rfl fun a F => s_grd 42 F rfl rfl rfl <| F.vl (neqF (by omega) rfl rfl) fun a F => F.vl (x_pick (b := true) rfl rfl) fun a F => ?_
    refine s_end (K20 _ _ ?_)
    refine wp_if F rfl ?_
    refine wp_skip (K13 _ _ ?_)
    refine wp_region_lit ?_
    refine F.vl (x_addn (i + 1) (by omega) (by omega) rfl rfl) fun a F => F.mv rfl fun a F => ?_
    refine s_end (hK' _ _ (by omega) ⟨rfl, (fun j hj => by rcases Nat.lt_or_ge j i with h | h; (· exact hok j h); (· rw [show j = i by omega]; exact hoki)), F.sub _ rfl⟩)
   ·
    have hl : letB q = false := decide_eq_false (by omega)
    have hoki : okAt s.data.toList i := ok_byte hq (fun h0 => by subst h0; rw [hq0] at hq; cases hq; exact letB_iff.1 hw) (by unfold letC othC; omega)
    refine wp_rs fun _ K21 => F.mv rfl fun a F => ?_
    refine s_callS [_] F E114 rfl (by decide) ((isLetter74 q w).mono fun e w' h => ⟨by rw [h.1, hl], h.2⟩) fun a F => ?_
    refine F.vl (x_not rfl) fun a F => F.mv rfl fun a F => s_grd 30 F rfl rfl rfl <| F.mv rfl fun a F => s_grd 30 F rfl rfl rfl <| F.vl (lssF (by omega) rfl rfl) fun a F => s_grd 30 F rfl rfl rfl <| F.mv rfl fun a F => s_grd 33 F rfl rfl rfl <| F.mv rfl fun a F => s_grd 33 F rfl rfl rfl <| F.vl (gtrT (by omega) rfl rfl) fun a F => s_grd 30 F rfl rfl rfl <| F.vl (x_pick (b := false) rfl rfl) fun a F => F.vl (x_pick (b := true) rfl rfl) fun a F => F.mv rfl fun a F => s_grd 38 F rfl rfl rfl <| F.mv rfl fun a F => s_grd 38 F rfl rfl rfl <| F.vl (neqF (by omega) rfl rfl) fun a F => F.vl (x_pick (b := true) rfl rfl) fun a F => F.mv rfl fun a F => s_grdn 42 F rfl rfl (by decide) fun a F => s_grdn 42 F rfl rfl (by decide) fun a F => F.vl (x_pick (b := false) rfl rfl) fun a F => ?_
    refine s_end (K21 _ _ ?_)
    refine wp_if F rfl ?_
    refine wp_skip (K13 _ _ ?_)
    refine wp_region_lit ?_
    refine F.vl (x_addn (i + 1) (by omega) (by omega) rfl rfl) fun a F => F.mv rfl fun a F => ?_
    refine s_end (hK' _ _ (by omega) ⟨rfl, (fun j hj => by rcases Nat.lt_or_ge j i with h | h; (· exact hok j h); (· rw [show j = i by omega]; exact hoki)), F.sub _ rfl⟩)
   ·
    have hl : letB q = false := decide_eq_false (by omega)
    have hres : nameB s = false := nameB_of ⟨fun h => absurd h (by decide), fun h => by have := h.1 i q hq; unfold letC othC at this; omega⟩
    refine wp_rs fun _ K22 => F.mv rfl fun a F => ?_
    refine s_callS [_] F E114 rfl (by decide) ((isLetter74 q w).mono fun e w' h => ⟨by rw [h.1, hl], h.2⟩) fun a F => ?_
    refine F.vl (x_not rfl) fun a F => F.mv rfl fun a F => s_grd 30 F rfl rfl rfl <| F.mv rfl fun a F => s_grd 30 F rfl rfl rfl <| F.vl (lssF (by omega) rfl rfl) fun a F => s_grd 30 F rfl rfl rfl <| F.mv rfl fun a F => s_grd 33 F rfl rfl rfl <| F.mv rfl fun a F => s_grd 33 F rfl rfl rfl <| F.vl (gtrT (by omega) rfl rfl) fun a F => s_grd 30 F rfl rfl rfl <| F.vl (x_pick (b := false) rfl rfl) fun a F => F.vl (x_pick (b := true) rfl rfl) fun a F => F.mv rfl fun a F => s_grd 38 F rfl rfl rfl <| F.mv rfl fun a F => s_grd 38 F rfl rfl rfl <| F.vl (neqT (by omega) rfl rfl) fun a F => F.vl (x_pick (b := true) rfl rfl) fun a F => F.mv rfl fun a F => s_grd 42 F rfl rfl rfl <| F.mv rfl fun a F => s_grd 42 F rfl rfl rfl <| F.vl (neqT (by omega) rfl rfl) fun a F => F.vl (x_pick (b := true) rfl rfl) fun a F => ?_
    refine s_end (K22 _ _ ?_)
    refine wp_if F rfl ?_
    refine wp_rs fun _ K23 => F.sg rfl fun a F => ?_
    refine s_end (K23 _ _ ?_)
    refine wp_ret (inb_ret (then_ret (then_ret (inb_ret (then_ret (res_slot F rfl rfl ⟨by rw [hres], rfl⟩))))))
   ·
    have hl : letB q = false := decide_eq_false (by omega)
    have hoki : okAt s.data.toList i := ok_byte hq (fun h0 => by subst h0; rw [hq0] at hq; cases hq; exact letB_iff.1 hw) (by unfold letC othC; omega)
    refine wp_rs fun _ K24 => F.mv rfl fun a F => ?_
    refine s_callS [_] F E114 rfl (by decide) ((isLetter74 q w).mono fun e w' h => ⟨by rw [h.1, hl], h.2⟩) fun a F => ?_
    refine F.vl (x_not rfl) fun a F => F.mv rfl fun a F => s_grd 30 F rfl rfl rfl <| F.mv rfl fun a F => s_grd 30 F rfl rfl rfl <| F.vl (lssF (by omega) rfl rfl) fun a F => s_grd 30 F rfl rfl rfl <| F.mv rfl fun a F => s_grd 33 F rfl rfl rfl <| F.mv rfl fun a F => s_grd 33 F rfl rfl rfl <| F.vl (gtrF (by omega) rfl rfl) fun a F => s_grd 30 F rfl rfl rfl <| F.vl (x_pick (b := false) rfl rfl) fun a F => F.vl (x_pick (b := true) rfl rfl) fun a F => F.mv rfl fun a F => s_grdn 38 F rfl rfl (by decide) fun a F => s_grdn 38 F rfl rfl (by decide) fun a F => F.vl (x_pick (b := false) rfl rfl) fun a F => F.mv rfl fun a F => s_grdn 42 F rfl rfl (by decide) fun a F => s_grdn 42 F rfl rfl (by decide) fun a F => F.vl (x_pick (b := false) rfl rfl) fun a F => ?_
    refine s_end (K24 _ _ ?_)
    refine wp_if F rfl ?_
    refine wp_skip (K13 _ _ ?_)
    refine wp_region_lit ?_
    refine F.vl (x_addn (i + 1) (by omega) (by omega) rfl rfl) fun a F => F.mv rfl fun a F => ?_
    refine s_end (hK' _ _ (by omega) ⟨rfl, (fun j hj => by rcases Nat.lt_or_ge j i with h | h; (· exact hok j h); (· rw [show j = i by omega]; exact hoki)), F.sub _ rfl⟩)
  ·
   obtain rfl : i = s.size := by omega
   have hall : ∀ j, okAt s.data.toList j := fun j c hc => by have hj := (List.getElem?_eq_some_iff.1 hc).1; rw [size_list] at hj; exact hok j hj c hc
   have hres : nameB s = true := nameB_of ⟨fun _ => ⟨hall, by rw [size_list]; omega, by rw [size_list]; omega⟩, fun _ => rfl⟩
   refine wp_exit (K9 _ _ ?_)
   refine wp_rs fun _ K25 => F.sg rfl fun a F => ?_
   refine s_end (K25 _ _ ?_)
   refine wp_ret (res_slot F rfl rfl ⟨by rw [hres], rfl⟩)
 ·
  have hres : nameB s = false := nameB_of ⟨fun h => absurd h (by decide), fun h => by have h1 := h.1 0 q0 hq0; rcases h1 with h1 | h1; (· rw [letB_iff.2 h1] at hw; cases hw); (· exact absurd rfl h1.1)⟩
  refine wp_rs fun _ K26 => F.mv rfl fun a F => F.vl (x_lenS Try.underlying9 rfl) fun a F => F.vl (eqlF (by omega) rfl rfl) fun a F => F.mv rfl fun a F => s_grd 8 F rfl rfl rfl <| F.mv rfl fun a F => s_grd 8 F rfl rfl rfl <| F.vl (x_lenS Try.underlying9 rfl) fun a F => s_grd 8 F rfl rfl rfl <| F.vl (gtrF (by omega) rfl rfl) fun a F => F.vl (x_pick (b := false) rfl rfl) fun a F => F.mv rfl fun a F => s_grd 13 F rfl rfl rfl <| F.mv rfl fun a F => s_grd 13 F rfl rfl rfl <| F.vl (x_ix rfl rfl (m_ixstr 0 Try.underlying9 rfl hq0)) fun a F => s_grd 13 F rfl rfl rfl ?_
  refine s_callS [_] F E114 rfl (by decide) ((isLetter74 q0 w0).mono fun e w' h => ⟨by rw [h.1, hw], h.2⟩) fun a F => ?_
  refine s_grd 13 F rfl rfl rfl <| F.vl (x_not rfl) fun a F => F.vl (x_pick (b := false) rfl rfl) fun a F => ?_
  refine s_end (K26 _ _ ?_)
  refine wp_if F rfl ?_
  refine wp_rs fun _ K27 => F.sg rfl fun a F => ?_
  refine s_end (K27 _ _ ?_)
  refine wp_ret (then_ret (res_slot F rfl rfl ⟨by rw [hres], rfl⟩))
theorem mayConst111 (vars : Int) (s : ByteArray) (ls : List Lv) (m : Nat) (x : C8) (w0 : World) (hx : RC w0 (fun k => k < w0.heap.size) (.cst s ls m) x) (hfit : s.size ≤ 9223372036854775807 ∧ ls.length ≤ 9223372036854775807) : Calls Try.prog 145 #[tv x, .int .i64 vars] w0 fun e w' => e = .returned (.int .i64 (leafErr vars (.cst s ls m))) ∧ Below w0.heap.size w0 w' := by
 obtain ⟨xk, xn, xs, xl, xls, xts⟩ := x
 have hone := hx.one
 have hs9 : xs = s := hx.2.1
 have hls9 : RVn w0 _ xls ls := hx.2.2.1
 obtain ⟨la, lcp, hlv, _, _⟩ := hls9.form
 subst hs9 hlv
 have hB := Below.refl w0.heap.size w0
 have sB := hB.size
 refine calls_fs 30 [(0, tv ⟨xk, xn, xs, xl, .slice la ls.length lcp, xts⟩), (1, .int .i64 vars)] Try.func145 rfl rfl rfl rfl rfl fun a F => ?_
 refine wp_rs fun _ K1 => ?_
 refine s_box ([.int .i64 xk, .int .i64 xn, .string xs, .int .i64 xl.1, .int .i64 xl.2.1, xl.2.2, .slice la ls.length lcp, xts]) F (by decide) rfl rfl fun w2 b2 a eb2 m2 B3 zb2 F => ?_
 have sB3 := B3.size
 have hB := bt hB B3
 refine F.sg rfl fun a F => ?_
 refine s_end (K1 _ _ ?_)
 refine wp_seq_k fun _ K2 => ?_
 rcases (show nameB xs = false ∨ nameB xs = true by cases nameB xs <;> simp) with hw | hw
 ·
  have hres : leafErr vars (.cst xs ls m) = 8 := by simp only [leafErr]; rw [if_pos hw]
  refine wp_rs fun _ K4 => F.vl (x_fa0 fa27_2 rfl) fun a F => F.ld m2 flat9 rfl rfl fun a F => ?_
  refine s_callS [_] F E69 rfl (by decide) ((Name31 xs w2 hfit.1).mono fun e w' h => ⟨by rw [h.1, hw], h.2⟩) fun a F => ?_
  refine F.vl (x_not rfl) fun a F => ?_
  refine s_end (K4 _ _ ?_)
  refine wp_if F rfl ?_
  refine wp_rs fun _ K5 => F.sg rfl fun a F => ?_
  refine s_end (K5 _ _ ?_)
  refine wp_ret (then_ret (res_slot F rfl rfl ⟨by rw [hres], hB⟩))
 ·
  skip
  refine wp_rs fun _ K6 => F.vl (x_fa0 fa27_2 rfl) fun a F => F.ld m2 flat9 rfl rfl fun a F => ?_
  refine s_callS [_] F E69 rfl (by decide) ((Name31 xs w2 hfit.1).mono fun e w' h => ⟨by rw [h.1, hw], h.2⟩) fun a F => ?_
  refine F.vl (x_not rfl) fun a F => ?_
  refine s_end (K6 _ _ ?_)
  refine wp_if F rfl ?_
  refine wp_skip (K2 _ _ ?_)
  refine wp_seq_k fun _ K7 => ?_
  rcases (show 6 < (ls.length : Int) ∨ ¬ 6 < (ls.length : Int) by omega) with hv | hv
  ·
   have hres : leafErr vars (.cst xs ls m) = 2 := by simp only [leafErr]; rw [if_neg (by rw [hw]; decide), if_pos (by omega)]
   refine wp_rs fun _ K9 => F.vl (x_fa0 fa27_4 rfl) fun a F => F.ld m2 flat22 rfl rfl fun a F => F.vl (x_len Try.underlying22 rfl) fun a F => F.vl (gtrT (by omega) rfl rfl) fun a F => ?_
   refine s_end (K9 _ _ ?_)
   refine wp_if F rfl ?_
   refine wp_rs fun _ K10 => F.sg rfl fun a F => ?_
   refine s_end (K10 _ _ ?_)
   refine wp_ret (then_ret (res_slot F rfl rfl ⟨by rw [hres], hB⟩))
  ·
   have hle0 : leafErr vars (.cst xs ls m) = fstErr vars ls := by simp only [leafErr]; rw [if_neg (by rw [hw]; decide), if_neg (by omega)]
   refine wp_rs fun _ K11 => F.vl (x_fa0 fa27_4 rfl) fun a F => F.ld m2 flat22 rfl rfl fun a F => F.vl (x_len Try.underlying22 rfl) fun a F => F.vl (gtrF (by omega) rfl rfl) fun a F => ?_
   refine s_end (K11 _ _ ?_)
   refine wp_if F rfl ?_
   refine wp_skip (K7 _ _ ?_)
   refine wp_seq_k fun _ K12 => ?_
   refine wp_rs fun _ K13 => F.vl (x_fa0 fa27_4 rfl) fun a F => F.ld m2 flat22 rfl rfl fun a F => F.vl (x_len Try.underlying22 rfl) fun a F => F.mv rfl fun a F => ?_
   refine s_end (K13 _ _ ?_)
   refine wp_block ?_
   refine wp_up ls.length (fun i a w => leafErr vars (.cst xs ls m) = fstErr vars (ls.drop i) ∧ Below w0.heap.size w0 w ∧ Fs 30 a [(1, .int .i64 vars), (17, .slice la ls.length lcp), (18, .int .i64 (ls.length : Int)), (19, .int .i64 (i : Int))]) ⟨by simpa using hle0, hB, F.sub _ rfl⟩ ?_
   repeat clear F
   clear hB m2
   rintro i a w hi ⟨hlei, hB, F⟩ K' hK'
   have sB := hB.size
   refine wp_rs fun _ K14 => F.vl (x_lss (b := decide (i < ls.length)) (decide_eq_decide.2 (by omega)) rfl rfl) fun a F => ?_
   refine s_end (K14 _ _ ?_)
   refine wp_seq_k fun _ K15 => ?_
   refine wp_iff F rfl (fun hc20 => ?_) (fun hc20 => ?_)
   ·
    obtain ⟨b9, off9, c9, y, l, hve, hl, hry, hAb, hbl, hrow⟩ := hls9.row (i := i) (by omega)
    cases hve
    have hfe := fstErr_at (vars := vars) hl
    have h1y := hry.rl.one1
    refine wp_skip (K15 _ _ ?_)
    refine wp_seq_k fun _ K16 => ?_
    refine wp_block ?_
    refine wp_rs fun _ K17 => F.vl (x_ixa rfl rfl (m_ixsK i Try.underlying22 el22.size rfl (by omega))) fun a F => F.vl (x_ldA wide24 (hrow _ (hB.block _ hbl)) rfl rfl) fun a F => ?_
    refine s_alloc F (by decide) zero24 fun w4 b6 a eb6 m6 B5 zb6 F => ?_
    have sB5 := B5.size
    have hB := bt hB B5
    refine s_putW F rfl rfl (size_wide wide24) m6 rfl (one_lc h1y) fun w8 m6 o9 => ?_
    have so9 := o9.size
    have hB := hB.trans (o9.below (by omega))
    refine s_end (K17 _ _ ?_)
    refine wp_rs fun _ K18 => F.vl (x_ldW wide24 m6 rfl rfl) fun a F => F.mv rfl fun a F => ?_
    refine s_callB [_, _] F E144 rfl (by decide) (may13 y l vars w8 ((hry.keep hB.size (fun k hk _ => hB.block k hk)).rl)) fun w10 a B11 F => ?_
    have sB11 := B11.size
    have hB := bt hB B11
    refine F.sg rfl fun a F => ?_
    refine s_end (K18 _ _ ?_)
    refine wp_rs fun _ K19 => F.mv rfl fun a F => F.vl (x_neq rfl rfl rfl) fun a F => ?_
    refine s_end (K19 _ _ ?_)
    refine wp_iff F rfl (fun hc27 => ?_) (fun hc27 => ?_)
    ·
     rw [hfe, if_pos hc27] at hlei
     have hres := hlei
     refine wp_rs fun _ K20 => F.mv rfl fun a F => F.sg rfl fun a F => ?_
     refine s_end (K20 _ _ ?_)
     refine wp_ret (inb_ret (then_ret (then_ret (inb_ret (then_ret (res_slot F rfl rfl ⟨by rw [hres], hB⟩))))))
    ·
     rw [hfe, if_neg hc27] at hlei
     refine wp_skip (K16 _ _ ?_)
     refine wp_region_lit ?_
     refine F.vl (x_addn (i + 1) (by omega) (by have := hfit.2; omega) rfl rfl) fun a F => F.mv rfl fun a F => ?_
     refine s_end (hK' _ _ (by omega) ⟨hlei, hB, F.sub _ rfl⟩)
   ·
    obtain rfl : i = ls.length := by omega
    rw [List.drop_length] at hlei
    have hres : leafErr vars (.cst xs ls m) = 0 := hlei
    refine wp_exit (K12 _ _ ?_)
    refine wp_rs fun _ K21 => F.sg rfl fun a F => ?_
    refine s_end (K21 _ _ ?_)
    refine wp_ret (res_slot F rfl rfl ⟨by rw [hres], hB⟩)
noncomputable def errE (vars : Int) (c : CT) : Int := if arT c.kd < 0 ∨ (c.len : Int) ≠ arT c.kd then 1 else leafErr vars c
theorem nodeErr_E9 (vars d : Int) (n : Nat) (c : CT) : nodeErr vars d n c = if 64 < d ∨ 400 < n then 2 else errE vars c := rfl
theorem mayNode72 (vars : Int) (c : CT) (x : C8) (w0 : World) (hx : RC w0 (fun k => k < w0.heap.size) c x) (hfit : c.fit) : Calls Try.prog 115 #[tv x, .int .i64 vars] w0 fun e w' => e = .returned (.int .i64 (errE vars c)) ∧ Below w0.heap.size w0 w' := by
 obtain ⟨av, nv, cv, hts, hle9, hlen9, hcap, hkid⟩ := hx.kids
 obtain ⟨xk, xn, xs, xl, xls, xts⟩ := x
 simp only at hts
 subst hts
 have hkd : xk = c.kd := hx.kd
 have hone := hx.one
 have hak : arT xk = arT c.kd := by rw [hkd]
 have hB := Below.refl w0.heap.size w0
 have sB := hB.size
 refine calls_fs 45 [(0, tv ⟨xk, xn, xs, xl, xls, .slice av nv cv⟩), (1, .int .i64 vars)] Try.func115 rfl rfl rfl rfl rfl fun a F => ?_
 refine wp_rs fun _ K1 => ?_
 refine s_box ([.int .i64 xk, .int .i64 xn, .string xs, .int .i64 xl.1, .int .i64 xl.2.1, xl.2.2, xls, .slice av nv cv]) F (by decide) rfl rfl fun w2 b2 a eb2 m2 B3 zb2 F => ?_
 have sB3 := B3.size
 have hB := bt hB B3
 refine F.sg rfl fun a F => ?_
 refine s_end (K1 _ _ ?_)
 refine wp_seq_k fun _ K2 => ?_
 rcases (show arT xk < 0 ∨ (¬ arT xk < 0 ∧ (nv : Int) ≠ max 0 (arT xk)) ∨ (¬ arT xk < 0 ∧ (nv : Int) = max 0 (arT xk)) by omega) with hy | hy | hy
 ·
  have hres : errE vars c = 1 := if_pos (by omega)
  refine wp_rs fun _ K4 => F.vl (x_fa0 fa27_0 rfl) fun a F => F.ld m2 flat3 rfl rfl fun a F => ?_
  refine s_callS [_] F E122 rfl (by decide) ((arity109 xk w2).mono fun e w' h => ⟨(by rw [h.1, decide_eq_false (by omega)] : e = .returned (.tuple #[.int .i64 (max 0 (arT xk)), .bool false])), h.2⟩) fun a F => ?_
  refine F.mv rfl fun a F => F.vl (x_ext rfl rfl) fun a F => F.vl (x_ext rfl rfl) fun a F => F.sg rfl fun a F => F.sg rfl fun a F => ?_
  refine s_end (K4 _ _ ?_)
  refine wp_rs fun _ K5 => F.mv rfl fun a F => F.vl (x_not rfl) fun a F => F.mv rfl fun a F => s_grdn 15 F rfl rfl (by decide) fun a F => s_grdn 15 F rfl rfl (by decide) fun a F => s_grdn 15 F rfl rfl (by decide) fun a F => s_grdn 15 F rfl rfl (by decide) fun a F => s_grdn 15 F rfl rfl (by decide) fun a F => F.vl (x_pick (b := true) rfl rfl) fun a F => ?_
  refine s_end (K5 _ _ ?_)
  refine wp_if F rfl ?_
  refine wp_rs fun _ K6 => F.sg rfl fun a F => ?_
  refine s_end (K6 _ _ ?_)
  refine wp_ret (then_ret (res_slot F rfl rfl ⟨by rw [hres], hB⟩))
 ·
  have hres : errE vars c = 1 := if_pos (by omega)
  refine wp_rs fun _ K7 => F.vl (x_fa0 fa27_0 rfl) fun a F => F.ld m2 flat3 rfl rfl fun a F => ?_
  refine s_callS [_] F E122 rfl (by decide) ((arity109 xk w2).mono fun e w' h => ⟨(by rw [h.1, decide_eq_true (by omega)] : e = .returned (.tuple #[.int .i64 (max 0 (arT xk)), .bool true])), h.2⟩) fun a F => ?_
  refine F.mv rfl fun a F => F.vl (x_ext rfl rfl) fun a F => F.vl (x_ext rfl rfl) fun a F => F.sg rfl fun a F => F.sg rfl fun a F => ?_
  refine s_end (K7 _ _ ?_)
  refine wp_rs fun _ K8 => F.mv rfl fun a F => F.vl (x_not rfl) fun a F => F.mv rfl fun a F => s_grd 15 F rfl rfl rfl <| F.vl (x_fa0 fa27_5 rfl) fun a F => s_grd 15 F rfl rfl rfl <| F.ld m2 flat25 rfl rfl fun a F => s_grd 15 F rfl rfl rfl <| F.vl (x_len Try.underlying25 rfl) fun a F => s_grd 15 F rfl rfl rfl <| F.mv rfl fun a F => s_grd 15 F rfl rfl rfl <| F.vl (neqT (by omega) rfl rfl) fun a F => F.vl (x_pick (b := false) rfl rfl) fun a F => ?_
  refine s_end (K8 _ _ ?_)
  refine wp_if F rfl ?_
  refine wp_rs fun _ K9 => F.sg rfl fun a F => ?_
  refine s_end (K9 _ _ ?_)
  refine wp_ret (then_ret (res_slot F rfl rfl ⟨by rw [hres], hB⟩))
 ·
  skip
  refine wp_rs fun _ K10 => F.vl (x_fa0 fa27_0 rfl) fun a F => F.ld m2 flat3 rfl rfl fun a F => ?_
  refine s_callS [_] F E122 rfl (by decide) ((arity109 xk w2).mono fun e w' h => ⟨(by rw [h.1, decide_eq_true (by omega)] : e = .returned (.tuple #[.int .i64 (max 0 (arT xk)), .bool true])), h.2⟩) fun a F => ?_
  refine F.mv rfl fun a F => F.vl (x_ext rfl rfl) fun a F => F.vl (x_ext rfl rfl) fun a F => F.sg rfl fun a F => F.sg rfl fun a F => ?_
  refine s_end (K10 _ _ ?_)
  refine wp_rs fun _ K11 => F.mv rfl fun a F => F.vl (x_not rfl) fun a F => F.mv rfl fun a F => s_grd 15 F rfl rfl rfl <| F.vl (x_fa0 fa27_5 rfl) fun a F => s_grd 15 F rfl rfl rfl <| F.ld m2 flat25 rfl rfl fun a F => s_grd 15 F rfl rfl rfl <| F.vl (x_len Try.underlying25 rfl) fun a F => s_grd 15 F rfl rfl rfl <| F.mv rfl fun a F => s_grd 15 F rfl rfl rfl <| F.vl (neqF (by omega) rfl rfl) fun a F => F.vl (x_pick (b := false) rfl rfl) fun a F => ?_
  refine s_end (K11 _ _ ?_)
  refine wp_if F rfl ?_
  refine wp_skip (K2 _ _ ?_)
  refine wp_seq_k fun _ K12 => ?_
  rcases (show (xk = 1 ∧ xn < 0) ∨ (xk = 1 ∧ ¬ xn < 0 ∧ 1048576 < xn) ∨ (xk = 1 ∧ ¬ xn < 0 ∧ ¬ 1048576 < xn) ∨ xk = 2 ∨ xk = 7 ∨ (xk ≠ 1 ∧ xk ≠ 2 ∧ xk ≠ 7) by omega) with hq | hq | hq | hq | hq | hq
  ·
   have hlf : errE vars c = leafErr vars c := if_neg (by omega)
   obtain ⟨z, m, rfl⟩ := hx.var_of hq.1
   have hzn : xn = z := hx.2.1
   have hres : errE vars (.var z m) = 1 := by rw [hlf]; simp only [leafErr]; rw [if_pos (by omega)]
   refine wp_rs fun _ K14 => F.vl (x_fa0 fa27_0 rfl) fun a F => F.ld m2 flat3 rfl rfl fun a F => ?_
   refine s_end (K14 _ _ ?_)
   refine wp_block ?_
   refine wp_rs fun _ K15 => F.vl (eqlT (by omega) rfl rfl) fun a F => F.sg rfl fun a F => ?_
   refine s_end (K15 _ _ ?_)
   refine wp_if F rfl ?_
   refine wp_rs fun _ K16 => F.vl (x_fa0 fa27_1 rfl) fun a F => F.ld m2 flat3 rfl rfl fun a F => F.vl (lssT (by omega) rfl rfl) fun a F => F.mv rfl fun a F => s_grdn 29 F rfl rfl (by decide) fun a F => s_grdn 29 F rfl rfl (by decide) fun a F => s_grdn 29 F rfl rfl (by decide) fun a F => F.vl (x_pick (b := true) rfl rfl) fun a F => ?_
   refine s_end (K16 _ _ ?_)
   refine wp_if F rfl ?_
   refine wp_rs fun _ K17 => F.sg rfl fun a F => ?_
   refine s_end (K17 _ _ ?_)
   refine wp_ret (inb_ret (then_ret (res_slot F rfl rfl ⟨by rw [hres], hB⟩)))
  ·
   have hlf : errE vars c = leafErr vars c := if_neg (by omega)
   obtain ⟨z, m, rfl⟩ := hx.var_of hq.1
   have hzn : xn = z := hx.2.1
   have hres : errE vars (.var z m) = 1 := by rw [hlf]; simp only [leafErr]; rw [if_pos (by omega)]
   refine wp_rs fun _ K18 => F.vl (x_fa0 fa27_0 rfl) fun a F => F.ld m2 flat3 rfl rfl fun a F => ?_
   refine s_end (K18 _ _ ?_)
   refine wp_block ?_
   refine wp_rs fun _ K19 => F.vl (eqlT (by omega) rfl rfl) fun a F => F.sg rfl fun a F => ?_
   refine s_end (K19 _ _ ?_)
   refine wp_if F rfl ?_
   refine wp_rs fun _ K20 => F.vl (x_fa0 fa27_1 rfl) fun a F => F.ld m2 flat3 rfl rfl fun a F => F.vl (lssF (by omega) rfl rfl) fun a F => F.mv rfl fun a F => s_grd 29 F rfl rfl rfl <| F.vl (x_fa0 fa27_1 rfl) fun a F => s_grd 29 F rfl rfl rfl <| F.ld m2 flat3 rfl rfl fun a F => s_grd 29 F rfl rfl rfl <| F.vl (gtrT (by omega) rfl rfl) fun a F => F.vl (x_pick (b := false) rfl rfl) fun a F => ?_
   refine s_end (K20 _ _ ?_)
   refine wp_if F rfl ?_
   refine wp_rs fun _ K21 => F.sg rfl fun a F => ?_
   refine s_end (K21 _ _ ?_)
   refine wp_ret (inb_ret (then_ret (res_slot F rfl rfl ⟨by rw [hres], hB⟩)))
  ·
   have hlf : errE vars c = leafErr vars c := if_neg (by omega)
   obtain ⟨z, m, rfl⟩ := hx.var_of hq.1
   have hzn : xn = z := hx.2.1
   have hres : errE vars (.var z m) = 0 := by rw [hlf]; simp only [leafErr]; rw [if_neg (by omega)]
   refine wp_rs fun _ K22 => F.vl (x_fa0 fa27_0 rfl) fun a F => F.ld m2 flat3 rfl rfl fun a F => ?_
   refine s_end (K22 _ _ ?_)
   refine wp_block ?_
   refine wp_rs fun _ K23 => F.vl (eqlT (by omega) rfl rfl) fun a F => F.sg rfl fun a F => ?_
   refine s_end (K23 _ _ ?_)
   refine wp_if F rfl ?_
   refine wp_rs fun _ K24 => F.vl (x_fa0 fa27_1 rfl) fun a F => F.ld m2 flat3 rfl rfl fun a F => F.vl (lssF (by omega) rfl rfl) fun a F => F.mv rfl fun a F => s_grd 29 F rfl rfl rfl <| F.vl (x_fa0 fa27_1 rfl) fun a F => s_grd 29 F rfl rfl rfl <| F.ld m2 flat3 rfl rfl fun a F => s_grd 29 F rfl rfl rfl <| F.vl (gtrF (by omega) rfl rfl) fun a F => F.vl (x_pick (b := false) rfl rfl) fun a F => ?_
   refine s_end (K24 _ _ ?_)
   refine wp_if F rfl ?_
   refine wp_skip (K12 _ _ ?_)
   refine wp_rs fun _ K25 => F.sg rfl fun a F => ?_
   refine s_end (K25 _ _ ?_)
   refine wp_ret (res_slot F rfl rfl ⟨by rw [hres], hB⟩)
  ·
   obtain ⟨l, m, rfl⟩ := hx.sort_of hq
   have hres : errE vars (.sort l m) = (chk 32 1048576 vars 1 100 l).1 := if_neg (by omega)
   refine wp_rs fun _ K26 => F.vl (x_fa0 fa27_0 rfl) fun a F => F.ld m2 flat3 rfl rfl fun a F => ?_
   refine s_end (K26 _ _ ?_)
   refine wp_block ?_
   refine wp_rs fun _ K27 => F.vl (eqlF (by omega) rfl rfl) fun a F => F.sg rfl fun a F => ?_
   refine s_end (K27 _ _ ?_)
   refine wp_if F rfl ?_
   refine wp_rs fun _ K28 => F.vl (eqlT (by omega) rfl rfl) fun a F => F.sg rfl fun a F => ?_
   refine s_end (K28 _ _ ?_)
   refine wp_if F rfl ?_
   refine wp_rs fun _ K29 => F.vl (x_fa0 fa27_3 rfl) fun a F => F.vl (x_load rfl (m_loadP (vs := [_, _, _]) wide24 m2 rfl)) fun a F => F.mv rfl fun a F => ?_
   have hl9 : RLn w0 _ xl l := hx.2.1
   refine s_callB [_, _] F E144 rfl (by decide) (may13 xl l vars w2 ((hl9.keep hB.size (fun k hk _ => hB.block k hk)).rl)) fun w4 a B5 F => ?_
   have sB5 := B5.size
   have hB := bt hB B5
   refine F.sg rfl fun a F => ?_
   refine s_end (K29 _ _ ?_)
   refine wp_ret (inb_ret (then_ret (res_slot F rfl rfl ⟨by rw [hres], hB⟩)))
  ·
   obtain ⟨s, ls, m, rfl⟩ := hx.cst_of hq
   have hres : errE vars (.cst s ls m) = leafErr vars (.cst s ls m) := if_neg (by omega)
   refine wp_rs fun _ K30 => F.vl (x_fa0 fa27_0 rfl) fun a F => F.ld m2 flat3 rfl rfl fun a F => ?_
   refine s_end (K30 _ _ ?_)
   refine wp_block ?_
   refine wp_rs fun _ K31 => F.vl (eqlF (by omega) rfl rfl) fun a F => F.sg rfl fun a F => ?_
   refine s_end (K31 _ _ ?_)
   refine wp_if F rfl ?_
   refine wp_rs fun _ K32 => F.vl (eqlF (by omega) rfl rfl) fun a F => F.sg rfl fun a F => ?_
   refine s_end (K32 _ _ ?_)
   refine wp_if F rfl ?_
   refine wp_rs fun _ K33 => F.vl (eqlT (by omega) rfl rfl) fun a F => F.sg rfl fun a F => ?_
   refine s_end (K33 _ _ ?_)
   refine wp_if F rfl ?_
   refine wp_rs fun _ K34 => F.vl (x_ldW wide27 m2 rfl rfl) fun a F => F.mv rfl fun a F => ?_
   refine s_callB [_, _] F E145 rfl (by decide) (mayConst111 vars s ls m ⟨xk, xn, xs, xl, xls, .slice av nv cv⟩ w2 (hx.bel hB) hfit) fun w6 a B7 F => ?_
   have sB7 := B7.size
   have hB := bt hB B7
   refine F.sg rfl fun a F => ?_
   refine s_end (K34 _ _ ?_)
   refine wp_ret (inb_ret (then_ret (res_slot F rfl rfl ⟨by rw [hres], hB⟩)))
  ·
   have hlf : errE vars c = leafErr vars c := if_neg (by omega)
   have hres := hlf.trans (leafErr_rest hx hq)
   refine wp_rs fun _ K35 => F.vl (x_fa0 fa27_0 rfl) fun a F => F.ld m2 flat3 rfl rfl fun a F => ?_
   refine s_end (K35 _ _ ?_)
   refine wp_block ?_
   refine wp_rs fun _ K36 => F.vl (eqlF (by omega) rfl rfl) fun a F => F.sg rfl fun a F => ?_
   refine s_end (K36 _ _ ?_)
   refine wp_if F rfl ?_
   refine wp_rs fun _ K37 => F.vl (eqlF (by omega) rfl rfl) fun a F => F.sg rfl fun a F => ?_
   refine s_end (K37 _ _ ?_)
   refine wp_if F rfl ?_
   refine wp_rs fun _ K38 => F.vl (eqlF (by omega) rfl rfl) fun a F => F.sg rfl fun a F => ?_
   refine s_end (K38 _ _ ?_)
   refine wp_if F rfl ?_
   refine wp_skip (K12 _ _ ?_)
   refine wp_rs fun _ K39 => F.sg rfl fun a F => ?_
   refine s_end (K39 _ _ ?_)
   refine wp_ret (res_slot F rfl rfl ⟨by rw [hres], hB⟩)
noncomputable def listErr (vars : Int) : Nat → List (Int × CT) → Int
 | _, [] => 0
 | n, (d, c) :: l => if nodeErr vars d (n + 1) c ≠ 0 then nodeErr vars d (n + 1) c else listErr vars (n + 1) l
theorem listErr_app (vars : Int) : ∀ (p q : List (Int × CT)) (n : Nat), listErr vars n (p ++ q) = if listErr vars n p ≠ 0 then listErr vars n p else listErr vars (n + p.length) q
 | [], q, n => by simp [listErr]
 | (d, c) :: p, q, n => by
  simp only [List.cons_append, listErr]
  split
  ·
   rfl
  ·
   next h => rw [listErr_app vars p q (n + 1), List.length_cons, show n + (p.length + 1) = n + 1 + p.length by omega]
theorem listErr_one {vars : Int} {n : Nat} {d : Int} {c : CT} : listErr vars n [(d, c)] = nodeErr vars d (n + 1) c := by
 simp only [listErr]
 split
 ·
  rfl
 ·
  omega
theorem listErr_node (vars : Int) : ∀ (c : CT) (d : Int) (n : Nat), listErr vars n (c.nodes d) = (c.mayT vars d n).1 ∧ ((c.mayT vars d n).1 = 0 → (c.mayT vars d n).2 = n + (c.nodes d).length)
 | .two k a b m, d, n => by
  obtain ⟨a1, a2⟩ := listErr_node vars a (d + 1) (n + 1)
  obtain ⟨b1, b2⟩ := listErr_node vars b (d + 1) (n + 1 + (a.nodes (d + 1)).length)
  simp only [CT.nodes, listErr, CT.mayT]
  rw [listErr_app, a1, b1]
  split
  ·
   next h => exact ⟨rfl, fun h2 => absurd h2 h⟩
  ·
   next h =>
   split
   ·
    next h2 => exact ⟨rfl, fun h3 => absurd h3 h2⟩
   ·
    next h2 =>
    rw [a2 (by omega)]
    refine ⟨rfl, fun h3 => ?_⟩
    rw [b2 h3, List.length_cons, List.length_append]; omega
 | .lt a b c m, d, n => by
  obtain ⟨a1, a2⟩ := listErr_node vars a (d + 1) (n + 1)
  obtain ⟨b1, b2⟩ := listErr_node vars b (d + 1) (n + 1 + (a.nodes (d + 1)).length)
  obtain ⟨c1, c2⟩ := listErr_node vars c (d + 1) (n + 1 + (a.nodes (d + 1)).length + (b.nodes (d + 1)).length)
  simp only [CT.nodes, listErr, CT.mayT]
  rw [listErr_app, listErr_app, a1, b1, c1]
  split
  ·
   next h => exact ⟨rfl, fun h2 => absurd h2 h⟩
  ·
   next h =>
   split
   ·
    next h2 => exact ⟨rfl, fun h3 => absurd h3 h2⟩
   ·
    next h2 =>
    rw [a2 (by omega)]
    split
    ·
     next h3 => exact ⟨rfl, fun h4 => absurd h4 h3⟩
    ·
     next h3 =>
     rw [b2 (by omega)]
     refine ⟨rfl, fun h4 => ?_⟩
     rw [c2 h4, List.length_cons, List.length_append, List.length_append]; omega
 | .var z m, d, n => ⟨listErr_one, fun _ => rfl⟩
 | .sort l m, d, n => ⟨listErr_one, fun _ => rfl⟩
 | .cst s l m, d, n => ⟨listErr_one, fun _ => rfl⟩
 | .odd k m, d, n => ⟨listErr_one, fun _ => rfl⟩
theorem nodes_fit : ∀ (c : CT) (d : Int), c.fit → ∀ e ∈ c.nodes d, e.2.fit
 | .two k a b m, d, h, e, he => by
  simp only [CT.nodes, List.mem_cons, List.mem_append] at he
  rcases he with rfl | he | he
  ·
   exact h
  ·
   exact nodes_fit a _ h.1 e he
  ·
   exact nodes_fit b _ h.2 e he
 | .lt a b c m, d, h, e, he => by
  simp only [CT.nodes, List.mem_cons, List.mem_append] at he
  rcases he with rfl | he | he | he
  ·
   exact h
  ·
   exact nodes_fit a _ h.1 e he
  ·
   exact nodes_fit b _ h.2.1 e he
  ·
   exact nodes_fit c _ h.2.2 e he
 | .var .., d, h, e, he => by simp [CT.nodes] at he; subst he; exact h
 | .sort .., d, h, e, he => by simp [CT.nodes] at he; subst he; exact h
 | .cst .., d, h, e, he => by simp [CT.nodes] at he; subst he; exact h
 | .odd .., d, h, e, he => by simp [CT.nodes] at he; subst he; exact h
theorem listErr_snoc {vars : Int} {p : List (Int × CT)} {e : Int × CT} (h : listErr vars 0 p = 0) : listErr vars 0 (p ++ [e]) = nodeErr vars e.1 (p.length + 1) e.2 := by
 rw [listErr_app, if_neg (by omega)]
 simp only [listErr, Nat.zero_add]
 split <;> omega
theorem listErr_pre {vars : Int} {p q : List (Int × CT)} (hp : p <+: q) (h : listErr vars 0 p ≠ 0) : listErr vars 0 q = listErr vars 0 p := by
 obtain ⟨t, rfl⟩ := hp
 rw [listErr_app, if_pos h]
theorem May29 (vars : Int) (c : CT) (x : C8) (w0 : World) (hx : RC w0 (fun k => k < w0.heap.size) c x) (hfit : c.fit) : Calls Try.prog 70 #[tv x, .int .i64 vars] w0 fun e w' => e = .returned (.int .i64 (c.mayT vars 1 0).1) ∧ Below w0.heap.size w0 w' := by
 have hLE := (listErr_node vars c 1 0).1
 have hB := Below.refl w0.heap.size w0
 have sB := hB.size
 refine calls_fsM 27 [(0, tv x), (1, .int .i64 vars)] Try.func70 rfl rfl rfl rfl rfl fun a F => ?_
 refine wp_rs fun _ K1 => ?_
 refine s_box (tc x) F (by decide) rfl rfl fun w2 b2 a eb2 m2 B3 zb2 F => ?_
 have sB3 := B3.size
 have hB := bt hB B3
 refine s_box ([.int .i64 vars]) F (by decide) rfl rfl fun w4 b3 a eb3 m3 B5 zb3 F => ?_
 have sB5 := B5.size
 have hB := bt hB B5
 have m2 := m2.old B5
 refine s_alloc1 F (by decide) zero43 rfl fun w6 b4 a eb4 m4 B7 zb4 F => ?_
 have sB7 := B7.size
 have hB := bt hB B7
 have m2 := m2.old B7
 have m3 := m3.old B7
 refine s_end (K1 _ _ ?_)
 refine wp_rs fun _ K2 => ?_
 refine s_alloc1 F (by decide) zero3 rfl fun w8 b5 a eb5 m5 B9 zb5 F => ?_
 have sB9 := B9.size
 have hB := bt hB B9
 have m2 := m2.old B9
 have m3 := m3.old B9
 have m4 := m4.old B9
 refine s_put F rfl rfl flat3 m5 (by first | (simp; done) | (simp [tc, lc]; done) | decide) rfl fun w10 m5 o11 => ?_
 have so11 := o11.size
 have hB := hB.trans (o11.below (by omega))
 have m2 := m2.only o11 (by omega)
 have m3 := m3.only o11 (by omega)
 have m4 := m4.only o11 (by omega)
 refine s_end (K2 _ _ ?_)
 refine wp_seq_k fun _ K3 => ?_
 refine wp_rs fun _ K4 => F.vl (x_ldW wide27 m2 rfl rfl) fun a F => ?_
 refine s_callR (R := fun v w' => ∃ b1, v = .func (.func 124) #[] #[.pointer (some ⟨b1, 0, none⟩)] ∧ w10.heap.size ≤ b1 ∧ Blk w' b1 27 (tc x)) [_] F E88 rfl (by decide) (nodes71 x w10 hx.one) ?_
 rintro v10 w12 a ⟨bx, hve, hbx, mx⟩ B13 F
 have sB13 := B13.size
 have hB := bt hB B13
 have m3 := m3.old B13
 have m4 := m4.old B13
 have m5 := m5.old B13
 subst hve
 refine s_end (K4 _ _ ?_)
 refine wp_block ?_
 have sD := hB.size
 refine wp_range (w0 := w0) F rfl E124 _ rfl hB (hands107 w0 c x bx _ hx (by omega) (by have := mx.lt; omega) _ mx (by omega)) (fun W' hW' => mx.old hW') (by decide) (fun e vs ⟨y, h, _⟩ => by rw [h]; rfl)
  (fun p W => (∀ e ∈ p, e.1 ≤ 64) ∧ p.length ≤ 400 ∧ listErr vars 0 p = 0 ∧ Blk W b3 3 [.int .i64 vars] ∧ Blk W b5 3 [.int .i64 (p.length : Int)] ∧ Blk W b4 49 [.int .i64 0])
  (fun c' p W => c' = .ret ∧ listErr vars 0 p ≠ 0 ∧ Blk W b4 49 [.int .i64 (listErr vars 0 p)])
  (fun p W W' ⟨h1, h2, h3, h4, h5, h6⟩ hW => ⟨h1, h2, h3, h4.below hW (by omega), h5.below hW (by omega), h6.below hW (by omega)⟩) (fun c p W W' ⟨h1, h2, h3⟩ hW => ⟨h1, h2, h3.below hW (by omega)⟩) (fun p e W ⟨h1, _⟩ => by have := h1 e (by simp); omega) (⟨by simp, by simp, rfl, m3, m5, m4⟩) ?_ ?_ ?_
 ·
  rintro L p e1 rest W a vs hL hq hv hI hWs hBr F K hK
  obtain ⟨hds, hpl, han, m3, m5, m4⟩ := hI
  obtain ⟨y, rfl, hy⟩ := hv
  have sBr := hBr.size
  have hlW : w12.heap.size + 1 < W.heap.size := by omega
  have hM := Mid.refl w0.heap.size w12.heap.size W
  have sM := hM.size
  have hm3l := m3.lt
  have hm4l := m4.lt
  have hm5l := m5.lt
  refine wpI_rs (by repeat' first | exact rndPost.calm | exact false.calm | refine Calm.then ?_ _ | refine Calm.block ?_ _) rfl fun _ K5 => ?_
  refine F.sg rfl fun a F => ?_
  refine s_end (K5 _ _ ?_)
  refine wpI_r (by repeat' first | exact rndPost.calm | exact false.calm | refine Calm.then ?_ _ | refine Calm.block ?_ _) rfl ?_
  refine s_alloc F (by decide) zero27 fun w14 b7 a eb7 m7 B15 zb7 F => ?_
  have sB15 := B15.size
  have hBr := bt hBr B15
  have m3 := m3.old B15
  have m4 := m4.old B15
  have m5 := m5.old B15
  have hM := hM.old B15
  refine s_putW F rfl rfl (size_wide wide27) m7 rfl hy.one fun w18 m7 o19 => ?_
  have so19 := o19.size
  have hBr := hBr.trans (o19.below (by omega))
  have m3 := m3.only o19 (by omega)
  have m4 := m4.only o19 (by omega)
  have m5 := m5.only o19 (by omega)
  have hM := hM.only o19 (by omega)
  refine s_end ?_
  refine hK _ _ hM fun W3 hO3 => ?_
  have hM := Mid.refl w0.heap.size w12.heap.size W3
  have sO := hO3.size
  have m3 := m3.only hO3 (by omega)
  have m4 := m4.only hO3 (by omega)
  have m5 := m5.only hO3 (by omega)
  have m7 := m7.only hO3 (by omega)
  have hBr := hBr.trans (hO3.below (by omega))
  have hfe := nodes_fit c 1 hfit e1 (by rw [hq]; simp)
  have hsn := listErr_snoc (vars := vars) (e := e1) han
  refine wpIn_block ?_
  refine wpI_rs (by repeat' first | exact rndPost.calm | exact false.calm | refine Calm.then ?_ _ | refine Calm.block ?_ _) rfl fun _ K6 => ?_
  refine F.ld m5 flat3 rfl rfl fun a F => F.vl (x_addn (p.length + 1) (by omega) (by omega) rfl rfl) fun a F => ?_
  refine s_put F rfl rfl flat3 m5 (by first | (simp; done) | (simp [tc, lc]; done) | decide) rfl fun w20 m5 o21 => ?_
  have so21 := o21.size
  have hBr := hBr.trans (o21.below (by omega))
  have m3 := m3.only o21 (by omega)
  have m4 := m4.only o21 (by omega)
  have m7 := m7.only o21 (by omega)
  have hM := hM.only o21 (by omega)
  refine s_end (K6 _ _ ?_)
  refine wpIn_seq_k fun _ K7 => ?_
  rcases (show 64 < e1.1 ∨ (¬ 64 < e1.1 ∧ 400 < ((p.length + 1 : Nat) : Int)) ∨ (¬ 64 < e1.1 ∧ ¬ 400 < ((p.length + 1 : Nat) : Int)) by omega) with hz | hz | hz
  ·
   have hne : nodeErr vars e1.1 (p.length + 1) e1.2 = 2 := nodeErr_two (by omega)
   refine wpI_rs (by repeat' first | exact rndPost.calm | exact false.calm | refine Calm.then ?_ _ | refine Calm.block ?_ _) rfl fun _ K9 => ?_
   refine F.mv rfl fun a F => F.vl (gtrT (by omega) rfl rfl) fun a F => F.mv rfl fun a F => s_grdn 17 F rfl rfl (by decide) fun a F => s_grdn 17 F rfl rfl (by decide) fun a F => F.vl (x_pick (b := true) rfl rfl) fun a F => ?_
   refine s_end (K9 _ _ ?_)
   refine wpI_if F rfl ?_
   refine wpI_rs (by repeat' first | exact rndPost.calm | exact false.calm | refine Calm.then ?_ _ | refine Calm.block ?_ _) rfl fun _ K10 => ?_
   refine s_put F rfl rfl flat43 m4 (by first | (simp; done) | (simp [tc, lc]; done) | decide) rfl fun w22 m4 o23 => ?_
   have so23 := o23.size
   have hM := hM.only o23 (by omega)
   refine s_end (K10 _ _ ?_)
   refine wpIn_ret ⟨hM, rfl, by rw [hsn, hne]; decide, by rw [hsn, hne]; exact m4⟩
  ·
   have hne : nodeErr vars e1.1 (p.length + 1) e1.2 = 2 := nodeErr_two (by omega)
   refine wpI_rs (by repeat' first | exact rndPost.calm | exact false.calm | refine Calm.then ?_ _ | refine Calm.block ?_ _) rfl fun _ K11 => ?_
   refine F.mv rfl fun a F => F.vl (gtrF (by omega) rfl rfl) fun a F => F.mv rfl fun a F => s_grd 17 F rfl rfl rfl <| F.ld m5 flat3 rfl rfl fun a F => s_grd 17 F rfl rfl rfl <| F.vl (gtrT (by omega) rfl rfl) fun a F => F.vl (x_pick (b := false) rfl rfl) fun a F => ?_
   refine s_end (K11 _ _ ?_)
   refine wpI_if F rfl ?_
   refine wpI_rs (by repeat' first | exact rndPost.calm | exact false.calm | refine Calm.then ?_ _ | refine Calm.block ?_ _) rfl fun _ K12 => ?_
   refine s_put F rfl rfl flat43 m4 (by first | (simp; done) | (simp [tc, lc]; done) | decide) rfl fun w24 m4 o25 => ?_
   have so25 := o25.size
   have hM := hM.only o25 (by omega)
   refine s_end (K12 _ _ ?_)
   refine wpIn_ret ⟨hM, rfl, by rw [hsn, hne]; decide, by rw [hsn, hne]; exact m4⟩
  ·
   have hne : nodeErr vars e1.1 (p.length + 1) e1.2 = errE vars e1.2 := by rw [nodeErr_E9, if_neg (by omega)]
   refine wpI_rs (by repeat' first | exact rndPost.calm | exact false.calm | refine Calm.then ?_ _ | refine Calm.block ?_ _) rfl fun _ K13 => ?_
   refine F.mv rfl fun a F => F.vl (gtrF (by omega) rfl rfl) fun a F => F.mv rfl fun a F => s_grd 17 F rfl rfl rfl <| F.ld m5 flat3 rfl rfl fun a F => s_grd 17 F rfl rfl rfl <| F.vl (gtrF (by omega) rfl rfl) fun a F => F.vl (x_pick (b := false) rfl rfl) fun a F => ?_
   refine s_end (K13 _ _ ?_)
   refine wpI_if F rfl ?_
   refine wpIn_skip (K7 _ _ ?_)
   refine wpI_rs (by repeat' first | exact rndPost.calm | exact false.calm | refine Calm.then ?_ _ | refine Calm.block ?_ _) rfl fun _ K14 => ?_
   refine F.vl (x_ldW wide27 m7 rfl rfl) fun a F => F.ld m3 flat3 rfl rfl fun a F => ?_
   refine s_callB [_, _] F E115 rfl (by decide) (mayNode72 vars e1.2 y w20 (hy.bel hBr) hfe) fun w26 a B27 F => ?_
   have sB27 := B27.size
   have m3 := m3.old B27
   have m4 := m4.old B27
   have m5 := m5.old B27
   have hM := hM.old B27
   refine F.sg rfl fun a F => ?_
   refine s_end (K14 _ _ ?_)
   refine wpI_rs (by repeat' first | exact rndPost.calm | exact false.calm | refine Calm.then ?_ _ | refine Calm.block ?_ _) rfl fun _ K15 => ?_
   refine F.mv rfl fun a F => F.vl (x_neq rfl rfl rfl) fun a F => ?_
   refine s_end (K15 _ _ ?_)
   refine wpI_iff F rfl (fun hc25 => ?_) (fun hc25 => ?_)
   ·
    refine wpI_rs (by repeat' first | exact rndPost.calm | exact false.calm | refine Calm.then ?_ _ | refine Calm.block ?_ _) rfl fun _ K16 => ?_
    refine F.mv rfl fun a F => ?_
    refine s_put F rfl rfl flat43 m4 (by first | (simp; done) | (simp [tc, lc]; done) | decide) rfl fun w28 m4 o29 => ?_
    have so29 := o29.size
    have hM := hM.only o29 (by omega)
    refine s_end (K16 _ _ ?_)
    refine wpIn_ret ⟨hM, rfl, by rw [hsn, hne]; exact hc25, by rw [hsn, hne]; exact m4⟩
   ·
    refine wpIn_skip ?_
    exact ⟨hM, (fun e he => by rcases List.mem_append.1 he with he | he; (· exact hds e he); (· rw [List.mem_singleton.1 he]; omega)), by simp only [List.length_append, List.length_cons, List.length_nil]; omega, by rw [hsn, hne]; omega, m3, by simp only [List.length_append, List.length_cons, List.length_nil]; exact m5, m4⟩
 ·
  rintro a W hI hM hD F
  obtain ⟨hds, hpl, han, m3, m5, m4⟩ := hI
  have sM := hM.size
  have hB := hB.trans (hM.below (by omega))
  obtain ⟨bD, hbD⟩ : ∃ bD, bD = w12.heap.size := ⟨_, rfl⟩
  rw [← hbD] at hD F
  have hD : Dfr W bD := hD
  refine K3 _ _ ?_
  refine wp_rs fun _ K17 => ?_
  refine s_put F rfl rfl flat43 m4 (by first | (simp; done) | (simp [tc, lc]; done) | decide) rfl fun w30 m4 o31 => ?_
  have so31 := o31.size
  have hB := hB.trans (o31.below (by omega))
  have hD := hD.only o31 (by omega)
  refine s_end (K17 _ _ ?_)
  have hz : (c.mayT vars 1 0).1 = 0 := by rw [← hLE]; exact han
  refine wp_ret (resM F hD fun w9 o9 => ⟨run_cell (t0 := 0) (cs := []) F rfl rfl (m_load flat43 ((m4.only o9 (by omega)).cell (j := 0) rfl)), by rw [hz], hB.trans (o9.below (by omega))⟩)
 ·
  rintro a c p W hp hI hM hD F
  obtain ⟨rfl, han, m4⟩ := hI
  have hB := hB.trans (hM.below (by omega))
  have hz : (c.mayT vars 1 0).1 = listErr vars 0 p := by rw [← hLE]; exact listErr_pre hp han
  refine wp_ret (inb_ret (then_ret (resM F hD fun w9 o9 => ⟨run_cell (t0 := 0) (cs := []) F rfl rfl (m_load flat43 ((m4.only o9 (by omega)).cell (j := 0) rfl)), by rw [hz], hB.trans (o9.below (by omega))⟩)))
end Go.Proofs.Ytmkjhdiepkpdoaa
