/- Terms in memory: what a value reads as. -/
import Derived.Test.YtaclncmkdpjnlaaLevD
import Derived.Test.YtaclncmkdpjnlaaSymF
namespace Go.Proofs.Ytaclncmkdpjnlaa
open Go.RowKit Go.Shelf
set_option linter.unusedVariables false
set_option linter.unusedSimpArgs false

theorem flat4 : Flat Try.prog 4 = true := by kernel_rfl
theorem flat9 : Flat Try.prog 9 = true := by kernel_rfl
theorem flat25 : Flat Try.prog 25 = true := by kernel_rfl
theorem flat43 : Flat Try.prog 43 = true := by kernel_rfl
theorem flat64 : Flat Try.prog 61 = true := by kernel_rfl
theorem wide27 : Wide Try.prog 27 8 = true := by kernel_rfl
theorem wide70 : Wide Try.prog 67 2 = true := by kernel_rfl
theorem wide93 : Wide Try.prog 81 2 = true := by kernel_rfl
theorem el25 : Elem Try.prog 25 27 8 120 := elem_of (by kernel_rfl)
theorem el122 : Elem Try.prog 118 81 2 16 := elem_of (by kernel_rfl)
abbrev nilS : Value := .slice none 0 0
abbrev z8 : List Value := [.int .i64 0, .int .i64 0, .string (ByteArray.mk #[]), .int .i64 0, .int .i64 0, nilS, nilS, nilS]
theorem zero4 : (Try.prog.info? 4).bind (·.zero) = some (.bool false) := by kernel_rfl
theorem zero43 : (Try.prog.info? 43).bind (·.zero) = some (.int .i64 0) := by kernel_rfl
theorem zero27 : (Try.prog.info? 27).bind (·.zero) = some (.agg z8.toArray) := by kernel_rfl
theorem zero70 : (Try.prog.info? 67).bind (·.zero) = some (.agg [Value.int .i64 0, Value.int .i64 0].toArray) := by kernel_rfl
theorem zero93 : (Try.prog.info? 81).bind (·.zero) = some (.agg [Value.int .i64 0, Value.int .i64 0].toArray) := by kernel_rfl
theorem fa27_0 : fldB Try.prog 27 0 0 = true := by kernel_rfl
theorem fa27_1 : fldB Try.prog 27 1 1 = true := by kernel_rfl
theorem fa27_2 : fldB Try.prog 27 2 2 = true := by kernel_rfl
theorem fa27_3 : fldB Try.prog 27 3 3 = true := by kernel_rfl
theorem fa27_4 : fldB Try.prog 27 4 6 = true := by kernel_rfl
theorem fa27_5 : fldB Try.prog 27 5 7 = true := by kernel_rfl
theorem fa70_0 : fldB Try.prog 67 0 0 = true := by kernel_rfl
theorem fa70_1 : fldB Try.prog 67 1 1 = true := by kernel_rfl
theorem fa93_0 : fldB Try.prog 81 0 0 = true := by kernel_rfl
theorem fa93_1 : fldB Try.prog 81 1 1 = true := by kernel_rfl
theorem fa110_0 : fldB Try.prog 108 0 0 = true := by kernel_rfl

/-- A term's eight cells. -/
structure C8 where
  k : Int
  n : Int
  s : ByteArray
  l : C3
  ls : Value
  ts : Value
def tc (x : C8) : List Value := [.int .i64 x.k, .int .i64 x.n, .string x.s, .int .i64 x.l.1, .int .i64 x.l.2.1, x.l.2.2, x.ls, x.ts]
abbrev tv (x : C8) : Value := .agg (tc x).toArray
theorem tc_len (x : C8) : (tc x).length = 8 := rfl
theorem fm8_get : ∀ (xs : List C8) (i j : Nat) (x : C8) (u : Value), xs[i]? = some x → (tc x)[j]? = some u → (xs.flatMap tc)[i * 8 + j]? = some u
  | [], i, j, x, u, h1, _ => by simp at h1
  | y :: xs, 0, j, x, u, h1, h2 => by
    simp at h1
    subst h1
    have hj : j < 8 := (List.getElem?_eq_some_iff.1 h2).1
    rw [List.flatMap_cons, List.getElem?_append_left (by simp [tc]; omega), Nat.zero_mul, Nat.zero_add, h2]
  | y :: xs, i + 1, j, x, u, h1, h2 => by
    rw [List.flatMap_cons, List.getElem?_append_right (by simp [tc]; omega), show (i + 1) * 8 + j - (tc y).length = i * 8 + j by simp [tc]; omega]
    exact fm8_get xs i j x u (by simpa using h1) h2
theorem own_slice (a : Option Addr) (n c m d : Nat) : (Value.slice a n c).ownBlock = (Value.slice a m d).ownBlock := by cases a <;> rfl
/-- A slice of n elements of k cells; its block, if it has elements, is one of A. -/
def Rn (W : World) (A : Nat → Prop) (v : Value) (k n : Nat) (cs : List Value) : Prop := Rd W v k n cs ∧ (0 < n → ∀ b, v.ownBlock = some b → A b)
section
variable {W W' : World} {A B : Nat → Prop} {v : Value} {k n : Nat} {cs : List Value}
theorem Rn.keep (h : Rn W A v k n cs) (hs : W.heap.size ≤ W'.heap.size) (hk : ∀ k, A k → k < W.heap.size → W'.heap[k]? = W.heap[k]?) : Rn W' A v k n cs := by
  rcases Nat.eq_zero_or_pos n with hn | hn
  · refine ⟨⟨h.1.1, ?_⟩, h.2⟩
    obtain ⟨a, c, h1, h2, h3⟩ := h.1.form
    exact .inl ⟨a, c, by rw [h1, hn], hn, h3⟩
  · exact ⟨h.1.keep hs (fun b hb hl => hk b (h.2 hn b hb) hl), h.2⟩
theorem Rn.mono (hAB : ∀ k, A k → B k) (h : Rn W A v k n cs) : Rn W B v k n cs := ⟨h.1, fun hn b hb => hAB b (h.2 hn b hb)⟩
theorem Rn.nil (W : World) (A : Nat → Prop) (k : Nat) : Rn W A nilS k 0 [] := ⟨Rd.nil W k, fun h => by omega⟩
theorem Rn.lt (h : Rn W A v k n cs) : Rn W (fun k => A k ∧ k < W.heap.size) v k n cs := ⟨h.1, fun hn b hb => ⟨h.2 hn b hb, h.1.lt hn hb⟩⟩
end
theorem Rd.n {W : World} {v : Value} {k m : Nat} {cs : List Value} (h : Rd W v k m cs) : Rn W (fun k => k < W.heap.size) v k m cs := ⟨h, fun hn b hb => h.lt hn hb⟩

/-- x reads as the level l, in blocks of A. -/
inductive RLn (W : World) (A : Nat → Prop) : C3 → Lv → Prop where
  | mk {k n : Int} {v : Value} {xs : List C3} {ls : List Lv} (hR : Rn W A v 3 xs.length (xs.flatMap lc)) (hl : xs.length = ls.length) (hk : ∀ (i : Nat) x l, xs[i]? = some x → ls[i]? = some l → RLn W A x l) : RLn W A (k, n, v) (.mk k n ls)
section
variable {W W' : World} {A B : Nat → Prop} {x : C3} {l : Lv}
theorem RLn.rl (h : RLn W A x l) : RL W x l := by
  induction h with
  | mk hR hl hk ih => exact .mk hR.1 hl ih
theorem RL.n (h : RL W x l) : RLn W (fun k => k < W.heap.size) x l := by
  induction h with
  | mk hR hl hk ih => exact .mk hR.n hl ih
theorem RLn.keep (hs : W.heap.size ≤ W'.heap.size) (hk : ∀ k, A k → k < W.heap.size → W'.heap[k]? = W.heap[k]?) (h : RLn W A x l) : RLn W' A x l := by
  induction h with
  | mk hR hl _ ih => exact .mk (hR.keep hs hk) hl ih
theorem RLn.mono (hAB : ∀ k, A k → B k) (h : RLn W A x l) : RLn W B x l := by
  induction h with
  | mk hR hl _ ih => exact .mk (hR.mono hAB) hl ih
theorem RLn.slice (h : RLn W A x l) : ∃ n cs, Rd W x.2.2 3 n cs := h.rl.slice
end
/-- A slice of levels. -/
def RVn (W : World) (A : Nat → Prop) (v : Value) (ls : List Lv) : Prop := ∃ xs : List C3, Rn W A v 3 xs.length (xs.flatMap lc) ∧ xs.length = ls.length ∧ ∀ (i : Nat) x l, xs[i]? = some x → ls[i]? = some l → RLn W A x l
section
variable {W W' : World} {A B : Nat → Prop} {v : Value} {ls : List Lv}
theorem RVn.keep (hs : W.heap.size ≤ W'.heap.size) (hk : ∀ k, A k → k < W.heap.size → W'.heap[k]? = W.heap[k]?) : RVn W A v ls → RVn W' A v ls :=
  fun ⟨xs, h1, h2, h3⟩ => ⟨xs, h1.keep hs hk, h2, fun i x l e1 e2 => (h3 i x l e1 e2).keep hs hk⟩
theorem RVn.mono (hAB : ∀ k, A k → B k) : RVn W A v ls → RVn W B v ls := fun ⟨xs, h1, h2, h3⟩ => ⟨xs, h1.mono hAB, h2, fun i x l e1 e2 => (h3 i x l e1 e2).mono hAB⟩
theorem RVn.nil (W : World) (A : Nat → Prop) : RVn W A nilS [] := ⟨[], Rn.nil W A 3, rfl, fun i x l h => by simp at h⟩
theorem RVn.form (h : RVn W A v ls) : ∃ a c, v = .slice a ls.length c ∧ ls.length ≤ c ∧ (a = none → c = 0) := by
  obtain ⟨xs, h1, h2, _⟩ := h
  rw [← h2]
  exact h1.1.form
theorem RVn.one (h : RVn W A v ls) : v.oneCell' = true := by
  obtain ⟨a, c, rfl, _⟩ := h.form
  rfl
end

/-- A term, as far as it is looked at; m: how many kids more there are (of an odd one: how many there are). -/
inductive CT where
  | var (n : Int) (m : Nat)
  | sort (l : Lv) (m : Nat)
  | cst (s : ByteArray) (ls : List Lv) (m : Nat)
  | odd (k : Int) (m : Nat)
  | two (k : Int) (a b : CT) (m : Nat)
  | lt (a b c : CT) (m : Nat)
def arT (k : Int) : Int := if k = 1 ∨ k = 2 ∨ k = 7 then 0 else if k = 3 ∨ k = 4 ∨ k = 6 then 2 else if k = 5 then 3 else -1
def CT.size : CT → Nat
  | .two _ a b _ => a.size + b.size + 1
  | .lt a b c _ => a.size + b.size + c.size + 1
  | _ => 1
def CT.dep : CT → Nat
  | .two _ a b _ => max a.dep b.dep + 1
  | .lt a b c _ => max a.dep (max b.dep c.dep) + 1
  | _ => 1
def CT.kids : CT → List CT
  | .two _ a b _ => [a, b]
  | .lt a b c _ => [a, b, c]
  | _ => []
def CT.kd : CT → Int
  | .var .. => 1
  | .sort .. => 2
  | .cst .. => 7
  | .odd k _ => k
  | .two k .. => k
  | .lt .. => 5
/-- How many kids its list has. -/
def CT.len : CT → Nat
  | .var _ m => m
  | .sort _ m => m
  | .cst _ _ m => m
  | .odd _ m => m
  | .two _ _ _ m => m + 2
  | .lt _ _ _ m => m + 3
/-- How many binders of its own its kid i stands beneath. -/
def CT.bnd : CT → Nat → Int
  | .two k _ _ _, i => if (k = 3 ∨ k = 4) ∧ i = 1 then 1 else 0
  | .lt .., i => if i = 2 then 1 else 0
  | _, _ => 0
def in64 (z : Int) : Prop := -9223372036854775808 ≤ z ∧ z < 9223372036854775808
/-- What every term's cells are. -/
def Ok (W : World) (A : Nat → Prop) (x : C8) : Prop := (∃ l, RLn W A x.l l) ∧ (∃ ls, RVn W A x.ls ls)
def RC (W : World) (A : Nat → Prop) : CT → C8 → Prop
  | .var n m, x => x.k = 1 ∧ x.n = n ∧ in64 n ∧ (∃ cs, Rn W A x.ts 8 m cs) ∧ Ok W A x
  | .sort l m, x => x.k = 2 ∧ RLn W A x.l l ∧ (∃ cs, Rn W A x.ts 8 m cs) ∧ Ok W A x
  | .cst s ls m, x => x.k = 7 ∧ x.s = s ∧ RVn W A x.ls ls ∧ (∃ cs, Rn W A x.ts 8 m cs) ∧ Ok W A x
  | .odd k m, x => x.k = k ∧ (arT k < 0 ∨ (m : Int) < arT k) ∧ (∃ cs, Rn W A x.ts 8 m cs) ∧ Ok W A x
  | .two k a b m, x => x.k = k ∧ (k = 3 ∨ k = 4 ∨ k = 6) ∧ (∃ y z cs, Rn W A x.ts 8 (m + 2) (tc y ++ (tc z ++ cs)) ∧ RC W A a y ∧ RC W A b z) ∧ Ok W A x
  | .lt a b c m, x => x.k = 5 ∧ (∃ y z u cs, Rn W A x.ts 8 (m + 3) (tc y ++ (tc z ++ (tc u ++ cs))) ∧ RC W A a y ∧ RC W A b z ∧ RC W A c u) ∧ Ok W A x
section
variable {W W' : World} {A B : Nat → Prop}
theorem Ok.keep (hs : W.heap.size ≤ W'.heap.size) (hk : ∀ k, A k → k < W.heap.size → W'.heap[k]? = W.heap[k]?) {x : C8} : Ok W A x → Ok W' A x := fun ⟨⟨l, h1⟩, ls, h2⟩ => ⟨⟨l, h1.keep hs hk⟩, ls, h2.keep hs hk⟩
theorem Ok.mono (hAB : ∀ k, A k → B k) {x : C8} : Ok W A x → Ok W B x := fun ⟨⟨l, h1⟩, ls, h2⟩ => ⟨⟨l, h1.mono hAB⟩, ls, h2.mono hAB⟩
theorem RC.keep (hs : W.heap.size ≤ W'.heap.size) (hk : ∀ k, A k → k < W.heap.size → W'.heap[k]? = W.heap[k]?) : ∀ {c : CT} {x : C8}, RC W A c x → RC W' A c x
  | .var .., x, ⟨h1, h2, h3, ⟨cs, h4⟩, h5⟩ => ⟨h1, h2, h3, ⟨cs, h4.keep hs hk⟩, h5.keep hs hk⟩
  | .sort .., x, ⟨h1, h2, ⟨cs, h4⟩, h5⟩ => ⟨h1, h2.keep hs hk, ⟨cs, h4.keep hs hk⟩, h5.keep hs hk⟩
  | .cst .., x, ⟨h1, h2, h3, ⟨cs, h4⟩, h5⟩ => ⟨h1, h2, h3.keep hs hk, ⟨cs, h4.keep hs hk⟩, h5.keep hs hk⟩
  | .odd .., x, ⟨h1, h2, ⟨cs, h4⟩, h5⟩ => ⟨h1, h2, ⟨cs, h4.keep hs hk⟩, h5.keep hs hk⟩
  | .two .., x, ⟨h1, h2, ⟨y, z, cs, h3, h4, h5⟩, h6⟩ => ⟨h1, h2, ⟨y, z, cs, h3.keep hs hk, RC.keep hs hk h4, RC.keep hs hk h5⟩, h6.keep hs hk⟩
  | .lt .., x, ⟨h1, ⟨y, z, u, cs, h3, h4, h5, h7⟩, h6⟩ => ⟨h1, ⟨y, z, u, cs, h3.keep hs hk, RC.keep hs hk h4, RC.keep hs hk h5, RC.keep hs hk h7⟩, h6.keep hs hk⟩
theorem RC.mono (hAB : ∀ k, A k → B k) : ∀ {c : CT} {x : C8}, RC W A c x → RC W B c x
  | .var .., x, ⟨h1, h2, h3, ⟨cs, h4⟩, h5⟩ => ⟨h1, h2, h3, ⟨cs, h4.mono hAB⟩, h5.mono hAB⟩
  | .sort .., x, ⟨h1, h2, ⟨cs, h4⟩, h5⟩ => ⟨h1, h2.mono hAB, ⟨cs, h4.mono hAB⟩, h5.mono hAB⟩
  | .cst .., x, ⟨h1, h2, h3, ⟨cs, h4⟩, h5⟩ => ⟨h1, h2, h3.mono hAB, ⟨cs, h4.mono hAB⟩, h5.mono hAB⟩
  | .odd .., x, ⟨h1, h2, ⟨cs, h4⟩, h5⟩ => ⟨h1, h2, ⟨cs, h4.mono hAB⟩, h5.mono hAB⟩
  | .two .., x, ⟨h1, h2, ⟨y, z, cs, h3, h4, h5⟩, h6⟩ => ⟨h1, h2, ⟨y, z, cs, h3.mono hAB, RC.mono hAB h4, RC.mono hAB h5⟩, h6.mono hAB⟩
  | .lt .., x, ⟨h1, ⟨y, z, u, cs, h3, h4, h5, h7⟩, h6⟩ => ⟨h1, ⟨y, z, u, cs, h3.mono hAB, RC.mono hAB h4, RC.mono hAB h5, RC.mono hAB h7⟩, h6.mono hAB⟩
theorem RC.ok : ∀ {c : CT} {x : C8}, RC W A c x → Ok W A x
  | .var .., x, h => h.2.2.2.2
  | .sort .., x, h => h.2.2.2
  | .cst .., x, h => h.2.2.2.2
  | .odd .., x, h => h.2.2.2
  | .two .., x, h => h.2.2.2
  | .lt .., x, h => h.2.2
theorem RC.kd : ∀ {c : CT} {x : C8}, RC W A c x → x.k = c.kd
  | .var .., x, h => h.1
  | .sort .., x, h => h.1
  | .cst .., x, h => h.1
  | .odd .., x, h => h.1
  | .two .., x, h => h.1
  | .lt .., x, h => h.1
theorem RC.ts : ∀ {c : CT} {x : C8}, RC W A c x → ∃ cs, Rn W A x.ts 8 c.len cs
  | .var .., x, h => h.2.2.2.1
  | .sort .., x, h => h.2.2.1
  | .cst .., x, h => h.2.2.2.1
  | .odd .., x, h => h.2.2.1
  | .two .., x, ⟨_, _, ⟨y, z, cs, h, _⟩, _⟩ => ⟨_, h⟩
  | .lt .., x, ⟨_, ⟨y, z, u, cs, h, _⟩, _⟩ => ⟨_, h⟩
theorem RC.below {c : CT} {x : C8} (h : RC W A c x) (hB : Below W.heap.size W W') : RC W' A c x := h.keep hB.size (fun k _ hk => hB.block k hk)
theorem RC.only {c : CT} {x : C8} {b : Nat} (h : RC W A c x) (o : Only b W W') (hb : ¬ A b) : RC W' A c x := h.keep (Nat.le_of_eq o.size.symm) (fun k ha _ => o.block k (fun e => hb (e ▸ ha)))
theorem RC.k2 {c : CT} {x : C8} {a b : Nat} (h : RC W A c x) (hK : Ktw a b W W') (ha : ¬ A a) (hb : ¬ A b) : RC W' A c x := h.keep hK.size (fun k hA hk => hK.block k hk ⟨fun e => ha (e ▸ hA), fun e => hb (e ▸ hA)⟩)
/-- Each cell of it is one. -/
theorem RC.one {c : CT} {x : C8} (h : RC W A c x) : ∀ u ∈ tc x, u.oneCell' = true := by
  obtain ⟨⟨l, hl⟩, ls, hls⟩ := h.ok
  obtain ⟨cs, ht⟩ := h.ts
  obtain ⟨n, cs', hs⟩ := hl.slice
  intro u hu
  simp only [tc, List.mem_cons, List.not_mem_nil, or_false] at hu
  rcases hu with rfl | rfl | rfl | rfl | rfl | rfl | rfl | rfl
  · rfl
  · rfl
  · rfl
  · rfl
  · rfl
  · exact hs.one
  · exact hls.one
  · exact ht.1.one
end
/-- A slice of terms. -/
def RK (W : World) (A : Nat → Prop) (v : Value) (cs : List CT) : Prop := ∃ xs : List C8, Rn W A v 8 xs.length (xs.flatMap tc) ∧ xs.length = cs.length ∧ ∀ (i : Nat) x c, xs[i]? = some x → cs[i]? = some c → RC W A c x
section
variable {W W' : World} {A B : Nat → Prop} {v : Value} {cs : List CT}
theorem RK.keep (hs : W.heap.size ≤ W'.heap.size) (hk : ∀ k, A k → k < W.heap.size → W'.heap[k]? = W.heap[k]?) : RK W A v cs → RK W' A v cs :=
  fun ⟨xs, h1, h2, h3⟩ => ⟨xs, h1.keep hs hk, h2, fun i x l e1 e2 => (h3 i x l e1 e2).keep hs hk⟩
theorem RK.mono (hAB : ∀ k, A k → B k) : RK W A v cs → RK W B v cs := fun ⟨xs, h1, h2, h3⟩ => ⟨xs, h1.mono hAB, h2, fun i x l e1 e2 => (h3 i x l e1 e2).mono hAB⟩
theorem RK.below (h : RK W A v cs) (hB : Below W.heap.size W W') : RK W' A v cs := h.keep hB.size (fun k _ hk => hB.block k hk)
theorem RK.nil (W : World) (A : Nat → Prop) : RK W A nilS [] := ⟨[], Rn.nil W A 8, rfl, fun i x l h => by simp at h⟩
theorem RK.form (h : RK W A v cs) : ∃ a c, v = .slice a cs.length c ∧ cs.length ≤ c ∧ (a = none → c = 0) := by
  obtain ⟨xs, h1, h2, _⟩ := h
  rw [← h2]
  exact h1.1.form
theorem RK.one (h : RK W A v cs) : v.oneCell' = true := by
  obtain ⟨a, c, rfl, _⟩ := h.form
  rfl
/-- An element, read. -/
theorem RK.row (h : RK W A v cs) {i : Nat} (hi : i < cs.length) :
    ∃ b off c x y, v = .slice (some ⟨b, off, none⟩) cs.length c ∧ cs[i]? = some y ∧ RC W A y x ∧ A b ∧ b < W.heap.size ∧ ∀ W' : World, W'.heap[b]? = W.heap[b]? → ∀ j u, (tc x)[j]? = some u → W'.cell? ((⟨b, off + i * 8, none⟩ : Addr).add j) = some u := by
  obtain ⟨xs, h1, h2, h3⟩ := h
  obtain ⟨b, off, c, rfl, hb⟩ := h1.1.some (by omega)
  refine ⟨b, off, c, xs[i]'(by omega), cs[i], by rw [h2], List.getElem?_eq_getElem hi, h3 i _ _ (List.getElem?_eq_getElem (by omega)) (List.getElem?_eq_getElem hi), h1.2 (by omega) b rfl, hb, fun W' hB j u hj => ?_⟩
  rw [addr_addn, Nat.add_assoc]
  exact (World.cell?_of_block (w := W) (a := ⟨b, off + (i * 8 + j), none⟩) hB).trans (h1.1.cell (fm8_get xs i j _ u (List.getElem?_eq_getElem (by omega)) hj))
/-- A term's kids. -/
theorem RC.kids : ∀ {c : CT} {x : C8}, RC W A c x → ∃ a n cap, x.ts = .slice a n cap ∧ c.kids.length ≤ n ∧ n = c.len ∧ c.kids.length ≤ cap ∧ RK W A (.slice a c.kids.length cap) c.kids
  | .var n m, x, ⟨_, _, _, ⟨cs, h⟩, _⟩ => by
    obtain ⟨a, c, h1, h2, h3⟩ := h.1.form
    exact ⟨a, m, c, h1, Nat.zero_le _, rfl, Nat.zero_le _, [], ⟨⟨by simp, .inl ⟨_, _, rfl, rfl, h3⟩⟩, fun h => by simp at h⟩, rfl, fun i x l h => by simp at h⟩
  | .sort n m, x, ⟨_, _, ⟨cs, h⟩, _⟩ => by
    obtain ⟨a, c, h1, h2, h3⟩ := h.1.form
    exact ⟨a, m, c, h1, Nat.zero_le _, rfl, Nat.zero_le _, [], ⟨⟨by simp, .inl ⟨_, _, rfl, rfl, h3⟩⟩, fun h => by simp at h⟩, rfl, fun i x l h => by simp at h⟩
  | .cst _ n m, x, ⟨_, _, _, ⟨cs, h⟩, _⟩ => by
    obtain ⟨a, c, h1, h2, h3⟩ := h.1.form
    exact ⟨a, m, c, h1, Nat.zero_le _, rfl, Nat.zero_le _, [], ⟨⟨by simp, .inl ⟨_, _, rfl, rfl, h3⟩⟩, fun h => by simp at h⟩, rfl, fun i x l h => by simp at h⟩
  | .odd n m, x, ⟨_, _, ⟨cs, h⟩, _⟩ => by
    obtain ⟨a, c, h1, h2, h3⟩ := h.1.form
    exact ⟨a, m, c, h1, Nat.zero_le _, rfl, Nat.zero_le _, [], ⟨⟨by simp, .inl ⟨_, _, rfl, rfl, h3⟩⟩, fun h => by simp at h⟩, rfl, fun i x l h => by simp at h⟩
  | .two k p q m, x, ⟨_, _, ⟨y, z, cs, h, hp, hq⟩, _⟩ => by
    obtain ⟨a, c, h1, h2, h3⟩ := h.1.form
    have hu := (h1 ▸ h.1).upto 2 (by omega)
    rw [show (tc y ++ (tc z ++ cs)).take (2 * 8) = [y, z].flatMap tc by simp [tc]] at hu
    refine ⟨a, m + 2, c, h1, by simp [CT.kids], rfl, by simp [CT.kids]; omega, [y, z], ⟨hu, fun _ b hb => h.2 (by omega) b (by rw [h1, own_slice _ _ _ _ c]; exact hb)⟩, rfl, fun i x l e1 e2 => ?_⟩
    rcases i with _ | _ | i
    · simp [CT.kids] at e1 e2; subst e1 e2; exact hp
    · simp [CT.kids] at e1 e2; subst e1 e2; exact hq
    · simp at e1
  | .lt p q r m, x, ⟨_, ⟨y, z, u, cs, h, hp, hq, hr⟩, _⟩ => by
    obtain ⟨a, c, h1, h2, h3⟩ := h.1.form
    have hu := (h1 ▸ h.1).upto 3 (by omega)
    rw [show (tc y ++ (tc z ++ (tc u ++ cs))).take (3 * 8) = [y, z, u].flatMap tc by simp [tc]] at hu
    refine ⟨a, m + 3, c, h1, by simp [CT.kids], rfl, by simp [CT.kids]; omega, [y, z, u], ⟨hu, fun _ b hb => h.2 (by omega) b (by rw [h1, own_slice _ _ _ _ c]; exact hb)⟩, rfl, fun i x l e1 e2 => ?_⟩
    rcases i with _ | _ | _ | i
    · simp [CT.kids] at e1 e2; subst e1 e2; exact hp
    · simp [CT.kids] at e1 e2; subst e1 e2; exact hq
    · simp [CT.kids] at e1 e2; subst e1 e2; exact hr
    · simp at e1
end
theorem CT.kids_arT {W : World} {A : Nat → Prop} : ∀ {c : CT} {x : C8}, RC W A c x → (c.kids.length : Int) = max 0 (arT c.kd) ∧ arT c.kd ≤ c.len ∨ (c.kids.length = 0 ∧ (arT c.kd < 0 ∨ (c.len : Int) < arT c.kd))
  | .var n m, x, _ => .inl (by simp [CT.kids, CT.kd, CT.len, arT])
  | .sort n m, x, _ => .inl (by simp [CT.kids, CT.kd, CT.len, arT])
  | .cst _ n m, x, _ => .inl (by simp [CT.kids, CT.kd, CT.len, arT])
  | .odd k m, x, ⟨_, h, _⟩ => .inr ⟨rfl, h⟩
  | .two k p q m, x, ⟨_, h, _⟩ => .inl (by rcases h with rfl | rfl | rfl <;> simp [CT.kids, CT.kd, CT.len, arT] <;> omega)
  | .lt p q r m, x, _ => .inl (by simp [CT.kids, CT.kd, CT.len, arT]; omega)
theorem CT.kid_size : ∀ {c k : CT} {i : Nat}, c.kids[i]? = some k → k.size < c.size ∧ k.dep < c.dep
  | .two _ a b _, k, i, h => by
    rcases i with _ | _ | i
    · simp [CT.kids] at h; subst h; simp only [CT.size, CT.dep]; omega
    · simp [CT.kids] at h; subst h; simp only [CT.size, CT.dep]; omega
    · simp [CT.kids] at h
  | .lt a b c _, k, i, h => by
    rcases i with _ | _ | _ | i
    · simp [CT.kids] at h; subst h; simp only [CT.size, CT.dep]; omega
    · simp [CT.kids] at h; subst h; simp only [CT.size, CT.dep]; omega
    · simp [CT.kids] at h; subst h; simp only [CT.size, CT.dep]; omega
    · simp [CT.kids] at h
  | .var .., k, i, h => by simp [CT.kids] at h
  | .sort .., k, i, h => by simp [CT.kids] at h
  | .cst .., k, i, h => by simp [CT.kids] at h
  | .odd .., k, i, h => by simp [CT.kids] at h
theorem CT.kids_le (c : CT) : c.kids.length ≤ 3 := by cases c <;> simp [CT.kids]
theorem CT.bnd_is (c : CT) (i : Nat) : c.bnd i = 0 ∨ c.bnd i = 1 := by
  cases c <;> simp only [CT.bnd] <;> (try split) <;> simp
theorem CT.dep_pos (c : CT) : 0 < c.dep := by cases c <;> simp [CT.dep]
end Go.Proofs.Ytaclncmkdpjnlaa
