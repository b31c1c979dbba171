/- Terms without memory: what a term says (its essence), folds. -/
import Derived.Test.YtbhhbfdoadecgaaTerm3
namespace Go.Proofs.Ytbhhbfdoadecgaa
open Go.RowKit Go.Shelf
set_option linter.unusedVariables false
set_option linter.unusedSimpArgs false

/-! ### Levels: what is sound, and what that is -/
mutual
def parse : Lv → Option SL
 | .mk k n ls => if k = 1 then some (.num n.toNat) else if k = 2 then some (.var n.toNat) else match parses ls with
  | [some a] => some (.succ n.toNat a)
  | [some a, some b] => some (.mx a b)
  | _ => none
def parses : List Lv → List (Option SL)
 | [] => []
 | l :: ls => parse l :: parses ls
end
/-- The sound level that it is. -/
def slO (l : Lv) : Option SL := if sndL l then parse l else none
theorem parse_rs {W : World} : ∀ {s : SL} {x : C3} {l : Lv}, RL W x l → RS W s x → parse l = some s
 | .num m, (k, n, v), _, .mk hR hl hk _, ⟨h1, h2, h3⟩ => by
  simp only at h1 h2; subst h1 h2; simp [parse]
 | .var m, (k, n, v), _, .mk hR hl hk _, ⟨h1, h2, h3⟩ => by
  simp only at h1 h2; subst h1 h2; simp [parse]
 | .succ m a, (k, n, v), _, @RL.mk _ _ _ _ xs ls hR hl hk _, ⟨h1, h2, y, h3, h4⟩ => by
  simp only at h1 h2 h3; subst h1 h2
  obtain ⟨e1, e2⟩ := hR.inj h3
  obtain ⟨z, rfl⟩ : ∃ z, xs = [z] := List.length_eq_one_iff.1 e1
  obtain ⟨l, rfl⟩ : ∃ l, ls = [l] := List.length_eq_one_iff.1 (hl ▸ e1)
  have e3 : z = y := lc_inj (by simpa using e2)
  subst e3
  have := parse_rs (hk 0 z l rfl rfl) h4
  simp [parse, parses, this]
 | .mx a b, (k, n, v), _, @RL.mk _ _ _ _ xs ls hR hl hk _, ⟨h1, y, z, h3, h4, h5⟩ => by
  simp only at h1 h3; subst h1
  obtain ⟨e1, e2⟩ := hR.inj h3
  obtain ⟨y', z', rfl⟩ := len2 e1
  obtain ⟨la, lb, rfl⟩ := len2 (hl ▸ e1)
  have e2 : lc y' ++ lc z' = lc y ++ lc z := by simpa using e2
  obtain ⟨e3, e4⟩ := List.append_inj e2 rfl
  have e3 := lc_inj e3
  have e4 := lc_inj e4
  subst e3 e4
  have h6 := parse_rs (hk 0 y' la rfl rfl) h4
  have h7 := parse_rs (hk 1 z' lb rfl rfl) h5
  simp [parse, parses, h6, h7]
theorem slO_of {W : World} {x : C3} {l : Lv} {s : SL} (hL : RL W x l) (hs : RS W s x) (hg : s.good) : slO l = some s := by
 unfold slO
 rw [if_pos (rs_snd hL hs hg), parse_rs hL hs]
theorem slO_some {W : World} {x : C3} {l : Lv} {s : SL} (hL : RL W x l) (h : slO l = some s) : sndL l ∧ RS W s x ∧ s.good := by
 unfold slO at h
 split at h
 ·
  next hs =>
  obtain ⟨t, h1, h2⟩ := sound_sl hL hs
  rw [parse_rs hL h1] at h
  cases h
  exact ⟨hs, h1, h2⟩
 ·
  cases h
theorem slO_none {W : World} {x : C3} {l : Lv} (hL : RL W x l) : slO l = none ↔ ¬ sndL l := by
 constructor
 ·
  intro h hs
  obtain ⟨t, h1, h2⟩ := sound_sl hL hs
  rw [slO_of hL h1 h2] at h
  cases h
 ·
  intro h
  unfold slO
  rw [if_neg h]
/-- A sound one lies where the level lies. -/
theorem RSn.of {W : World} {A : Nat → Prop} : ∀ {s : SL} {x : C3} {l : Lv}, RLn W A x l → RS W s x → RSn W A s x
 | .num m, (k, n, v), _, .mk hR hl hk _, h => h
 | .var m, (k, n, v), _, .mk hR hl hk _, h => h
 | .succ m a, (k, n, v), _, @RLn.mk _ _ _ _ _ xs ls hR hl hk _, ⟨h1, h2, y, h3, h4⟩ => by
  obtain ⟨e1, e2⟩ := hR.1.inj h3
  obtain ⟨z, rfl⟩ : ∃ z, xs = [z] := List.length_eq_one_iff.1 e1
  obtain ⟨l, rfl⟩ : ∃ l, ls = [l] := List.length_eq_one_iff.1 (hl ▸ e1)
  have e3 : z = y := lc_inj (by simpa using e2)
  subst e3
  exact ⟨h1, h2, z, h3, fun j hj => hR.2 (by simp) j hj, RSn.of (hk 0 z l rfl rfl) h4⟩
 | .mx a b, (k, n, v), _, @RLn.mk _ _ _ _ _ xs ls hR hl hk _, ⟨h1, y, z, h3, h4, h5⟩ => by
  obtain ⟨e1, e2⟩ := hR.1.inj h3
  obtain ⟨y', z', rfl⟩ := len2 e1
  obtain ⟨la, lb, rfl⟩ := len2 (hl ▸ e1)
  have e2 : lc y' ++ lc z' = lc y ++ lc z := by simpa using e2
  obtain ⟨e3, e4⟩ := List.append_inj e2 rfl
  have e3 := lc_inj e3
  have e4 := lc_inj e4
  subst e3 e4
  exact ⟨h1, y', z', h3, fun j hj => hR.2 (by simp) j hj, RSn.of (hk 0 y' la rfl rfl) h4, RSn.of (hk 1 z' lb rfl rfl) h5⟩
/-- A sound one, as one of whatever form, where it lies. -/
theorem RSn.rln {W : World} {A : Nat → Prop} : ∀ {s : SL} {x : C3}, RSn W A s x → ∃ l, RLn W A x l
 | .num m, (k, n, v), ⟨h1, h2, h3⟩ => ⟨.mk k n [], .mk (xs := []) ⟨h3, fun h => by simp at h⟩ rfl (fun i x l h => by simp at h)⟩
 | .var m, (k, n, v), ⟨h1, h2, h3⟩ => ⟨.mk k n [], .mk (xs := []) ⟨h3, fun h => by simp at h⟩ rfl (fun i x l h => by simp at h)⟩
 | .succ m a, (k, n, v), ⟨h1, h2, y, h3, ha, h4⟩ => by
  obtain ⟨l, g1⟩ := RSn.rln h4
  refine ⟨.mk k n [l], .mk (xs := [y]) ⟨by simpa using h3, fun _ b hb => ha b hb⟩ rfl (fun i x l' e1 e2 => ?_)⟩
  cases i
  ·
   simp at e1 e2; subst e1 e2; exact g1
  ·
   simp at e1
 | .mx a b, (k, n, v), ⟨h1, y, z, h3, ha, h4, h5⟩ => by
  obtain ⟨la, g1⟩ := RSn.rln h4
  obtain ⟨lb, g3⟩ := RSn.rln h5
  refine ⟨.mk k n [la, lb], .mk (xs := [y, z]) ⟨by simpa using h3, fun _ b hb => ha b hb⟩ rfl (fun i x l' e1 e2 => ?_)⟩
  rcases i with _ | _ | i
  ·
   simp at e1 e2; subst e1 e2; exact g1
  ·
   simp at e1 e2; subst e1 e2; exact g3
  ·
   simp at e1
/-- x reads as a level that says o. -/
def RO (W : World) (A : Nat → Prop) (o : Option SL) (x : C3) : Prop := ∃ l, RLn W A x l ∧ slO l = o
theorem RO.of {W : World} {A : Nat → Prop} {s : SL} {x : C3} (h : RSn W A s x) (hg : s.good) : RO W A (some s) x := by
 obtain ⟨l, hl⟩ := h.rln
 exact ⟨l, hl, slO_of hl.rl h.rs hg⟩

/-! ### Copies of levels -/
mutual
def cpy : Lv → Lv
 | .mk k n ls => if k = 1 ∨ k = 2 ∨ k = 3 then .mk k n (cpys ls) else if k = 4 then .mk 4 0 (cpys ls) else .mk k 0 []
def cpys : List Lv → List Lv
 | [] => []
 | l :: ls => cpy l :: cpys ls
end
theorem cpys_len : ∀ ls : List Lv, (cpys ls).length = ls.length
 | [] => rfl
 | l :: ls => by simp [cpys, cpys_len ls]
theorem nodeE_n4 {D top vars d n m : Int} {r : Nat} {len : Nat} : nodeE D top vars d r 4 n len = nodeE D top vars d r 4 m len := by simp [nodeE, numB]
theorem nodeE_odd {D top vars d n m : Int} {r : Nat} {k : Int} {len len' : Nat} (h : ¬ (k = 1 ∨ k = 2 ∨ k = 3) ∧ k ≠ 4) : nodeE D top vars d r k n len = nodeE D top vars d r k m len' ∧ nodeE D top vars d r k n len ≠ 0 := by
 have e : ∀ l, kidsB k l = false := by intro l; simp [kidsB]; omega
 simp only [nodeE, e, true_or, if_true]
 refine ⟨trivial, ?_⟩
 split <;> simp
mutual
theorem chk_cpy (D top vars : Int) (d : Int) (r : Nat) : ∀ l, chk D top vars d r (cpy l) = chk D top vars d r l
 | .mk k n ls => by
  unfold cpy
  split
  ·
   unfold chk
   rw [cpys_len, chks_cpy D top vars (d + 1) (r - 1) ls]
  ·
   next h1 =>
   split
   ·
    next h2 =>
    subst h2
    unfold chk
    rw [cpys_len, chks_cpy D top vars (d + 1) (r - 1) ls, nodeE_n4 (n := 0) (m := n)]
   ·
    next h2 =>
    obtain ⟨e1, e2⟩ := nodeE_odd (D := D) (top := top) (vars := vars) (d := d) (n := n) (m := 0) (r := r) (k := k) (len := ls.length) (len' := 0) ⟨h1, h2⟩
    unfold chk
    rw [List.length_nil, ← e1, if_pos e2, if_pos e2]
theorem chks_cpy (D top vars : Int) (d : Int) (r : Nat) : ∀ ls, chks D top vars d r (cpys ls) = chks D top vars d r ls
 | [] => rfl
 | l :: ls => by
  unfold cpys chks
  rw [chk_cpy D top vars d r l, chks_cpy D top vars d _ ls]
end
theorem snd_cpy (l : Lv) : sndL (cpy l) ↔ sndL l := by unfold sndL; rw [chk_cpy]
theorem parse_cpy {W : World} {A : Nat → Prop} : ∀ {s : SL} {x : C3} {l : Lv}, RL W x l → RS W s x → parse (cpy l) = some s
 | .num m, (k, n, v), _, .mk hR hl hk _, ⟨h1, h2, h3⟩ => by
  simp only at h1 h2; subst h1 h2; simp [parse, cpy]
 | .var m, (k, n, v), _, .mk hR hl hk _, ⟨h1, h2, h3⟩ => by
  simp only at h1 h2; subst h1 h2; simp [parse, cpy]
 | .succ m a, (k, n, v), _, @RL.mk _ _ _ _ xs ls hR hl hk _, ⟨h1, h2, y, h3, h4⟩ => by
  simp only at h1 h2 h3; subst h1 h2
  obtain ⟨e1, e2⟩ := hR.inj h3
  obtain ⟨z, rfl⟩ : ∃ z, xs = [z] := List.length_eq_one_iff.1 e1
  obtain ⟨l, rfl⟩ : ∃ l, ls = [l] := List.length_eq_one_iff.1 (hl ▸ e1)
  have e3 : z = y := lc_inj (by simpa using e2)
  subst e3
  have := parse_cpy (A := A) (hk 0 z l rfl rfl) h4
  simp [parse, parses, cpy, cpys, this]
 | .mx a b, (k, n, v), _, @RL.mk _ _ _ _ xs ls hR hl hk _, ⟨h1, y, z, h3, h4, h5⟩ => by
  simp only at h1 h3; subst h1
  obtain ⟨e1, e2⟩ := hR.inj h3
  obtain ⟨y', z', rfl⟩ := len2 e1
  obtain ⟨la, lb, rfl⟩ := len2 (hl ▸ e1)
  have e2 : lc y' ++ lc z' = lc y ++ lc z := by simpa using e2
  obtain ⟨e3, e4⟩ := List.append_inj e2 rfl
  have e3 := lc_inj e3
  have e4 := lc_inj e4
  subst e3 e4
  have h6 := parse_cpy (A := A) (hk 0 y' la rfl rfl) h4
  have h7 := parse_cpy (A := A) (hk 1 z' lb rfl rfl) h5
  simp [parse, parses, cpy, cpys, h6, h7]
theorem slO_cpy {W : World} {x : C3} {l : Lv} (hL : RL W x l) : slO (cpy l) = slO l := by
 by_cases h : sndL l
 ·
  obtain ⟨s, h1, h2⟩ := sound_sl hL h
  rw [slO_of hL h1 h2]
  unfold slO
  rw [if_pos ((snd_cpy l).2 h), parse_cpy (A := fun _ => True) hL h1]
 ·
  unfold slO
  rw [if_neg h, if_neg (fun h' => h ((snd_cpy l).1 h'))]

/-! ### Terms -/
inductive PT where
 | var (n : Int)
 | sort (o : Option SL)
 | cst (s : ByteArray) (os : List (Option SL))
 | odd (k : Int)
 | two (k : Int) (a b : PT)
 | lt (a b c : PT)
def CT.ess : CT → PT
 | .var n _ => .var n
 | .sort l _ => .sort (slO l)
 | .cst s ls _ => .cst s (ls.map slO)
 | .odd k _ => .odd k
 | .two k a b _ => .two k a.ess b.ess
 | .lt a b c _ => .lt a.ess b.ess c.ess
def PT.size : PT → Nat
 | .two _ a b => a.size + b.size + 1
 | .lt a b c => a.size + b.size + c.size + 1
 | _ => 1
def PT.dep : PT → Nat
 | .two _ a b => max a.dep b.dep + 1
 | .lt a b c => max a.dep (max b.dep c.dep) + 1
 | _ => 1
def PT.kids : PT → List PT
 | .two _ a b => [a, b]
 | .lt a b c => [a, b, c]
 | _ => []
theorem CT.ess_size : ∀ c : CT, c.ess.size = c.size
 | .two _ a b _ => by simp [CT.ess, PT.size, CT.size, a.ess_size, b.ess_size]
 | .lt a b c _ => by simp [CT.ess, PT.size, CT.size, a.ess_size, b.ess_size, c.ess_size]
 | .var .. => rfl
 | .sort .. => rfl
 | .cst .. => rfl
 | .odd .. => rfl
theorem CT.ess_dep : ∀ c : CT, c.ess.dep = c.dep
 | .two _ a b _ => by simp [CT.ess, PT.dep, CT.dep, a.ess_dep, b.ess_dep]
 | .lt a b c _ => by simp [CT.ess, PT.dep, CT.dep, a.ess_dep, b.ess_dep, c.ess_dep]
 | .var .. => rfl
 | .sort .. => rfl
 | .cst .. => rfl
 | .odd .. => rfl
/-- x reads as a term that says p. -/
def RE (W : World) (A : Nat → Prop) (p : PT) (x : C8) : Prop := ∃ c, RC W A c x ∧ c.ess = p
section
variable {W W' : World} {A B : Nat → Prop} {p : PT} {x : C8}
theorem RE.keep (hs : W.heap.size ≤ W'.heap.size) (hk : ∀ k, A k → k < W.heap.size → W'.heap[k]? = W.heap[k]?) (h : RE W A p x) : RE W' A p x := let ⟨c, h1, h2⟩ := h; ⟨c, h1.keep hs hk, h2⟩
theorem RE.mono (hAB : ∀ k, A k → B k) (h : RE W A p x) : RE W B p x := let ⟨c, h1, h2⟩ := h; ⟨c, h1.mono hAB, h2⟩
theorem RE.below (h : RE W A p x) (hB : Below W.heap.size W W') : RE W' A p x := h.keep hB.size (fun k _ hk => hB.block k hk)
theorem RE.only {b : Nat} (h : RE W A p x) (o : Only b W W') (hb : ¬ A b) : RE W' A p x := h.keep (Nat.le_of_eq o.size.symm) (fun k ha _ => o.block k (fun e => hb (e ▸ ha)))
theorem RE.k2 {a b : Nat} (h : RE W A p x) (hK : Ktw a b W W') (ha : ¬ A a) (hb : ¬ A b) : RE W' A p x := h.keep hK.size (fun k hA hk => hK.block k hk ⟨fun e => ha (e ▸ hA), fun e => hb (e ▸ hA)⟩)
theorem RE.one (h : RE W A p x) : ∀ u ∈ tc x, u.oneCell' = true := let ⟨_, h1, _⟩ := h; h1.one
theorem RC.re {c : CT} (h : RC W A c x) : RE W A c.ess x := ⟨c, h, rfl⟩
end

/-! ### Folds -/
section
variable {α : Type}
def CT.fold (G : CT → Int → List α → α) : CT → Int → α
 | .two k a b m, d => G (.two k a b m) d [a.fold G (d + (CT.two k a b m).bnd 0), b.fold G (d + (CT.two k a b m).bnd 1)]
 | .lt a b c m, d => G (.lt a b c m) d [a.fold G (d + (CT.lt a b c m).bnd 0), b.fold G (d + (CT.lt a b c m).bnd 1), c.fold G (d + (CT.lt a b c m).bnd 2)]
 | .var n m, d => G (.var n m) d []
 | .sort l m, d => G (.sort l m) d []
 | .cst s ls m, d => G (.cst s ls m) d []
 | .odd k m, d => G (.odd k m) d []
/-- What is made of the kids. -/
def CT.folds (G : CT → Int → List α → α) (c : CT) (d : Int) : List α := c.kids.mapIdx fun i k => k.fold G (d + c.bnd i)
theorem CT.fold_eq (G : CT → Int → List α → α) (c : CT) (d : Int) : c.fold G d = G c d (c.folds G d) := by
 cases c <;> simp [CT.fold, CT.folds, CT.kids, List.mapIdx_cons]
theorem CT.folds_len (G : CT → Int → List α → α) (c : CT) (d : Int) : (c.folds G d).length = c.kids.length := by simp [CT.folds]
theorem CT.folds_get (G : CT → Int → List α → α) {c k : CT} {d : Int} {i : Nat} (h : c.kids[i]? = some k) : (c.folds G d)[i]? = some (k.fold G (d + c.bnd i)) := by
 simp [CT.folds, h]
end
end Go.Proofs.Ytbhhbfdoadecgaa

namespace Go.Proofs.Ytbhhbfdoadecgaa
open Go.RowKit Go.Shelf
set_option linter.unusedVariables false
set_option linter.unusedSimpArgs false
section
variable {P : Program} {n d : Nat} {l : List (Nat × Value)} {w : World} {a : Act} {ops : Array Oper} {Q : Exit → Act → World → Prop} {rest : List Oper} {ty : TypeId} {pos : String} {af : Array Edge} {x y : Operand}
/-- A slice is made. -/
theorem s_mkG {ds : List Deferred} {t e k kb : Nat} {kl kc : IntKind} {p q : Int} (m : Nat) (hE : Elem P t e k kb) (hF : Fs n a l (ds := ds)) (hd : d < n) (hx : ov l x = some (.int kl p)) (hy : ov l y = some (.int kc q)) (hb : kb * m ≤ 281474976710656) (hm : m < 9223372036854775808) (hp : p = (m : Int)) (hq : q = (m : Int))
  (h : ∀ w' b a' cs, b = w.heap.size → cs.length = m * k → Blk w' b e cs → Below w.heap.size w w' → w'.heap.size = w.heap.size + 1 → Fs n a' ((d, .slice (some ⟨b, 0, none⟩) m m) :: l) (ds := ds) → wpList P ops Q rest a' w') :
  wpList P ops Q (⟨some d, .makeSlice t x y, ty, pos, af, none⟩ :: rest) a w := by
 obtain ⟨i, z, hi, hz, hs, hby, hzc⟩ := hE.info
 subst hp hq
 have hb' : (i.bytes : Int) * (m : Int) ≤ 281474976710656 := by
  have h : ((i.bytes * m : Nat) : Int) ≤ 281474976710656 := by rw [hby]; omega
  rwa [Int.natCast_mul] at h
 have hr := run_make (P := P) w t e i z hE.under hi hz kl kc m m (by omega) (by omega) hb' (by omega)
 simp only [Int.toNat_natCast] at hr
 refine s_new (w' := w.alloc (Obj.cells (madeCells z.cells (m * i.size)) e)) (v := .slice (some ⟨w.heap.size, 0, none⟩) m m) hF (fun o ho => by simp [execOp, ho, hF.ov hx, hF.ov hy, hr]) hd fun a' hF' => h _ _ a' (madeCells z.cells (m * i.size)).toList rfl ?_ ?_ (below_alloc _) (size_alloc _) hF'
 ·
  rw [Array.length_toList, size_madeCells, hs]
 ·
  have := blk_alloc (w := w) e (madeCells z.cells (m * i.size)).toList
  rwa [Array.toArray_toList] at this
end
theorem take_put {α : Type} {cs vs : List α} {o : Nat} (h : o ≤ cs.length) : (cs.take o ++ vs ++ cs.drop (o + vs.length)).take (o + vs.length) = cs.take o ++ vs := by
 rw [List.take_append_of_le_length (by simp; omega), List.take_of_length_le (by simp; omega)]
theorem put_len {α : Type} {cs vs : List α} {o : Nat} (h : o + vs.length ≤ cs.length) : (cs.take o ++ vs ++ cs.drop (o + vs.length)).length = cs.length := by
 simp; omega
section
variable {W : World} {A : Nat → Prop}
theorem RLn.valid {x : C3} {l : Lv} (h : RLn W A x l) : RLn W (fun k => A k ∧ k < W.heap.size) x l := by
 induction h with
 | mk hR hl hk hbd9 ih => exact .mk hR.lt hl ih hbd9
theorem RVn.valid {v : Value} {ls : List Lv} : RVn W A v ls → RVn W (fun k => A k ∧ k < W.heap.size) v ls := fun ⟨xs, h1, h2, h3⟩ => ⟨xs, h1.lt, h2, fun i x l e1 e2 => (h3 i x l e1 e2).valid⟩
theorem Ok.valid {x : C8} : Ok W A x → Ok W (fun k => A k ∧ k < W.heap.size) x := fun ⟨⟨l, h1⟩, ls, h2⟩ => ⟨⟨l, h1.valid⟩, ls, h2.valid⟩
theorem RC.valid : ∀ {c : CT} {x : C8}, RC W A c x → RC W (fun k => A k ∧ k < W.heap.size) c x
 | .var .., x, ⟨h1, h2, h3, ⟨cs, h4⟩, h5⟩ => ⟨h1, h2, h3, ⟨cs, h4.lt⟩, h5.valid⟩
 | .sort .., x, ⟨h1, h2, ⟨cs, h4⟩, h5⟩ => ⟨h1, h2.valid, ⟨cs, h4.lt⟩, h5.valid⟩
 | .cst .., x, ⟨h1, h2, h3, ⟨cs, h4⟩, h5⟩ => ⟨h1, h2, h3.valid, ⟨cs, h4.lt⟩, h5.valid⟩
 | .odd .., x, ⟨h1, h2, ⟨cs, h4⟩, h5⟩ => ⟨h1, h2, ⟨cs, h4.lt⟩, h5.valid⟩
 | .two .., x, ⟨h1, h2, ⟨y, z, cs, h3, h4, h5⟩, h6⟩ => ⟨h1, h2, ⟨y, z, cs, h3.lt, RC.valid h4, RC.valid h5⟩, h6.valid⟩
 | .lt .., x, ⟨h1, ⟨y, z, u, cs, h3, h4, h5, h7⟩, h6⟩ => ⟨h1, ⟨y, z, u, cs, h3.lt, RC.valid h4, RC.valid h5, RC.valid h7⟩, h6.valid⟩
theorem RE.valid {p : PT} {x : C8} (h : RE W A p x) : RE W (fun k => A k ∧ k < W.heap.size) p x := let ⟨c, h1, h2⟩ := h; ⟨c, h1.valid, h2⟩
end
/-- What is left of a room. -/
def Room (W : World) (br : Nat) : Prop := ∃ r : Int, Blk W br 110 [.int .i64 r] ∧ 0 ≤ r ∧ r ≤ 2147483647
theorem Room.below {W W' : World} {br : Nat} (h : Room W br) (hB : Below W.heap.size W W') : Room W' br := let ⟨r, h1, h2⟩ := h; ⟨r, h1.old hB, h2⟩
theorem Room.only {W W' : World} {br b : Nat} (h : Room W br) (hO : Only b W W') (hb : br ≠ b) : Room W' br := let ⟨r, h1, h2⟩ := h; ⟨r, h1.only hO hb, h2⟩
theorem Room.lt {W : World} {br : Nat} (h : Room W br) : br < W.heap.size := let ⟨_, h1, _⟩ := h; h1.lt
/-- Where what is handed in lies, and what has come about since a block. -/
def Ar (lo br s : Nat) : Nat → Prop := fun k => k ≠ br ∧ (k < lo ∨ s ≤ k)
def Ai (lo br : Nat) : Nat → Prop := fun k => k ≠ br ∧ k < lo
theorem Ar.mono {lo br s s' : Nat} (h : s' ≤ s) : ∀ k, Ar lo br s k → Ar lo br s' k := fun k ⟨h1, h2⟩ => ⟨h1, by omega⟩
theorem Ai.ar {lo br s : Nat} : ∀ k, Ai lo br k → Ar lo br s k := fun k ⟨h1, h2⟩ => ⟨h1, .inl h2⟩
theorem Ar.nbr {lo br s : Nat} : ¬ Ar lo br s br := fun h => h.1 rfl
theorem Ai.nbr {lo br : Nat} : ¬ Ai lo br br := fun h => h.1 rfl
theorem Ar.no {lo br s b : Nat} (h : lo ≤ b ∧ b < s) : ¬ Ar lo br s b := fun h' => by have := h'.2; omega
theorem Ai.no {lo br b : Nat} (h : lo ≤ b) : ¬ Ai lo br b := fun h' => by have := h'.2; omega
/-- What was handed in, and what has come about since a block. -/
def AS (A : Nat → Prop) (s : Nat) : Nat → Prop := fun k => A k ∨ s ≤ k
theorem AS.mono {A : Nat → Prop} {s s' : Nat} (h : s' ≤ s) : ∀ k, AS A s k → AS A s' k := fun k hk => hk.elim .inl (fun h' => .inr (by omega))
/-- A slice of terms that say ps. -/
def RKE (W : World) (A : Nat → Prop) (v : Value) (ps : List PT) : Prop := ∃ xs : List C8, Rn W A v 8 xs.length (xs.flatMap tc) ∧ xs.length = ps.length ∧ ∀ (i : Nat) x p, xs[i]? = some x → ps[i]? = some p → RE W A p x
section
variable {W W' : World} {A B : Nat → Prop} {v : Value} {ps : List PT}
theorem RKE.keep (hs : W.heap.size ≤ W'.heap.size) (hk : ∀ k, A k → k < W.heap.size → W'.heap[k]? = W.heap[k]?) : RKE W A v ps → RKE W' A v ps :=
 fun ⟨xs, h1, h2, h3⟩ => ⟨xs, h1.keep hs hk, h2, fun i x c e1 e2 => (h3 i x c e1 e2).keep hs hk⟩
theorem RKE.mono (hAB : ∀ k, A k → B k) : RKE W A v ps → RKE W B v ps := fun ⟨xs, h1, h2, h3⟩ => ⟨xs, h1.mono hAB, h2, fun i x c e1 e2 => (h3 i x c e1 e2).mono hAB⟩
theorem RKE.below (h : RKE W A v ps) (hB : Below W.heap.size W W') : RKE W' A v ps := h.keep hB.size (fun k _ hk => hB.block k hk)
theorem RKE.only {b : Nat} (h : RKE W A v ps) (o : Only b W W') (hb : ¬ A b) : RKE W' A v ps := h.keep (Nat.le_of_eq o.size.symm) (fun k ha _ => o.block k (fun e => hb (e ▸ ha)))
theorem RKE.k2 {a b : Nat} (h : RKE W A v ps) (hK : Ktw a b W W') (ha : ¬ A a) (hb : ¬ A b) : RKE W' A v ps := h.keep hK.size (fun k hA hk => hK.block k hk ⟨fun e => ha (e ▸ hA), fun e => hb (e ▸ hA)⟩)
theorem RKE.nil (W : World) (A : Nat → Prop) : RKE W A nilS [] := ⟨[], Rn.nil W A 8, rfl, fun i x c h => by simp at h⟩
theorem RKE.form (h : RKE W A v ps) : ∃ a c, v = .slice a ps.length c ∧ ps.length ≤ c ∧ (a = none → c = 0) := by
 obtain ⟨xs, h1, h2, _⟩ := h
 rw [← h2]
 exact h1.1.form
theorem RKE.one (h : RKE W A v ps) : v.oneCell' = true := by
 obtain ⟨a, c, rfl, _⟩ := h.form
 rfl
/-- Exact ones that say so. -/
theorem RKE.ck (h : RKE W A v ps) : ∃ cs, RK W A v cs ∧ cs.map CT.ess = ps := by
 obtain ⟨xs, h1, h2, h3⟩ := h
 have : ∀ i : Nat, ∃ c : CT, ∀ x p, xs[i]? = some x → ps[i]? = some p → RC W A c x ∧ c.ess = p := by
  intro i
  by_cases hi : i < xs.length
  ·
   obtain ⟨c, hc⟩ := h3 i xs[i] (ps[i]'(by omega)) (List.getElem?_eq_getElem hi) (List.getElem?_eq_getElem (by omega))
   refine ⟨c, fun x p e1 e2 => ?_⟩
   rw [List.getElem?_eq_getElem hi] at e1
   rw [List.getElem?_eq_getElem (by omega)] at e2
   cases e1; cases e2
   exact hc
  ·
   exact ⟨.odd 0 0, fun x p e1 => by rw [List.getElem?_eq_none (by omega)] at e1; cases e1⟩
 obtain ⟨f, hf⟩ := Classical.axiomOfChoice this
 refine ⟨(List.range xs.length).map f, ⟨xs, h1, by simp, ?_⟩, ?_⟩
 ·
  intro i x c e1 e2
  have hi := (List.getElem?_eq_some_iff.1 e1).1
  rw [List.getElem?_map, List.getElem?_range hi] at e2
  cases e2
  exact (hf i x (ps[i]'(by omega)) e1 (List.getElem?_eq_getElem (by omega))).1
 ·
  apply List.ext_getElem?
  intro i
  by_cases hi : i < xs.length
  ·
   rw [List.getElem?_map, List.getElem?_map, List.getElem?_range hi, List.getElem?_eq_getElem (by omega : i < ps.length)]
   exact congrArg some (hf i xs[i] (ps[i]'(by omega)) (List.getElem?_eq_getElem hi) (List.getElem?_eq_getElem (by omega))).2
  ·
   rw [List.getElem?_eq_none (by simp; omega), List.getElem?_eq_none (by omega)]
end
/-- The first of the cells read as terms that say ps. -/
def MkT (W : World) (A : Nat → Prop) (cs : List Value) (ps : List PT) : Prop := ∃ ys : List C8, cs.take (ps.length * 8) = ys.flatMap tc ∧ ys.length = ps.length ∧ ∀ (j : Nat) y p, ys[j]? = some y → ps[j]? = some p → RE W A p y
section
variable {W W' : World} {A B : Nat → Prop} {cs : List Value} {ps : List PT}
theorem MkT.start (W : World) (A : Nat → Prop) (cs : List Value) : MkT W A cs [] := ⟨[], by simp, rfl, fun j y p h => by simp at h⟩
theorem MkT.valid : MkT W A cs ps → MkT W (fun k => A k ∧ k < W.heap.size) cs ps := fun ⟨xs, h1, h2, h3⟩ => ⟨xs, h1, h2, fun i x c e1 e2 => (h3 i x c e1 e2).valid⟩
theorem MkT.mono (hAB : ∀ k, A k → B k) : MkT W A cs ps → MkT W B cs ps := fun ⟨xs, h1, h2, h3⟩ => ⟨xs, h1, h2, fun i x c e1 e2 => (h3 i x c e1 e2).mono hAB⟩
theorem MkT.keep (hs : W.heap.size ≤ W'.heap.size) (hk : ∀ k, A k → k < W.heap.size → W'.heap[k]? = W.heap[k]?) : MkT W A cs ps → MkT W' A cs ps :=
 fun ⟨xs, h1, h2, h3⟩ => ⟨xs, h1, h2, fun i x c e1 e2 => (h3 i x c e1 e2).keep hs hk⟩
theorem MkT.below (h : MkT W A cs ps) (hB : Below W.heap.size W W') : MkT W' A cs ps := h.keep hB.size (fun k _ hk => hB.block k hk)
theorem MkT.only {b : Nat} (h : MkT W A cs ps) (o : Only b W W') (hb : ¬ A b) : MkT W' A cs ps := h.keep (Nat.le_of_eq o.size.symm) (fun k ha _ => o.block k (fun e => hb (e ▸ ha)))
theorem MkT.k2 {a b : Nat} (h : MkT W A cs ps) (hK : Ktw a b W W') (ha : ¬ A a) (hb : ¬ A b) : MkT W' A cs ps := h.keep hK.size (fun k hA hk => hK.block k hk ⟨fun e => ha (e ▸ hA), fun e => hb (e ▸ hA)⟩)
theorem MkT.snoc {p : PT} {y : C8} {o : Nat} (h : MkT W A cs ps) (hy : RE W A p y) (ho : o = ps.length * 8) (hl : ps.length * 8 + 8 ≤ cs.length) : MkT W A (cs.take o ++ tc y ++ cs.drop (o + (tc y).length)) (ps ++ [p]) := by
 subst ho
 obtain ⟨ys, h1, h2, h3⟩ := h
 refine ⟨ys ++ [y], ?_, by simp [h2], fun j z q e1 e2 => ?_⟩
 ·
  rw [show (ps ++ [p]).length * 8 = ps.length * 8 + (tc y).length by simp [tc]; omega, take_put (by omega), h1]
  simp
 ·
  rcases Nat.lt_trichotomy j ys.length with hj | hj | hj
  ·
   rw [List.getElem?_append_left hj] at e1
   rw [List.getElem?_append_left (by omega)] at e2
   exact h3 j z q e1 e2
  ·
   subst hj
   rw [List.getElem?_append_right (Nat.le_refl _)] at e1
   rw [h2, List.getElem?_append_right (Nat.le_refl _)] at e2
   simp at e1 e2
   subst e1 e2
   exact hy
  ·
   rw [List.getElem?_eq_none (by simp; omega)] at e1
   cases e1
theorem MkT.rke {b n : Nat} (h : MkT W A cs ps) (hB : Blk W b 27 cs) (hl : cs.length = ps.length * 8) (hAB : ∀ k, A k → B k) (hb : B b) (hn : n = ps.length) : RKE W B (.slice (some ⟨b, 0, none⟩) n n) ps := by
 subst hn
 obtain ⟨ys, h1, h2, h3⟩ := h
 refine ⟨ys, ⟨?_, fun _ k hk => ?_⟩, h2, fun j y p e1 e2 => (h3 j y p e1 e2).mono hAB⟩
 ·
  rw [List.take_of_length_le (by omega)] at h1
  rw [← h1, h2]
  exact Rd.blk hB hl
 ·
  simp [Value.ownBlock] at hk
  subst hk
  exact hb
end
end Go.Proofs.Ytbhhbfdoadecgaa

namespace Go.Proofs.Ytbhhbfdoadecgaa
open Go.RowKit Go.Shelf
set_option linter.unusedVariables false
set_option linter.unusedSimpArgs false

/-- Its kids' list holds just so many. -/
def Tn (n : Nat) (y : C8) : Prop := ∃ a cp, y.ts = .slice a n cp
def Tt (c : CT) (y : C8) : Prop := 0 < c.kids.length → Tn c.kids.length y
theorem tt_var {n : Int} {m : Nat} {y : C8} : Tt (.var n m) y := fun h => by simp [CT.kids] at h
theorem tt_of {W : World} {A : Nat → Prop} {c : CT} {y : C8} {kv : Value} {ps : List PT} (hl : ps.length = c.kids.length) (h : RKE W A kv ps) (hy : y.ts = kv) : Tt c y := fun _ => by
 obtain ⟨a, cp, he, _⟩ := h.form
 exact ⟨a, cp, by rw [hy, he, hl]⟩
theorem take_snoc {α : Type} {l : List α} {i : Nat} {p : α} (h : l[i]? = some p) : l.take (i + 1) = l.take i ++ [p] := by
 rw [List.take_add_one, h]; rfl

set_option maxRecDepth 100000 in
set_option maxHeartbeats 1600000 in
theorem fold88 (wl : World) (br : Nat) (hbr : br < wl.heap.size) (A : Nat → Prop) (hA : ∀ k, A k → k ≠ br ∧ k < wl.heap.size) (g : FuncId) (lb : List Value) (hg : Enters Try.prog g) (D : Int) (hD : D ≤ 4611686018427387904) (G : CT → Int → List PT → PT) (Pc : CT → Prop) (hPc : ∀ (c k : CT) (i : Nat), Pc c → c.kids[i]? = some k → Pc k)
  (HJ : ∀ (W : World) (c : CT) (x : C8) (d : Int) (kv : Value) (ps : List PT) (s : Nat), Ktw br br wl W → Room W br → RC wl A c x → 0 ≤ d → d ≤ D → wl.heap.size ≤ s → s ≤ W.heap.size → RKE W (AS A s) kv ps → ps.length = c.kids.length → Pc c →
   Calls Try.prog g ([tv x, .int .i64 d, kv] ++ lb).toArray W fun e w' => ∃ v, e = .returned v ∧ ((∃ y, v = tv y ∧ RE w' (AS A s) (G c d ps) y ∧ Tt c y) ∧ Room w' br) ∧ Ktw br br W w') :
  ∀ (N : Nat) (c : CT) (x : C8) (d : Int) (W : World), c.size < N → RC wl A c x → Pc c → 0 ≤ d → d + c.dep ≤ D → Ktw br br wl W → Room W br →
   Calls Try.prog 62 #[tv x, .int .i64 d, .func (.func g) #[] lb.toArray] W fun e w' => ∃ v, e = .returned v ∧ ((∃ y, v = tv y ∧ RE w' (AS A W.heap.size) (c.fold G d) y ∧ Tt c y) ∧ Room w' br) ∧ Ktw br br W w' := by
 intro N
 induction N with
 | zero => intro c x d W h; omega
 | succ N ih =>
 intro c x d W hN hx hPx hd0 hdD hK hR
 have h3 := c.kids_le
 have hdp := c.dep_pos
 have hQ := Ktw.refl br br W
 have sQ := hQ.size
 have sK := hK.size
 refine calls_fs 43 [(0, tv x), (1, .int .i64 d), (2, .func (.func g) #[] lb.toArray)] Try.func62 rfl rfl rfl rfl rfl fun a hF => ?_
 refine wp_rs fun K1 hK1 => ?_
 refine s_box (tc x) hF (by decide) rfl rfl fun w2 b3 a eb3 m3 B3 zb3 hF => ?_
 have sB3 := B3.size
 have hK := hK.below B3
 have hQ := hQ.below B3
 have hR := hR.below B3
 refine s_alloc hF (by decide) zero27 fun w4 b6 a eb6 m6 B5 zb6 hF => ?_
 have sB5 := B5.size
 have hK := hK.below B5
 have hQ := hQ.below B5
 have m3 := m3.old B5
 have hR := hR.below B5
 refine s_end (hK1 _ _ ?_)
 refine wp_rs fun K2 hK2 => ?_
 refine hF.v (x_assign rfl) fun a hF => ?_
 refine s_end (hK2 _ _ ?_)
 refine wp_seq_k fun K3 hK3 => ?_
 refine wp_rs fun K4 hK4 => ?_
 refine hF.v (x_ldW wide27 m3 rfl rfl) fun a hF => ?_
 refine s_callR (R := fun v w' => RK wl A v c.kids) [_] hF E88 rfl (by decide) (kidsOf101 c x A wl w4 hx) ?_
 rintro v12 w6 a hv12 B7 hF
 have sB7 := B7.size
 have hK := hK.below B7
 have hQ := hQ.below B7
 have m3 := m3.old B7
 have m6 := m6.old B7
 have hR := hR.below B7
 obtain ⟨a12, c12, hve, _⟩ := hv12.form
 subst hve
 refine hF.v (x_assign rfl) fun a hF => ?_
 refine s_end (hK4 _ _ ?_)
 rcases (show 0 < c.kids.length ∨ c.kids.length = 0 by omega) with hk | hk
 ·
  skip
  refine wp_rs fun K6 hK6 => ?_
  refine hF.v (x_move rfl) fun a hF => ?_
  refine hF.v (x_len Try.underlying25 rfl) fun a hF => ?_
  refine hF.v (gtrT (by omega) rfl rfl) fun a hF => ?_
  refine s_end (hK6 _ _ ?_)
  refine wp_if hF rfl ?_
  refine wp_rs fun K7 hK7 => ?_
  refine hF.v (x_move rfl) fun a hF => ?_
  refine hF.v (x_len Try.underlying25 rfl) fun a hF => ?_
  refine s_mkG c.kids.length el25 hF (by decide) rfl rfl (by omega) (by omega) rfl rfl fun w18 bm a cs18 eb18 hl18 mm B18 z18 hF => ?_
  have sB18 := B18.size
  have hK := hK.below B18
  have hQ := hQ.below B18
  have m3 := m3.old B18
  have m6 := m6.old B18
  have hR := hR.below B18
  refine hF.v (x_assign rfl) fun a hF => ?_
  refine s_end (hK7 _ _ ?_)
  refine wp_rs fun K8 hK8 => ?_
  refine hF.v (x_move rfl) fun a hF => ?_
  refine hF.v (x_len Try.underlying25 rfl) fun a hF => ?_
  refine hF.v (x_move rfl) fun a hF => ?_
  refine s_end (hK8 _ _ ?_)
  refine wp_block ?_
  refine wp_up c.kids.length (fun i a w => ∃ cs, cs.length = c.kids.length * 8 ∧ Blk w bm 27 cs ∧ MkT w (AS A (bm + 1)) cs ((c.folds G d).take i) ∧ Room w br ∧ Blk w b3 27 (tc x) ∧ Blk w b6 27 z8 ∧ Ktw br br wl w ∧ Ktw br br W w ∧ Fs 43 a [(1, .int .i64 d), (2, .func (.func g) #[] lb.toArray), (3, .pointer (some ⟨b3, 0, none⟩)), (6, .pointer (some ⟨b6, 0, none⟩)), (7, .slice (some ⟨bm, 0, none⟩) c.kids.length c.kids.length), (19, .slice a12 c.kids.length c12), (20, .int .i64 (c.kids.length : Int)), (21, .int .i64 (i : Int))]) ⟨cs18, hl18, mm, by rw [List.take_zero]; exact MkT.start _ _ _, hR, m3, m6, hK, hQ, hF.sub _ rfl⟩ ?_
  clear hF hR mm m3 m6 hK hQ
  rintro i a w hi ⟨cs, hl, mm, hM, hR, m3, m6, hK, hQ, hF⟩ K' hK'
  have sK := hK.size
  have sQ := hQ.size
  have hbmw := mm.lt
  have hb3w := m3.lt
  have hb6w := m6.lt
  have hM := hM.valid
  refine wp_rs fun K9 hK9 => ?_
  refine hF.v (x_lss (b := decide (i < c.kids.length)) (decide_eq_decide.2 (by omega)) rfl rfl) fun a hF => ?_
  refine s_end (hK9 _ _ ?_)
  refine wp_seq_k fun K10 hK10 => ?_
  refine wp_iff hF rfl (fun hc22 => ?_) (fun hc22 => ?_)
  ·
   obtain ⟨b9, off9, c9, y, kd, hve, hyk, hry, hAb, hbl, hrow⟩ := hv12.row (i := i) (by omega)
   cases hve
   have hks := CT.kid_size hyk
   have hbd := c.bnd_is i
   have htk := take_snoc (CT.folds_get G (d := d) hyk)
   have hti : ((c.folds G d).take i).length = i := by rw [List.length_take, CT.folds_len]; omega
   refine wp_skip (hK10 _ _ ?_)
   refine wp_seq_k fun K11 hK11 => ?_
   refine wp_block ?_
   refine wp_rs fun K12 hK12 => ?_
   refine hF.v (x_move rfl) fun a hF => ?_
   refine hF.v (x_ixa rfl rfl (m_ixsK i Try.underlying25 el25.size rfl (by omega))) fun a hF => ?_
   refine hF.v (x_ldA wide27 (hrow _ (hK.block _ hbl ⟨(hA _ hAb).1, (hA _ hAb).1⟩)) rfl rfl) fun a hF => ?_
   refine s_alloc hF (by decide) zero27 fun w8 b10 a eb10 m10 B9 zb10 hF => ?_
   have sB9 := B9.size
   have hK := hK.below B9
   have hQ := hQ.below B9
   have mm := mm.old B9
   have m3 := m3.old B9
   have m6 := m6.old B9
   have hR := hR.below B9
   have hM := hM.below B9
   refine hF.v (x_assign rfl) fun a hF => ?_
   refine s_putW hF rfl rfl (size_wide wide27) m10 rfl hry.one fun w12 m10 o13 => ?_
   have so13 := o13.size
   have hK := hK.only o13 (by omega)
   have hQ := hQ.only o13 (by omega)
   have mm := mm.only o13 (by omega)
   have m3 := m3.only o13 (by omega)
   have m6 := m6.only o13 (by omega)
   have hR := hR.only o13 (by omega)
   have hM := hM.only o13 (by first | (intro h; have h2 := h.2; omega) | (intro h; rcases h.1 with h1 | h1; (have := hA _ h1; omega); (have := h.2; omega)) | (intro h; rcases h.1 with h1 | h1; (have := h1.2; omega); (have := h.2; omega)) | (intro h; rcases h.1 with h1 | h1; (exact hAS _ h1.1 rfl); (have := h.2; omega)) | (intro h; rcases h with h | h; (have := hA _ h; omega); omega) | (intro h; have := hA _ h; omega) | (intro h; rcases h with h | h; (have := h.2; omega); omega) | exact Ar.nbr | exact Ai.nbr | exact Ar.no (by omega) | exact Ai.no (by omega))
   refine s_end (hK12 _ _ ?_)
   refine dk2_one (br) (bm) (ops := regOps Try.f62 8) (N := 12) (by kernel_rfl) wide_orders (by kernel_rfl) fun w14 hw14 B15 hS K13 hK13 => ?_
   have zw14 : w14.heap.size = w12.heap.size := by rw [hw14]
   have sB15 := B15.size
   have hK := hK.below B15
   have hQ := hQ.below B15
   have mm := mm.old B15
   have m3 := m3.old B15
   have m6 := m6.old B15
   have m10 := m10.old B15
   have hR := hR.below B15
   have hM := hM.below B15
   have hR_d := hR
   have mm_d := mm
   have m3_d := m3
   have m6_d := m6
   have hM_d := hM
   have m10_d := m10
   have hK_d := hK
   have hQ_d := hQ
   refine hF.d 0 26 (.move (.tmp 7)) hS (fun W hW => x_move rfl) fun a hF => ?_
   refine hF.d 1 27 (.move (.tmp 9)) hS (fun W hW => x_move rfl) fun a hF => ?_
   refine hF.d 2 28 (.load 27 (.tmp 10)) hS (fun W hW => x_ldW wide27 (m10_d.k2 hW (by omega)) rfl rfl) fun a hF => ?_
   refine hF.d 3 29 (.move (.tmp 1)) hS (fun W hW => x_move rfl) fun a hF => ?_
   refine hF.d 4 30 (.load 27 (.tmp 3)) hS (fun W hW => x_ldW wide27 (m3_d.k2 hW (by omega)) rfl rfl) fun a hF => ?_
   refine hF.d 5 31 (.move (.tmp 9)) hS (fun W hW => x_move rfl) fun a hF => ?_
   refine hF.d 8 34 (.move (.tmp 2)) hS (fun W hW => x_move rfl) fun a hF => ?_
   refine d1 6 (some 32) (.call (.mk (.value (.func 105)) #[(.tmp 30), (.tmp 31)] #[27, 3])) fun ty pos af => ?_
   refine s_callB [_, _] hF E105 rfl (by decide) (binds112 c x A i wl w14 hx (by omega)) fun w16 a B17 hF => ?_
   have sB17 := B17.size
   have hK := hK.below B17
   have hQ := hQ.below B17
   have mm := mm.old B17
   have m3 := m3.old B17
   have m6 := m6.old B17
   have hS := hS.below B17
   have hR := hR.below B17
   have hM := hM.below B17
   refine s_end ⟨hS, ?_⟩
   refine hF.d 7 33 (.binOp .add 3 (.tmp 29) (.tmp 32) 3) hS (fun W hW => x_add (by omega) (by omega) rfl rfl) fun a hF => ?_
   refine d1 9 (some 35) (.call (.mk (.value (.func 62)) #[(.tmp 28), (.tmp 33), (.tmp 34)] #[27, 3, 89])) fun ty pos af => ?_
   refine s_call (R := fun u w' => ((∃ y, u = tv y ∧ RE w' (AS A w16.heap.size) (kd.fold G (d + c.bnd i)) y ∧ Tt kd y) ∧ Room w' br) ∧ Ktw br br w16 w') hF [_, _, _] E62 rfl (by decide) (ih kd y (d + c.bnd i) w16 (by omega) hry (hPc _ _ _ hPx hyk) (by omega) (by omega) hK hR) ?_
   rintro _ w18 a ⟨⟨⟨z35, rfl, hz35, _⟩, hR⟩, k19⟩ hF
   have sk19 := k19.size
   have hK := hK.trans k19 (by omega)
   have hQ := hQ.trans k19 (by omega)
   have mm := mm.k2 k19 (by omega)
   have m3 := m3.k2 k19 (by omega)
   have m6 := m6.k2 k19 (by omega)
   have hS := hS.trans k19 (by omega)
   have hM := hM.k2 k19 (by first | (intro h; have h2 := h.2; omega) | (intro h; rcases h.1 with h1 | h1; (have := hA _ h1; omega); (have := h.2; omega)) | (intro h; rcases h.1 with h1 | h1; (have := h1.2; omega); (have := h.2; omega)) | (intro h; rcases h.1 with h1 | h1; (exact hAS _ h1.1 rfl); (have := h.2; omega)) | (intro h; rcases h with h | h; (have := hA _ h; omega); omega) | (intro h; have := hA _ h; omega) | (intro h; rcases h with h | h; (have := h.2; omega); omega) | exact Ar.nbr | exact Ai.nbr | exact Ar.no (by omega) | exact Ai.no (by omega)) (by first | (intro h; have h2 := h.2; omega) | (intro h; rcases h.1 with h1 | h1; (have := hA _ h1; omega); (have := h.2; omega)) | (intro h; rcases h.1 with h1 | h1; (have := h1.2; omega); (have := h.2; omega)) | (intro h; rcases h.1 with h1 | h1; (exact hAS _ h1.1 rfl); (have := h.2; omega)) | (intro h; rcases h with h | h; (have := hA _ h; omega); omega) | (intro h; have := hA _ h; omega) | (intro h; rcases h with h | h; (have := h.2; omega); omega) | exact Ar.nbr | exact Ai.nbr | exact Ar.no (by omega) | exact Ai.no (by omega))
   have hz35 := hz35.mono (AS.mono (s' := bm + 1) (by omega))
   refine s_end ⟨hS, ?_⟩
   refine hF.d 10 36 (.indexAddr 25 (.tmp 26) (.tmp 27)) hS (fun W hW => x_ixa rfl rfl (m_ixsK i Try.underlying25 el25.size rfl (by omega))) fun a hF => ?_
   refine d1 11 none (.store 27 (.tmp 36) (.tmp 35)) fun ty pos af => ?_
   refine s_putP hF rfl rfl (size_wide wide27) mm (by rw [hl]; simp only [tc_len]; omega) hz35.one fun w40 mm o40 => ?_
   have so40 := o40.size
   have hK := hK.only o40 (by omega)
   have hQ := hQ.only o40 (by omega)
   have m3 := m3.only o40 (by omega)
   have m6 := m6.only o40 (by omega)
   have hS := hS.only o40 (by omega)
   have hR := hR.only o40 (by omega)
   have hM := hM.only o40 (by first | (intro h; have h2 := h.2; omega) | (intro h; rcases h.1 with h1 | h1; (have := hA _ h1; omega); (have := h.2; omega)) | (intro h; rcases h.1 with h1 | h1; (have := h1.2; omega); (have := h.2; omega)) | (intro h; rcases h.1 with h1 | h1; (exact hAS _ h1.1 rfl); (have := h.2; omega)) | (intro h; rcases h with h | h; (have := hA _ h; omega); omega) | (intro h; have := hA _ h; omega) | (intro h; rcases h with h | h; (have := h.2; omega); omega) | exact Ar.nbr | exact Ai.nbr | exact Ar.no (by omega) | exact Ai.no (by omega))
   have hz35 := hz35.only o40 (by first | (intro h; have h2 := h.2; omega) | (intro h; rcases h.1 with h1 | h1; (have := hA _ h1; omega); (have := h.2; omega)) | (intro h; rcases h.1 with h1 | h1; (have := h1.2; omega); (have := h.2; omega)) | (intro h; rcases h.1 with h1 | h1; (exact hAS _ h1.1 rfl); (have := h.2; omega)) | (intro h; rcases h with h | h; (have := hA _ h; omega); omega) | (intro h; have := hA _ h; omega) | (intro h; rcases h with h | h; (have := h.2; omega); omega) | exact Ar.nbr | exact Ai.nbr | exact Ar.no (by omega) | exact Ai.no (by omega))
   refine s_end ⟨hS, ?_⟩
   refine d_end (by kernel_rfl) (hK13 _ _ ?_)
   refine hK11 _ _ ?_
   refine wp_region_lit ?_
   refine hF.v (x_add (by omega) (by omega) rfl rfl) fun a hF => ?_
   refine hF.v (x_move rfl) fun a hF => ?_
   refine s_end (hK' _ _ (by omega) ⟨_, by rw [put_len (by rw [hl]; simp only [tc_len]; omega), hl], mm, by rw [htk]; exact (hM.mono fun k h => h.1).snoc hz35 (by rw [hti]; omega) (by rw [hti, hl]; omega), hR, m3, m6, hK, hQ, hF.sub _ rfl⟩)
  ·
   obtain rfl : i = c.kids.length := by omega
   rw [List.take_of_length_le (by rw [CT.folds_len]; exact Nat.le_refl _)] at hM
   have hkv : RKE w (AS A (b6 + 1)) _ (c.folds G d) := (hM.mono fun k h => h.1).rke mm (by rw [hl, CT.folds_len]) (AS.mono (by omega)) (.inr (by omega)) (CT.folds_len G c d).symm
   refine wp_exit (hK3 _ _ ?_)
   refine wp_rs fun K14 hK14 => ?_
   refine hF.v (x_move rfl) fun a hF => ?_
   refine hF.v (x_ldW wide27 m3 rfl rfl) fun a hF => ?_
   refine hF.v (x_move rfl) fun a hF => ?_
   refine hF.v (x_move rfl) fun a hF => ?_
   refine s_callC (R := fun v w' => ((∃ y, v = tv y ∧ RE w' (AS A (b6 + 1)) (G c d (c.folds G d)) y ∧ Tt c y) ∧ Room w' br) ∧ Ktw br br w w') hF [_, _, _] rfl hg rfl (by decide) (HJ _ c x d _ _ _ hK hR hx (by omega) (by omega) (by omega) (by omega) hkv (CT.folds_len G c d) hPx) ?_
   rintro _ w42 a ⟨⟨⟨y42, rfl, hy42, hT42⟩, hR⟩, k42⟩ hF
   have sk42 := k42.size
   have hQ := hQ.trans k42 (by omega)
   have m6 := m6.k2 k42 (by omega)
   refine s_putW hF rfl rfl (size_wide wide27) m6 rfl hy42.one fun w22 m6 o23 => ?_
   have so23 := o23.size
   have hQ := hQ.only o23 (by omega)
   have hR := hR.only o23 (by omega)
   have hy42 := hy42.only o23 (by first | (intro h; have h2 := h.2; omega) | (intro h; rcases h.1 with h1 | h1; (have := hA _ h1; omega); (have := h.2; omega)) | (intro h; rcases h.1 with h1 | h1; (have := h1.2; omega); (have := h.2; omega)) | (intro h; rcases h.1 with h1 | h1; (exact hAS _ h1.1 rfl); (have := h.2; omega)) | (intro h; rcases h with h | h; (have := hA _ h; omega); omega) | (intro h; have := hA _ h; omega) | (intro h; rcases h with h | h; (have := h.2; omega); omega) | exact Ar.nbr | exact Ai.nbr | exact Ar.no (by omega) | exact Ai.no (by omega))
   refine s_end (hK14 _ _ ?_)
   refine wp_ret (res_cell hF rfl rfl m6 wide27 ⟨_, rfl, ⟨⟨y42, rfl, by rw [CT.fold_eq]; exact hy42.mono (AS.mono (by omega)), hT42⟩, hR⟩, hQ⟩)
 ·
  have hkv : RKE w6 (AS A (b6 + 1)) nilS (c.folds G d) := by have e0 : c.folds G d = [] := List.eq_nil_of_length_eq_zero (by rw [CT.folds_len]; omega); rw [e0]; exact RKE.nil w6 _
  refine wp_rs fun K15 hK15 => ?_
  refine hF.v (x_move rfl) fun a hF => ?_
  refine hF.v (x_len Try.underlying25 rfl) fun a hF => ?_
  refine hF.v (gtrF (by omega) rfl rfl) fun a hF => ?_
  refine s_end (hK15 _ _ ?_)
  refine wp_if hF rfl ?_
  refine wp_skip (hK3 _ _ ?_)
  refine wp_rs fun K16 hK16 => ?_
  refine hF.v (x_move rfl) fun a hF => ?_
  refine hF.v (x_ldW wide27 m3 rfl rfl) fun a hF => ?_
  refine hF.v (x_move rfl) fun a hF => ?_
  refine hF.v (x_move rfl) fun a hF => ?_
  refine s_callC (R := fun v w' => ((∃ y, v = tv y ∧ RE w' (AS A (b6 + 1)) (G c d (c.folds G d)) y ∧ Tt c y) ∧ Room w' br) ∧ Ktw br br w6 w') hF [_, _, _] rfl hg rfl (by decide) (HJ _ c x d _ _ _ hK hR hx (by omega) (by omega) (by omega) (by omega) hkv (CT.folds_len G c d) hPx) ?_
  rintro _ w42 a ⟨⟨⟨y42, rfl, hy42, hT42⟩, hR⟩, k42⟩ hF
  have sk42 := k42.size
  have hQ := hQ.trans k42 (by omega)
  have m6 := m6.k2 k42 (by omega)
  refine s_putW hF rfl rfl (size_wide wide27) m6 rfl hy42.one fun w26 m6 o27 => ?_
  have so27 := o27.size
  have hQ := hQ.only o27 (by omega)
  have hR := hR.only o27 (by omega)
  have hy42 := hy42.only o27 (by first | (intro h; have h2 := h.2; omega) | (intro h; rcases h.1 with h1 | h1; (have := hA _ h1; omega); (have := h.2; omega)) | (intro h; rcases h.1 with h1 | h1; (have := h1.2; omega); (have := h.2; omega)) | (intro h; rcases h.1 with h1 | h1; (exact hAS _ h1.1 rfl); (have := h.2; omega)) | (intro h; rcases h with h | h; (have := hA _ h; omega); omega) | (intro h; have := hA _ h; omega) | (intro h; rcases h with h | h; (have := h.2; omega); omega) | exact Ar.nbr | exact Ai.nbr | exact Ar.no (by omega) | exact Ai.no (by omega))
  refine s_end (hK16 _ _ ?_)
  refine wp_ret (res_cell hF rfl rfl m6 wide27 ⟨_, rfl, ⟨⟨y42, rfl, by rw [CT.fold_eq]; exact hy42.mono (AS.mono (by omega)), hT42⟩, hR⟩, hQ⟩)
end Go.Proofs.Ytbhhbfdoadecgaa

namespace Go.Proofs.Ytbhhbfdoadecgaa
open Go.RowKit Go.Shelf
set_option linter.unusedVariables false
set_option linter.unusedSimpArgs false

def enc2 (p : Int × Int) : List Value := [.int .i64 p.1, .int .i64 p.2]
def enc1 (z : Int) : List Value := [.int .i64 z]
set_option maxRecDepth 100000 in
set_option maxHeartbeats 1600000 in
theorem fold119 (wl : World) (g : FuncId) (lb : List Value) (hg : Enters Try.prog g) (D : Int) (hD : D ≤ 4611686018427387904) (Sz : Nat) (G : CT → Int → List (Int × Int) → (Int × Int)) (gv : Value) (hgv : gv = .func (.func g) #[] lb.toArray)
  (HJ : ∀ (W : World) (c : CT) (x : C8) (d : Int) (kv : Value), Below wl.heap.size wl W → RC wl (fun k => k < wl.heap.size) c x → c.size ≤ Sz → 0 ≤ d → d + c.dep ≤ D → Rd W kv 2 c.kids.length ((c.folds G d).flatMap enc2) →
   Calls Try.prog g ([tv x, .int .i64 d, kv] ++ lb).toArray W fun e w' => e = .returned (.agg (enc2 (G c d (c.folds G d))).toArray) ∧ Below W.heap.size W w') :
  ∀ (N : Nat) (c : CT) (x : C8) (d : Int) (W : World), c.size < N → c.size ≤ Sz → RC wl (fun k => k < wl.heap.size) c x → 0 ≤ d → d + c.dep ≤ D → Below wl.heap.size wl W →
   Calls Try.prog 96 #[tv x, .int .i64 d, gv] W fun e w' => e = .returned (.agg (enc2 (c.fold G d)).toArray) ∧ Below W.heap.size W w' := by
 subst hgv
 intro N
 induction N with
 | zero => intro c x d W h; omega
 | succ N ih =>
 intro c x d W hN hSz hx hd0 hdD hK
 have h3 := c.kids_le
 have hdp := c.dep_pos
 have hB := Below.refl W.heap.size W
 have sB := hB.size
 have sK := hK.size
 refine calls_fs 43 [(0, tv x), (1, .int .i64 d), (2, .func (.func g) #[] lb.toArray)] Try.func96 rfl rfl rfl rfl rfl fun a hF => ?_
 refine wp_rs fun K1 hK1 => ?_
 refine s_box (tc x) hF (by decide) rfl rfl fun w2 b3 a eb3 m3 B3 zb3 hF => ?_
 have sB3 := B3.size
 have hK := bt hK B3
 have hB := bt hB B3
 refine s_alloc hF (by decide) zero93 fun w4 b6 a eb6 m6 B5 zb6 hF => ?_
 have sB5 := B5.size
 have hK := bt hK B5
 have hB := bt hB B5
 have m3 := m3.old B5
 refine s_end (hK1 _ _ ?_)
 refine wp_rs fun K2 hK2 => ?_
 refine hF.v (x_assign rfl) fun a hF => ?_
 refine s_end (hK2 _ _ ?_)
 refine wp_seq_k fun K3 hK3 => ?_
 refine wp_rs fun K4 hK4 => ?_
 refine hF.v (x_ldW wide27 m3 rfl rfl) fun a hF => ?_
 refine s_callR (R := fun v w' => RK wl (fun k => k < wl.heap.size) v c.kids) [_] hF E88 rfl (by decide) (kidsOf101 c x (fun k => k < wl.heap.size) wl w4 hx) ?_
 rintro v12 w6 a hv12 B7 hF
 have sB7 := B7.size
 have hK := bt hK B7
 have hB := bt hB B7
 have m3 := m3.old B7
 have m6 := m6.old B7
 obtain ⟨a12, c12, hve, _⟩ := hv12.form
 subst hve
 refine hF.v (x_assign rfl) fun a hF => ?_
 refine s_end (hK4 _ _ ?_)
 rcases (show 0 < c.kids.length ∨ c.kids.length = 0 by omega) with hk | hk
 ·
  skip
  refine wp_rs fun K6 hK6 => ?_
  refine hF.v (x_move rfl) fun a hF => ?_
  refine hF.v (x_len Try.underlying25 rfl) fun a hF => ?_
  refine hF.v (gtrT (by omega) rfl rfl) fun a hF => ?_
  refine s_end (hK6 _ _ ?_)
  refine wp_if hF rfl ?_
  refine wp_rs fun K7 hK7 => ?_
  refine hF.v (x_move rfl) fun a hF => ?_
  refine hF.v (x_len Try.underlying25 rfl) fun a hF => ?_
  refine s_mkG c.kids.length el122 hF (by decide) rfl rfl (by omega) (by omega) rfl rfl fun w18 bm a cs18 eb18 hl18 mm B18 z18 hF => ?_
  have sB18 := B18.size
  have hK := bt hK B18
  have hB := bt hB B18
  have m3 := m3.old B18
  have m6 := m6.old B18
  refine hF.v (x_assign rfl) fun a hF => ?_
  refine s_end (hK7 _ _ ?_)
  refine wp_rs fun K8 hK8 => ?_
  refine hF.v (x_move rfl) fun a hF => ?_
  refine hF.v (x_len Try.underlying25 rfl) fun a hF => ?_
  refine hF.v (x_move rfl) fun a hF => ?_
  refine s_end (hK8 _ _ ?_)
  refine wp_block ?_
  refine wp_up c.kids.length (fun i a w => ∃ cs, cs.length = c.kids.length * 2 ∧ Blk w bm 81 cs ∧ cs.take (i * 2) = ((c.folds G d).take i).flatMap enc2 ∧ Blk w b3 27 (tc x) ∧ Blk w b6 81 [.int .i64 0, .int .i64 0] ∧ Below wl.heap.size wl w ∧ Below W.heap.size W w ∧ Fs 43 a [(1, .int .i64 d), (2, .func (.func g) #[] lb.toArray), (3, .pointer (some ⟨b3, 0, none⟩)), (6, .pointer (some ⟨b6, 0, none⟩)), (7, .slice (some ⟨bm, 0, none⟩) c.kids.length c.kids.length), (19, .slice a12 c.kids.length c12), (20, .int .i64 (c.kids.length : Int)), (21, .int .i64 (i : Int))]) ⟨cs18, hl18, mm, by simp, m3, m6, hK, hB, hF.sub _ rfl⟩ ?_
  clear hF mm m3 m6 hK hB
  rintro i a w hi ⟨cs, hl, mm, hM, m3, m6, hK, hB, hF⟩ K' hK'
  have sK := hK.size
  have sB := hB.size
  have hbmw := mm.lt
  have hb3w := m3.lt
  have hb6w := m6.lt
  refine wp_rs fun K9 hK9 => ?_
  refine hF.v (x_lss (b := decide (i < c.kids.length)) (decide_eq_decide.2 (by omega)) rfl rfl) fun a hF => ?_
  refine s_end (hK9 _ _ ?_)
  refine wp_seq_k fun K10 hK10 => ?_
  refine wp_iff hF rfl (fun hc22 => ?_) (fun hc22 => ?_)
  ·
   obtain ⟨b9, off9, c9, y, kd, hve, hyk, hry, hAb, hbl, hrow⟩ := hv12.row (i := i) (by omega)
   cases hve
   have hks := CT.kid_size hyk
   have hbd := c.bnd_is i
   have htk := take_snoc (CT.folds_get G (d := d) hyk)
   have hti : ((c.folds G d).take i).length = i := by rw [List.length_take, CT.folds_len]; omega
   refine wp_skip (hK10 _ _ ?_)
   refine wp_seq_k fun K11 hK11 => ?_
   refine wp_block ?_
   refine wp_rs fun K12 hK12 => ?_
   refine hF.v (x_move rfl) fun a hF => ?_
   refine hF.v (x_ixa rfl rfl (m_ixsK i Try.underlying25 el25.size rfl (by omega))) fun a hF => ?_
   refine hF.v (x_ldA wide27 (hrow _ (hK.block _ hbl)) rfl rfl) fun a hF => ?_
   refine s_alloc hF (by decide) zero27 fun w8 b10 a eb10 m10 B9 zb10 hF => ?_
   have sB9 := B9.size
   have hK := bt hK B9
   have hB := bt hB B9
   have mm := mm.old B9
   have m3 := m3.old B9
   have m6 := m6.old B9
   refine hF.v (x_assign rfl) fun a hF => ?_
   refine s_putW hF rfl rfl (size_wide wide27) m10 rfl hry.one fun w12 m10 o13 => ?_
   have so13 := o13.size
   have hK := hK.trans (o13.below (by omega))
   have hB := hB.trans (o13.below (by omega))
   have mm := mm.only o13 (by omega)
   have m3 := m3.only o13 (by omega)
   have m6 := m6.only o13 (by omega)
   refine s_end (hK12 _ _ ?_)
   refine dk2_one (bm) (bm) (ops := regOps Try.f96 8) (N := 12) (by kernel_rfl) wide_orders (by kernel_rfl) fun w14 hw14 B15 hS K13 hK13 => ?_
   have zw14 : w14.heap.size = w12.heap.size := by rw [hw14]
   have sB15 := B15.size
   have hK := bt hK B15
   have hB := bt hB B15
   have mm := mm.old B15
   have m3 := m3.old B15
   have m6 := m6.old B15
   have m10 := m10.old B15
   have mm_d := mm
   have m3_d := m3
   have m6_d := m6
   have m10_d := m10
   have hK_d := hK
   have hB_d := hB
   refine hF.d 0 26 (.move (.tmp 7)) hS (fun W hW => x_move rfl) fun a hF => ?_
   refine hF.d 1 27 (.move (.tmp 9)) hS (fun W hW => x_move rfl) fun a hF => ?_
   refine hF.d 2 28 (.load 27 (.tmp 10)) hS (fun W hW => x_ldW wide27 (m10_d.k2 hW (by omega)) rfl rfl) fun a hF => ?_
   refine hF.d 3 29 (.move (.tmp 1)) hS (fun W hW => x_move rfl) fun a hF => ?_
   refine hF.d 4 30 (.load 27 (.tmp 3)) hS (fun W hW => x_ldW wide27 (m3_d.k2 hW (by omega)) rfl rfl) fun a hF => ?_
   refine hF.d 5 31 (.move (.tmp 9)) hS (fun W hW => x_move rfl) fun a hF => ?_
   refine hF.d 8 34 (.move (.tmp 2)) hS (fun W hW => x_move rfl) fun a hF => ?_
   refine d1 6 (some 32) (.call (.mk (.value (.func 105)) #[(.tmp 30), (.tmp 31)] #[27, 3])) fun ty pos af => ?_
   refine s_callB [_, _] hF E105 rfl (by decide) (binds112 c x (fun k => k < wl.heap.size) i wl w14 hx (by omega)) fun w16 a B17 hF => ?_
   have sB17 := B17.size
   have hK := bt hK B17
   have hB := bt hB B17
   have mm := mm.old B17
   have m3 := m3.old B17
   have m6 := m6.old B17
   have hS := hS.below B17
   refine s_end ⟨hS, ?_⟩
   refine hF.d 7 33 (.binOp .add 3 (.tmp 29) (.tmp 32) 3) hS (fun W hW => x_add (by omega) (by omega) rfl rfl) fun a hF => ?_
   refine d1 9 (some 35) (.call (.mk (.value (.func 96)) #[(.tmp 28), (.tmp 33), (.tmp 34)] #[27, 3, 121])) fun ty pos af => ?_
   refine s_callB [_, _, _] hF E96 rfl (by decide) (ih kd y (d + c.bnd i) w16 (by omega) (by omega) hry (by omega) (by omega) hK) fun w18 a B19 hF => ?_
   have sB19 := B19.size
   have hK := bt hK B19
   have hB := bt hB B19
   have mm := mm.old B19
   have m3 := m3.old B19
   have m6 := m6.old B19
   have hS := hS.below B19
   refine s_end ⟨hS, ?_⟩
   refine hF.d 10 36 (.indexAddr 119 (.tmp 26) (.tmp 27)) hS (fun W hW => x_ixa rfl rfl (m_ixsK i Try.underlying119 el122.size rfl (by omega))) fun a hF => ?_
   refine d1 11 none (.store 81 (.tmp 36) (.tmp 35)) fun ty pos af => ?_
   refine s_putP (vs := enc2 _) hF rfl rfl (size_wide wide93) mm (by rw [hl]; simp only [enc2, List.length_cons, List.length_nil]; omega) (oneII _ _) fun w40 mm o40 => ?_
   have so40 := o40.size
   have hK := hK.trans (o40.below (by omega))
   have hB := hB.trans (o40.below (by omega))
   have m3 := m3.only o40 (by omega)
   have m6 := m6.only o40 (by omega)
   have hS := hS.only o40 (by omega)
   refine s_end ⟨hS, ?_⟩
   refine d_end (by kernel_rfl) (hK13 _ _ ?_)
   refine hK11 _ _ ?_
   refine wp_region_lit ?_
   refine hF.v (x_add (by omega) (by omega) rfl rfl) fun a hF => ?_
   refine hF.v (x_move rfl) fun a hF => ?_
   refine s_end (hK' _ _ (by omega) ⟨_, by rw [put_len (by rw [hl]; simp only [enc2, List.length_cons, List.length_nil]; omega), hl], mm, by rw [htk, List.flatMap_append, ← hM, show (i + 1) * 2 = (0 + i * 2) + (enc2 (kd.fold G (d + c.bnd i))).length by simp only [enc2, List.length_cons, List.length_nil]; omega, take_put (by rw [hl]; omega), Nat.zero_add]; simp, m3, m6, hK, hB, hF.sub _ rfl⟩)
  ·
   obtain rfl : i = c.kids.length := by omega
   rw [List.take_of_length_le (by rw [hl]; exact Nat.le_refl _), List.take_of_length_le (by rw [CT.folds_len]; exact Nat.le_refl _)] at hM
   have hkv : Rd w (.slice (some ⟨bm, 0, none⟩) c.kids.length c.kids.length) 2 c.kids.length ((c.folds G d).flatMap enc2) := by rw [← hM]; exact Rd.blk mm hl
   refine wp_exit (hK3 _ _ ?_)
   refine wp_rs fun K14 hK14 => ?_
   refine hF.v (x_move rfl) fun a hF => ?_
   refine hF.v (x_ldW wide27 m3 rfl rfl) fun a hF => ?_
   refine hF.v (x_move rfl) fun a hF => ?_
   refine hF.v (x_move rfl) fun a hF => ?_
   refine s_callC (R := fun v w' => v = .agg (enc2 (G c d (c.folds G d))).toArray ∧ Below w.heap.size w w') hF [_, _, _] rfl hg rfl (by decide) ((HJ _ c x d _ hK hx hSz (by omega) (by omega) hkv).mono fun e w' h => ⟨_, h.1, rfl, h.2⟩) ?_
   rintro _ w42 a ⟨rfl, B42⟩ hF
   have sB42 := B42.size
   have hB := bt hB B42
   have m6 := m6.old B42
   refine s_putW hF rfl rfl (size_wide wide93) m6 rfl (oneII _ _) fun w22 m6 o23 => ?_
   have so23 := o23.size
   have hB := hB.trans (o23.below (by omega))
   refine s_end (hK14 _ _ ?_)
   refine wp_ret (res_cell (cs := enc2 _) hF rfl rfl m6 wide93 ⟨by rw [CT.fold_eq], hB⟩)
 ·
  have hkv : Rd w6 nilS 2 c.kids.length ((c.folds G d).flatMap enc2) := by have e0 : c.folds G d = [] := List.eq_nil_of_length_eq_zero (by rw [CT.folds_len]; omega); rw [e0, hk]; exact Rd.nil w6 2
  refine wp_rs fun K15 hK15 => ?_
  refine hF.v (x_move rfl) fun a hF => ?_
  refine hF.v (x_len Try.underlying25 rfl) fun a hF => ?_
  refine hF.v (gtrF (by omega) rfl rfl) fun a hF => ?_
  refine s_end (hK15 _ _ ?_)
  refine wp_if hF rfl ?_
  refine wp_skip (hK3 _ _ ?_)
  refine wp_rs fun K16 hK16 => ?_
  refine hF.v (x_move rfl) fun a hF => ?_
  refine hF.v (x_ldW wide27 m3 rfl rfl) fun a hF => ?_
  refine hF.v (x_move rfl) fun a hF => ?_
  refine hF.v (x_move rfl) fun a hF => ?_
  refine s_callC (R := fun v w' => v = .agg (enc2 (G c d (c.folds G d))).toArray ∧ Below w6.heap.size w6 w') hF [_, _, _] rfl hg rfl (by decide) ((HJ _ c x d _ hK hx hSz (by omega) (by omega) hkv).mono fun e w' h => ⟨_, h.1, rfl, h.2⟩) ?_
  rintro _ w42 a ⟨rfl, B42⟩ hF
  have sB42 := B42.size
  have hB := bt hB B42
  have m6 := m6.old B42
  refine s_putW hF rfl rfl (size_wide wide93) m6 rfl (oneII _ _) fun w26 m6 o27 => ?_
  have so27 := o27.size
  have hB := hB.trans (o27.below (by omega))
  refine s_end (hK16 _ _ ?_)
  refine wp_ret (res_cell (cs := enc2 _) hF rfl rfl m6 wide93 ⟨by rw [CT.fold_eq], hB⟩)

end Go.Proofs.Ytbhhbfdoadecgaa

namespace Go.Proofs.Ytbhhbfdoadecgaa
open Go.RowKit Go.Shelf
set_option linter.unusedVariables false
set_option linter.unusedSimpArgs false
section
variable {P : Program} {ops : Array Oper} {n d : Nat} {l : List (Nat × Value)} {w : World} {a : Act} {Q : Exit → Act → World → Prop} {rest : List Oper} {ty : TypeId} {pos : String} {af : Array Edge} {x y : Operand} {t e k kb base m o : Nat} {v : Value} {xs ys : List Value}
theorem s_appL {ds : List Deferred} {bu : Nat} (hE : Elem P t e k kb) (hF : Fs n a l (ds := ds)) (hd : d < n) (hx : ov l x = some v) (hy : ov l y = some (.slice (some ⟨bu, 0, none⟩) 1 1)) (hO : w.ownsRow base e k v m xs) (hU : Blk w bu e ys) (hl : ys.length = k) (h1 : ∀ u ∈ ys, u.oneCell' = true) (hat : ∀ j, v.ownBlock = some j → j = o) (ho : o < w.heap.size) (hm : m ≤ 100000000) (hkb : kb ≤ 1000) (hb : base ≤ w.heap.size)
  (h : ∀ v' w' a' o', w'.ownsRow base e k v' (m + 1) (xs ++ ys) → (∀ j, v'.ownBlock = some j → j = o') → ((o' = o ∨ w.heap.size ≤ o') ∧ o' < w'.heap.size) → (∀ j, v'.ownBlock = some j → v.ownBlock = some j ∨ w.heap.size ≤ j) → Ktw o o w w' → (∀ j, j < w.heap.size → v.ownBlock ≠ some j → w'.heap[j]? = w.heap[j]?) → Fs n a' ((d, v') :: l) (ds := ds) → wpList P ops Q rest a' w') :
  wpList P ops Q (⟨some d, .call { callee := .builtin .append, args := #[x, y], argTypes := #[t, t] }, ty, pos, af, none⟩ :: rest) a w := by
 have hR : Rd w (.slice (some ⟨bu, 0, none⟩) 1 1) k 1 ys := Rd.blk hU (by omega)
 refine s_appG hE hF hd hx hy hO hR h1 ?_ (by simp only [maxLen]; omega) hb fun v' w' a' hO' hg hw hF' => ?_
 ·
  have : (m + 1) * kb ≤ 100000001 * 1000 := Nat.mul_le_mul (by omega) hkb
  omega
 ·
  have hK : Ktw o o w w' := ⟨hg.os, hg.tape, hg.output, hg.size, fun j hj hne => hg.block j hj (fun e => by have := hat j e.symm; omega)⟩
  have hkeep : ∀ j, j < w.heap.size → v.ownBlock ≠ some j → w'.heap[j]? = w.heap[j]? := fun j hj hne => hg.block j hj (fun e => hne e.symm)
  cases hv : v'.ownBlock with
  | none => exact h v' w' a' o hO' (fun j hj => by rw [hv] at hj; cases hj) ⟨.inl rfl, Nat.lt_of_lt_of_le ho hg.size⟩ hw hK hkeep hF'
  | some q =>
   refine h v' w' a' q hO' (fun j hj => by rw [hv] at hj; exact (Option.some.inj hj).symm) ⟨?_, (hO'.lt q hv).2⟩ hw hK hkeep hF'
   rcases hw q hv with h1 | h1
   ·
    exact .inl (hat q h1)
   ·
    exact .inr h1
end

mutual
def Lv.sz : Lv → Nat
 | .mk _ _ ls => Lv.szs ls + 1
def Lv.szs : List Lv → Nat
 | [] => 0
 | l :: ls => l.sz + Lv.szs ls
end
theorem szs_app : ∀ (xs ys : List Lv), Lv.szs (xs ++ ys) = Lv.szs xs + Lv.szs ys
 | [], ys => by simp [Lv.szs]
 | x :: xs, ys => by simp [Lv.szs, szs_app xs ys]; omega
theorem szs_take {ls : List Lv} {i : Nat} {p : Lv} (h : ls[i]? = some p) : Lv.szs (ls.take (i + 1)) = Lv.szs (ls.take i) + p.sz := by
 rw [take_snoc h, szs_app]; simp [Lv.szs]
theorem szs_le (ls : List Lv) (i : Nat) : Lv.szs (ls.take i) ≤ Lv.szs ls := by
 have := szs_app (ls.take i) (ls.drop i)
 rw [List.take_append_drop] at this
 omega
theorem Lv.sz_pos : ∀ l : Lv, 1 ≤ l.sz
 | .mk _ _ _ => by simp [Lv.sz]
theorem szs_len : ∀ ls : List Lv, ls.length ≤ Lv.szs ls
 | [] => Nat.le_refl _
 | l :: ls => by have := szs_len ls; have := l.sz_pos; simp [Lv.szs]; omega
theorem cpys_map : ∀ ls : List Lv, cpys ls = ls.map cpy
 | [] => rfl
 | l :: ls => by simp [cpys, cpys_map ls]
/-- Levels of whatever form, one behind the other. -/
def QL (W : World) (A : Nat → Prop) (zs : List C3) (ps : List Lv) : Prop := zs.length = ps.length ∧ ∀ (j : Nat) z p, zs[j]? = some z → ps[j]? = some p → RLn W A z p
section
variable {W W' : World} {A B : Nat → Prop} {zs : List C3} {ps : List Lv}
theorem QL.nil : QL W A [] [] := ⟨rfl, fun j z p h => by simp at h⟩
theorem QL.mono (h : QL W A zs ps) (hm : ∀ k, A k → B k) : QL W B zs ps := ⟨h.1, fun j z p h1 h2 => (h.2 j z p h1 h2).mono hm⟩
theorem QL.valid (h : QL W A zs ps) : QL W (fun k => A k ∧ k < W.heap.size) zs ps := ⟨h.1, fun j z p h1 h2 => (h.2 j z p h1 h2).valid⟩
theorem QL.keep (h : QL W A zs ps) (hs : W.heap.size ≤ W'.heap.size) (hk : ∀ k, A k → k < W.heap.size → W'.heap[k]? = W.heap[k]?) : QL W' A zs ps := ⟨h.1, fun j z p h1 h2 => RLn.keep hs hk (h.2 j z p h1 h2)⟩
theorem QL.below (h : QL W A zs ps) (hB : Below W.heap.size W W') : QL W' A zs ps := h.keep hB.size fun k _ hk => hB.block k hk
theorem QL.only {c : Nat} (h : QL W A zs ps) (o : Only c W W') (hc : ∀ k, A k → k ≠ c) : QL W' A zs ps := h.keep (Nat.le_of_eq o.size.symm) fun k ha _ => o.block k (hc k ha)
theorem QL.k2 {a b : Nat} (h : QL W A zs ps) (hK : Ktw a b W W') (hc : ∀ k, A k → k ≠ a ∧ k ≠ b) : QL W' A zs ps := h.keep hK.size fun k ha hk => hK.block k hk (hc k ha)
theorem QL.snoc {z : C3} {p : Lv} (h : QL W A zs ps) (hz : RLn W A z p) : QL W A (zs ++ [z]) (ps ++ [p]) := by
 refine ⟨by simp [h.1], fun j y q e1 e2 => ?_⟩
 rcases Nat.lt_trichotomy j zs.length with hj | hj | hj
 ·
  rw [List.getElem?_append_left hj] at e1
  rw [List.getElem?_append_left (by have := h.1; omega)] at e2
  exact h.2 j y q e1 e2
 ·
  subst hj
  rw [List.getElem?_append_right (Nat.le_refl _)] at e1
  rw [h.1, List.getElem?_append_right (Nat.le_refl _)] at e2
  simp at e1 e2
  subst e1 e2
  exact hz
 ·
  rw [List.getElem?_eq_none (by simp; omega)] at e1
  cases e1
end
/-- RLn, by another name. -/
def RLx (W : World) (A : Nat → Prop) (x : C3) (l : Lv) : Prop := RLn W A x l
section
variable {W W' : World} {A B : Nat → Prop} {x : C3} {l : Lv}
theorem RLx.below (h : RLx W A x l) (hB : Below W.heap.size W W') : RLx W' A x l := RLn.keep hB.size (fun k _ hk => hB.block k hk) h
theorem RLx.only {c : Nat} (h : RLx W A x l) (o : Only c W W') (hc : ∀ k, A k → k ≠ c) : RLx W' A x l := RLn.keep (Nat.le_of_eq o.size.symm) (fun k ha _ => o.block k (hc k ha)) h
theorem RLx.k2 {a b : Nat} (h : RLx W A x l) (hK : Ktw a b W W') (hc : ∀ k, A k → k ≠ a ∧ k ≠ b) : RLx W' A x l := RLn.keep hK.size (fun k ha hk => hK.block k hk (hc k ha)) h
theorem RLx.mono (h : RLx W A x l) (hm : ∀ k, A k → B k) : RLx W B x l := RLn.mono hm h
theorem RLx.valid (h : RLx W A x l) : RLx W (fun k => A k ∧ k < W.heap.size) x l := RLn.valid h
theorem RLx.rl (h : RLx W A x l) : RL W x l := RLn.rl h
theorem RL_b {W W' : World} {x : C3} {l : Lv} (hB : Below W.heap.size W W') (h : RL W x l) : RL W' x l := h.old hB
end

set_option maxRecDepth 100000 in
set_option maxHeartbeats 1600000 in
theorem fitsL154 (w0 : World) (g : Nat) (hg : w0.heap.size ≤ g) : ∀ (N : Nat) (l : Lv) (x : C3), l.sz < N → RL w0 x l → ∀ (d r : Nat) (w1 : World), d ≤ 100000 → r ≤ 100000000 → Below w0.heap.size w0 w1 → Blk w1 g 3 [.int .i64 (r : Int)] →
  Calls Try.prog 164 #[lv x, .int .i64 (d : Int), .pointer (some ⟨g, 0, none⟩)] w1 fun e w' => ∃ u, e = .returned u ∧ (∃ b r', u = .bool b ∧ Blk w' g 3 [.int .i64 ((r' : Nat) : Int)] ∧ (b = true → r' + l.sz = r) ∧ r' ≤ r) ∧ Ktw g g w1 w' := by
 intro N
 induction N with
 | zero => intro s x h; omega
 | succ N ih =>
 rintro l ⟨k, n, v⟩ hN hL d r w1 hd1 hr1 hB mg
 cases hL with
 | @mk _ _ _ xs ls hR hl hk =>
 obtain ⟨av, cv, rfl, _⟩ := hR.form
 have hK := Ktw.refl g g w1
 have sB := hB.size
 have hgl := mg.lt
 have hsz : (Lv.mk k n ls).sz = Lv.szs ls + 1 := rfl
 refine calls_fs 36 [(0, .agg [.int .i64 k, .int .i64 n, .slice av xs.length cv].toArray), (1, .int .i64 (d : Int)), (2, .pointer (some ⟨g, 0, none⟩))] Try.func164 rfl rfl rfl rfl rfl fun a hF => ?_
 refine wp_rs fun K1 hK1 => ?_
 refine s_box ([.int .i64 k, .int .i64 n, .slice av xs.length cv]) hF (by decide) rfl rfl fun w2 b3 a eb3 m3 B3 zb3 hF => ?_
 have sB3 := B3.size
 have hB := bt hB B3
 have hK := hK.below B3
 have mg := mg.old B3
 refine hF.v (x_assign rfl) fun a hF => ?_
 refine s_end (hK1 _ _ ?_)
 refine wp_seq_k fun K2 hK2 => ?_
 rcases (show d = 0 ∨ (d ≠ 0 ∧ r = 0) ∨ (d ≠ 0 ∧ r ≠ 0) by omega) with hk9 | hk9 | hk9
 ·
  skip
  refine wp_rs fun K4 hK4 => ?_
  refine hF.v (x_move rfl) fun a hF => ?_
  refine hF.v (eqlT (by omega) rfl rfl) fun a hF => ?_
  refine hF.v (x_move rfl) fun a hF => ?_
  refine s_grdn 11 hF rfl rfl (by decide) fun a hF => ?_
  refine s_grdn 11 hF rfl rfl (by decide) fun a hF => ?_
  refine s_grdn 11 hF rfl rfl (by decide) fun a hF => ?_
  refine s_grdn 11 hF rfl rfl (by decide) fun a hF => ?_
  refine hF.v (x_pick (b := true) rfl rfl) fun a hF => ?_
  refine s_end (hK4 _ _ ?_)
  refine wp_if hF rfl ?_
  refine wp_rs fun K5 hK5 => ?_
  refine hF.v (x_assign rfl) fun a hF => ?_
  refine s_end (hK5 _ _ ?_)
  refine wp_ret (then_ret (res_slot hF rfl rfl ⟨_, rfl, ⟨false, r, rfl, mg, (fun h => by cases h), Nat.le_refl _⟩, hK⟩))
 ·
  skip
  refine wp_rs fun K6 hK6 => ?_
  refine hF.v (x_move rfl) fun a hF => ?_
  refine hF.v (eqlF (by omega) rfl rfl) fun a hF => ?_
  refine hF.v (x_move rfl) fun a hF => ?_
  refine s_grd 11 hF rfl rfl rfl ?_
  refine hF.v (x_move rfl) fun a hF => ?_
  refine s_grd 11 hF rfl rfl rfl ?_
  refine hF.v (x_nil rfl) fun a hF => ?_
  refine s_grd 11 hF rfl rfl rfl ?_
  refine hF.v (x_load rfl (m_load flat3 (mg.cell (j := 0) rfl))) fun a hF => ?_
  refine s_grd 11 hF rfl rfl rfl ?_
  refine hF.v (eqlT (by omega) rfl rfl) fun a hF => ?_
  refine hF.v (x_pick (b := false) rfl rfl) fun a hF => ?_
  refine s_end (hK6 _ _ ?_)
  refine wp_if hF rfl ?_
  refine wp_rs fun K7 hK7 => ?_
  refine hF.v (x_assign rfl) fun a hF => ?_
  refine s_end (hK7 _ _ ?_)
  refine wp_ret (then_ret (res_slot hF rfl rfl ⟨_, rfl, ⟨false, r, rfl, mg, (fun h => by cases h), Nat.le_refl _⟩, hK⟩))
 ·
  skip
  refine wp_rs fun K8 hK8 => ?_
  refine hF.v (x_move rfl) fun a hF => ?_
  refine hF.v (eqlF (by omega) rfl rfl) fun a hF => ?_
  refine hF.v (x_move rfl) fun a hF => ?_
  refine s_grd 11 hF rfl rfl rfl ?_
  refine hF.v (x_move rfl) fun a hF => ?_
  refine s_grd 11 hF rfl rfl rfl ?_
  refine hF.v (x_nil rfl) fun a hF => ?_
  refine s_grd 11 hF rfl rfl rfl ?_
  refine hF.v (x_load rfl (m_load flat3 (mg.cell (j := 0) rfl))) fun a hF => ?_
  refine s_grd 11 hF rfl rfl rfl ?_
  refine hF.v (eqlF (by omega) rfl rfl) fun a hF => ?_
  refine hF.v (x_pick (b := false) rfl rfl) fun a hF => ?_
  refine s_end (hK8 _ _ ?_)
  refine wp_if hF rfl ?_
  refine wp_skip (hK2 _ _ ?_)
  refine wp_rs fun K9 hK9 => ?_
  refine hF.v (x_move rfl) fun a hF => ?_
  refine hF.v (x_nil rfl) fun a hF => ?_
  refine hF.v (x_load rfl (m_load flat3 (mg.cell (j := 0) rfl))) fun a hF => ?_
  refine hF.v (x_subn (r - 1) (by omega) (by omega) rfl rfl) fun a hF => ?_
  refine hF.v (x_nil rfl) fun a hF => ?_
  refine s_put hF rfl rfl flat3 mg (by first | (simp; done) | (simp [tc, lc]; done) | decide) rfl fun w4 mg o5 => ?_
  have so5 := o5.size
  have hB := hB.trans (o5.below (by omega))
  have hK := hK.only o5 (by omega)
  have m3 := m3.only o5 (by omega)
  refine s_end (hK9 _ _ ?_)
  refine wp_seq_k fun K10 hK10 => ?_
  refine wp_rs fun K11 hK11 => ?_
  refine hF.v (x_fa0 fa24_2 rfl) fun a hF => ?_
  refine hF.v (x_load rfl (m_load flat22 (m3.cell (j := 2) rfl))) fun a hF => ?_
  refine hF.v (x_len Try.underlying22 rfl) fun a hF => ?_
  refine hF.v (x_move rfl) fun a hF => ?_
  refine s_end (hK11 _ _ ?_)
  refine wp_block ?_
  refine wp_up xs.length (fun i a w => ∃ r2 : Nat, Blk w g 3 [.int .i64 (r2 : Int)] ∧ r2 + Lv.szs (ls.take i) + 1 = r ∧ Below w0.heap.size w0 w ∧ Ktw g g w1 w ∧ Fs 36 a [(25, .int .i64 (i : Int)), (24, .int .i64 (xs.length : Int)), (23, .slice av xs.length cv), (1, .int .i64 (d : Int)), (2, .pointer (some ⟨g, 0, none⟩))]) ⟨r - 1, mg, by simp [Lv.szs]; omega, hB, hK, hF.sub _ rfl⟩ ?_
  repeat clear hF
  clear hB hK mg
  rintro i a w hi ⟨r2, mg, hr2, hB, hK, hF⟩ K' hK'
  have sB := hB.size
  have sK := hK.size
  have hgl := mg.lt
  have hsl := szs_le ls i
  have hli := szs_len (ls.take i)
  rw [List.length_take] at hli
  refine wp_rs fun K12 hK12 => ?_
  refine hF.v (x_lss rfl rfl rfl) fun a hF => ?_
  refine s_end (hK12 _ _ ?_)
  refine wp_seq_k fun K13 hK13 => ?_
  refine wp_iff hF rfl (fun hc26 => ?_) (fun hc26 => ?_)
  ·
   obtain ⟨b, off, c, y, hve, hy, hrow⟩ := rd_row3 hR (i := i) (by omega)
   cases hve
   obtain ⟨p, hp⟩ : ∃ p, ls[i]? = some p := ⟨_, List.getElem?_eq_getElem (by omega)⟩
   have hst := szs_take hp
   have hsl1 := szs_le ls (i + 1)
   have h1y := (hk i y p hy hp).one1
   refine wp_skip (hK13 _ _ ?_)
   refine wp_seq_k fun K14 hK14 => ?_
   refine wp_block ?_
   refine wp_rs fun K15 hK15 => ?_
   refine hF.v (x_ixa rfl rfl (m_ixsK i Try.underlying22 el22.size rfl (by omega))) fun a hF => ?_
   refine hF.v (x_ldA wide24 (hrow _ hB) rfl rfl) fun a hF => ?_
   refine s_alloc hF (by decide) zero24 fun w6 b8 a eb8 m8 B7 zb8 hF => ?_
   have sB7 := B7.size
   have hB := bt hB B7
   have hK := hK.below B7
   have mg := mg.old B7
   refine s_putW hF rfl rfl (size_wide wide24) m8 rfl (one_lc h1y) fun w10 m8 o11 => ?_
   have so11 := o11.size
   have hB := hB.trans (o11.below (by omega))
   have hK := hK.only o11 (by omega)
   have mg := mg.only o11 (by omega)
   refine s_end (hK15 _ _ ?_)
   refine wp_rs fun K16 hK16 => ?_
   refine hF.v (x_ldW wide24 m8 rfl rfl) fun a hF => ?_
   refine hF.v (x_move rfl) fun a hF => ?_
   refine hF.v (x_subn (d - 1) (by omega) (by omega) rfl rfl) fun a hF => ?_
   refine hF.v (x_move rfl) fun a hF => ?_
   refine s_call (R := fun u w' => (∃ b r', u = .bool b ∧ Blk w' g 3 [.int .i64 ((r' : Nat) : Int)] ∧ (b = true → r' + p.sz = r2) ∧ r' ≤ r2) ∧ Ktw g g w10 w') hF [_, _, _] E164 rfl (by decide) (ih p y (by omega) (hk i y p hy hp) (d - 1) r2 w10 (by omega) (by omega) hB mg) ?_
   rintro _ w12 a ⟨⟨b33, r3, rfl, mg, h33, h33r⟩, k13⟩ hF
   have sk13 := k13.size
   have hB := k13.under hB (by omega)
   have hK := hK.trans k13 (by omega)
   refine hF.v (x_not rfl) fun a hF => ?_
   refine s_end (hK16 _ _ ?_)
   refine wp_ifb hF rfl (fun hc34 => ?_) (fun hc34 => ?_)
   ·
    refine wp_rs fun K17 hK17 => ?_
    refine hF.v (x_assign rfl) fun a hF => ?_
    refine s_end (hK17 _ _ ?_)
    refine wp_ret (inb_ret (then_ret (then_ret (inb_ret (then_ret (res_slot hF rfl rfl ⟨_, rfl, ⟨false, r3, rfl, mg, (fun h => by cases h), by omega⟩, hK⟩))))))
   ·
    obtain rfl : b33 = true := by simpa using hc34
    have h34 := h33 rfl
    refine wp_skip (hK14 _ _ ?_)
    refine wp_region_lit ?_
    refine hF.v (x_addn (i + 1) (by omega) (by omega) rfl rfl) fun a hF => ?_
    refine hF.v (x_move rfl) fun a hF => ?_
    refine s_end (hK' _ _ (by omega) ⟨r3, mg, by omega, hB, hK, hF.sub _ rfl⟩)
  ·
   have hall : ls.take i = ls := List.take_of_length_le (by omega)
   rw [hall] at hr2
   refine wp_exit (hK10 _ _ ?_)
   refine wp_rs fun K18 hK18 => ?_
   refine hF.v (x_assign rfl) fun a hF => ?_
   refine s_end (hK18 _ _ ?_)
   refine wp_ret (res_slot hF rfl rfl ⟨_, rfl, ⟨true, r2, rfl, mg, (fun _ => by omega), by omega⟩, hK⟩)

set_option maxRecDepth 100000 in
set_option maxHeartbeats 1600000 in
theorem copiedL155 : ∀ (N : Nat) (l : Lv) (x : C3) (w0 : World), l.sz < N → l.sz ≤ 100000000 → RL w0 x l → Calls Try.prog 165 #[lv x] w0 fun e w' => ∃ u, e = .returned u ∧ (∃ z, u = lv z ∧ RLn w' (fun k => w0.heap.size ≤ k) z (cpy l)) ∧ Below w0.heap.size w0 w' := by
 intro N
 induction N with
 | zero => intro s x w0 h; omega
 | succ N ih =>
 rintro l ⟨k, n, v⟩ w0 hN hsz0 hS
 cases hS with
 | @mk _ _ _ xs ls hR hl hk =>
 obtain ⟨av, cv, rfl, _⟩ := hR.form
 have hsz : (Lv.mk k n ls).sz = Lv.szs ls + 1 := rfl
 have hle := szs_len ls
 have hB := Below.refl w0.heap.size w0
 have sB := hB.size
 refine calls_fs 37 [(0, .agg [.int .i64 k, .int .i64 n, .slice av xs.length cv].toArray)] Try.func165 rfl rfl rfl rfl rfl fun a hF => ?_
 refine wp_rs fun K1 hK1 => ?_
 refine s_box ([.int .i64 k, .int .i64 n, .slice av xs.length cv]) hF (by decide) rfl rfl fun w2 b1 a eb1 m1 B3 zb1 hF => ?_
 have sB3 := B3.size
 have hB := bt hB B3
 refine s_alloc hF (by decide) zero24 fun w4 b2 a eb2 m2 B5 zb2 hF => ?_
 have sB5 := B5.size
 have hB := bt hB B5
 have m1 := m1.old B5
 refine s_end (hK1 _ _ ?_)
 refine wp_rs fun K2 hK2 => ?_
 refine hF.v (x_fa0 fa24_0 rfl) fun a hF => ?_
 refine hF.v (x_load rfl (m_load flat3 (m1.cell (j := 0) rfl))) fun a hF => ?_
 refine hF.v (x_build (vs := [(0, _)]) rfl (b24_0 _ _)) fun a hF => ?_
 refine s_alloc hF (by decide) zero24 fun w6 b3 a eb3 m3 B7 zb3 hF => ?_
 have sB7 := B7.size
 have hB := bt hB B7
 have m1 := m1.old B7
 have m2 := m2.old B7
 refine s_putW hF rfl rfl (size_wide wide24) m3 rfl (one3 rfl) fun w10 m3 o11 => ?_
 have so11 := o11.size
 have hB := hB.trans (o11.below (by omega))
 have m1 := m1.only o11 (by omega)
 have m2 := m2.only o11 (by omega)
 refine s_end (hK2 _ _ ?_)
 refine wp_seq_k fun K3 hK3 => ?_
 have key3 : ∀ (a : Act) (w9 : World) (n9 : Int), cpy (.mk k n ls) = .mk k n9 (ls.map cpy) → Blk w9 b1 24 [.int .i64 k, .int .i64 n, .slice av xs.length cv] → Blk w9 b2 24 [.int .i64 0, .int .i64 0, .slice none 0 0] → Blk w9 b3 24 [.int .i64 k, .int .i64 n9, .slice none 0 0] → Below w0.heap.size w0 w9 → Fs 37 a [(1, .pointer (some ⟨b1, 0, none⟩)), (2, .pointer (some ⟨b2, 0, none⟩)), (3, .pointer (some ⟨b3, 0, none⟩))] → K3 a w9 := by
  have hb123 : b1 < b2 ∧ b2 < b3 ∧ w0.heap.size ≤ b1 := ⟨by omega, by omega, by omega⟩
  repeat clear hF
  clear hB m1 m2 m3
  rintro a w9 n9 hcp m1 m2 m3 hB hF
  have sB := hB.size
  have hm1l := m1.lt
  have hm2l := m2.lt
  have hm3l := m3.lt
  refine hK3 _ _ ?_
  refine wp_seq_k fun K4 hK4 => ?_
  refine wp_rs fun K5 hK5 => ?_
  refine hF.v (x_fa0 fa24_2 rfl) fun a hF => ?_
  refine hF.v (x_load rfl (m_load flat22 (m1.cell (j := 2) rfl))) fun a hF => ?_
  refine hF.v (x_len Try.underlying22 rfl) fun a hF => ?_
  refine hF.v (x_move rfl) fun a hF => ?_
  refine s_end (hK5 _ _ ?_)
  refine wp_block ?_
  refine wp_up xs.length (fun i a w => ∃ v' o' zs, w.ownsRow w0.heap.size 24 3 v' zs.length (zs.flatMap lc) ∧ (∀ j, v'.ownBlock = some j → j = o') ∧ v'.ownBlock ≠ some b3 ∧ v'.ownBlock ≠ some b2 ∧ (w0.heap.size ≤ o' ∧ o' < w.heap.size ∧ (o' = b3 ∨ b3 < o')) ∧ QL w (fun k => w0.heap.size ≤ k ∧ k ≠ b2 ∧ k ≠ b3 ∧ k ≠ o' ∧ k < w.heap.size) zs ((ls.map cpy).take i) ∧ Blk w b3 24 [.int .i64 k, .int .i64 n9, v'] ∧ Blk w b2 24 [.int .i64 0, .int .i64 0, .slice none 0 0] ∧ Below w0.heap.size w0 w ∧ Fs 37 a [(24, .int .i64 (i : Int)), (23, .int .i64 (xs.length : Int)), (22, .slice av xs.length cv), (2, .pointer (some ⟨b2, 0, none⟩)), (3, .pointer (some ⟨b3, 0, none⟩))]) ⟨_, b3, [], World.ownsRow_nil _ _ _ _, (fun j h => by cases h), (fun h => by cases h), (fun h => by cases h), by have := m3.lt; omega, by rw [List.take_zero]; exact QL.nil, m3, m2, hB, hF.sub _ rfl⟩ ?_
  have hbb : w0.heap.size ≤ b2 ∧ b2 < b3 := ⟨by omega, by omega⟩
  repeat clear hF
  clear hB m2 m3
  rintro i a w hi ⟨vv, o2, zs, hO, hat, hne, hne2, hlo, hP, mg, m2, hB, hF⟩ K' hK'
  have sB := hB.size
  have hgl := mg.lt
  obtain ⟨top, htop⟩ : ∃ h, h = w.heap.size := ⟨_, rfl⟩
  rw [← htop] at hP
  have hPl := hP.1
  rw [List.length_take, List.length_map] at hPl
  have h1vv := (Rd.own hO).one
  refine wp_rs fun K6 hK6 => ?_
  refine hF.v (x_lss rfl rfl rfl) fun a hF => ?_
  refine s_end (hK6 _ _ ?_)
  refine wp_seq_k fun K7 hK7 => ?_
  refine wp_iff hF rfl (fun hc25 => ?_) (fun hc25 => ?_)
  ·
   obtain ⟨b, off, c, y, hve, hy, hrow⟩ := rd_row3 hR (i := i) (by omega)
   cases hve
   obtain ⟨p, hp⟩ : ∃ p, ls[i]? = some p := ⟨_, List.getElem?_eq_getElem (by omega)⟩
   have hps := szs_take hp
   have hsl1 := szs_le ls (i + 1)
   have hty := hk i y p hy hp
   have h1y := hty.one1
   refine wp_skip (hK7 _ _ ?_)
   refine wp_seq_k fun K8 hK8 => ?_
   refine wp_block ?_
   refine wp_rs fun K9 hK9 => ?_
   refine hF.v (x_ixa rfl rfl (m_ixsK i Try.underlying22 el22.size rfl (by omega))) fun a hF => ?_
   refine hF.v (x_ldA wide24 (hrow _ hB) rfl rfl) fun a hF => ?_
   refine s_alloc hF (by decide) zero24 fun w12 b5 a eb5 m5 B13 zb5 hF => ?_
   have sB13 := B13.size
   have hB := bt hB B13
   have m2 := m2.old B13
   have mg := mg.old B13
   have hO := own_below hO B13
   have hP := hP.below B13
   refine s_putW hF rfl rfl (size_wide wide24) m5 rfl (one_lc h1y) fun w16 m5 o17 => ?_
   have so17 := o17.size
   have hB := hB.trans (o17.below (by omega))
   have m2 := m2.only o17 (by omega)
   have mg := mg.only o17 (by omega)
   have hO := own_only hO o17 (fun e => by have := hat _ e; omega)
   have hP := hP.only o17 (fun k (hk : w0.heap.size ≤ k ∧ k ≠ b2 ∧ k ≠ b3 ∧ k ≠ o2 ∧ k < top) => by omega)
   refine s_end (hK9 _ _ ?_)
   refine dk2_one (b3) (o2) (ops := regOps Try.f165 12) (N := 8) (by kernel_rfl) wide_orders (by kernel_rfl) fun w18 hw18 B19 hS K10 hK10 => ?_
   have zw18 : w18.heap.size = w16.heap.size := by rw [hw18]
   have sB19 := B19.size
   have hB := bt hB B19
   have m2 := m2.old B19
   have mg := mg.old B19
   have hO := own_below hO B19
   have hP := hP.below B19
   have m5 := m5.old B19
   have m2_d := m2
   have mg_d := mg
   have hO_d := hO
   have hP_d := hP
   have m5_d := m5
   have hB_d := hB
   refine hF.d 0 28 (.fieldAddr 24 (.tmp 3) 2) hS (fun W hW => x_fa0 fa24_2 rfl) fun a hF => ?_
   refine hF.d 2 30 (.load 24 (.tmp 5)) hS (fun W hW => x_ldW wide24 (m5_d.k2 hW (by omega)) rfl rfl) fun a hF => ?_
   refine d_two 1 3 (by kernel_rfl) ?_ ?_
   ·
    refine d_op 1 (some 29) (.load 22 (.tmp 28)) (by kernel_rfl) fun ty pos af => ?_
    refine hF.v (x_load rfl (m_load flat22 (mg.cell (j := 2) rfl))) fun a hF => ?_
    refine s_end ⟨hS, ?_⟩
    refine d1 3 (some 31) (.call (.mk (.value (.func 165)) #[(.tmp 30)] #[24])) fun ty pos af => ?_
    refine s_callR (R := fun u w' => ∃ z, u = lv z ∧ RLx w' (fun k => w18.heap.size ≤ k) z (cpy p)) [_] hF E165 rfl (by decide) (ih p y w18 (by omega) (by omega) (RL_b hB hty)) ?_
    rintro _ w20 a ⟨z, rfl, hz0⟩ B21 hF
    have sB21 := B21.size
    have hB := bt hB B21
    have m2 := m2.old B21
    have mg := mg.old B21
    have hO := own_below hO B21
    have hP := hP.below B21
    have hS := hS.below B21
    have hz := hz0.valid
    clear hz0
    have h1z := hz.rl.one1
    refine s_end ⟨hS, ?_⟩
    refine d1 4 (some 32) (.buildSlice 22 1 #[(0, (.tmp 31))]) fun ty pos af => ?_
    refine s_litG [lv z] el22 hF (by decide) rfl (by simp [Value.cells, lc]) rfl (by decide) (by decide) fun w22 bl a ebl ml B23 zbl hF => ?_
    have sB23 := B23.size
    have hB := bt hB B23
    have m2 := m2.old B23
    have mg := mg.old B23
    have hO := own_below hO B23
    have hP := hP.below B23
    have hz := hz.below B23
    have hS := hS.below B23
    have ml : Blk w22 bl 24 (lc z) := by simpa [Value.cells] using ml
    refine s_end ⟨hS, ?_⟩
    refine d1 5 (some 33) (.call (.mk (.builtin .append) #[(.tmp 29), (.tmp 32)] #[22, 22])) fun ty pos af => ?_
    refine s_appL (o := o2) el22 hF (by decide) rfl rfl hO ml rfl (one_lc h1z) hat (by omega) (by omega) (by decide) (by omega) fun v3 w24 a o3 hOn hOatn how hsrc k25 hkeep hF => ?_
    have sk25 := k25.size
    have hB := k25.under hB (by omega)
    have m2 : Blk w24 b2 _ _ := (hkeep _ m2.lt hne2).trans m2
    have mg : Blk w24 b3 _ _ := (hkeep _ mg.lt hne).trans mg
    have hP := hP.k2 k25 (fun k (hk : w0.heap.size ≤ k ∧ k ≠ b2 ∧ k ≠ b3 ∧ k ≠ o2 ∧ k < top) => by omega)
    have hz := hz.k2 k25 (fun k (hk : w18.heap.size ≤ k ∧ k < w20.heap.size) => by omega)
    have hS := hS.trans k25 (by omega)
    have hO := hOn
    have hO_at := hOatn
    have hneg : v3.ownBlock ≠ some b3 := fun h => by rcases hsrc b3 h with h | h; exact hne h; omega
    have hneg2 : v3.ownBlock ≠ some b2 := fun h => by rcases hsrc b2 h with h | h; exact hne2 h; omega
    refine s_end ⟨hS, ?_⟩
    refine hF.d 6 34 (.fieldAddr 24 (.tmp 3) 2) hS (fun W hW => x_fa0 fa24_2 rfl) fun a hF => ?_
    refine d1 7 none (.store 22 (.tmp 34) (.tmp 33)) fun ty pos af => ?_
    refine s_put hF rfl rfl flat22 mg (by first | (simp; done) | (simp [tc, lc]; done) | decide) (Rd.own hO).one fun w26 mg o27 => ?_
    have so27 := o27.size
    have hB := hB.trans (o27.below (by omega))
    have m2 := m2.only o27 (by omega)
    have hO := own_only hO o27 (hneg)
    have hP := hP.only o27 (fun k (hk : w0.heap.size ≤ k ∧ k ≠ b2 ∧ k ≠ b3 ∧ k ≠ o2 ∧ k < top) => by omega)
    have hz := hz.only o27 (fun k (hk : w18.heap.size ≤ k ∧ k < w20.heap.size) => by omega)
    have hS := hS.only o27 (by omega)
    refine s_end ⟨hS, ?_⟩
    refine d_end (by kernel_rfl) (hK10 _ _ ?_)
    refine hK8 _ _ ?_
    refine wp_region_lit ?_
    refine hF.v (x_addn (i + 1) (by omega) (by omega) rfl rfl) fun a hF => ?_
    refine hF.v (x_move rfl) fun a hF => ?_
    have hL2 : (ls.map cpy).take (i + 1) = (ls.map cpy).take i ++ [cpy p] := take_snoc (by rw [List.getElem?_map, hp]; rfl)
    refine s_end (hK' _ _ (by omega) ⟨v3, o3, zs ++ [z], by rw [fm3_app]; simpa using hO, hO_at, hneg, hneg2, by omega, by rw [hL2]; exact (hP.mono (fun k (hk : w0.heap.size ≤ k ∧ k ≠ b2 ∧ k ≠ b3 ∧ k ≠ o2 ∧ k < top) => (by omega : _ ∧ _ ∧ _ ∧ _ ∧ _))).snoc (hz.mono (fun k (hk : w18.heap.size ≤ k ∧ k < w20.heap.size) => (by omega : _ ∧ _ ∧ _ ∧ _ ∧ _))), mg, m2, hB, hF.sub _ rfl⟩)
   ·
    refine d_op 3 (some 31) (.call (.mk (.value (.func 165)) #[(.tmp 30)] #[24])) (by kernel_rfl) fun ty pos af => ?_
    refine s_callR (R := fun u w' => ∃ z, u = lv z ∧ RLx w' (fun k => w18.heap.size ≤ k) z (cpy p)) [_] hF E165 rfl (by decide) (ih p y w18 (by omega) (by omega) (RL_b hB hty)) ?_
    rintro _ w28 a ⟨z, rfl, hz0⟩ B29 hF
    have sB29 := B29.size
    have hB := bt hB B29
    have m2 := m2.old B29
    have mg := mg.old B29
    have hO := own_below hO B29
    have hP := hP.below B29
    have hS := hS.below B29
    have hz := hz0.valid
    clear hz0
    have h1z := hz.rl.one1
    refine s_end ⟨hS, ?_⟩
    refine d_two 1 4 (by kernel_rfl) ?_ ?_
    ·
     refine d_op 1 (some 29) (.load 22 (.tmp 28)) (by kernel_rfl) fun ty pos af => ?_
     refine hF.v (x_load rfl (m_load flat22 (mg.cell (j := 2) rfl))) fun a hF => ?_
     refine s_end ⟨hS, ?_⟩
     refine d1 4 (some 32) (.buildSlice 22 1 #[(0, (.tmp 31))]) fun ty pos af => ?_
     refine s_litG [lv z] el22 hF (by decide) rfl (by simp [Value.cells, lc]) rfl (by decide) (by decide) fun w30 bl a ebl ml B31 zbl hF => ?_
     have sB31 := B31.size
     have hB := bt hB B31
     have m2 := m2.old B31
     have mg := mg.old B31
     have hO := own_below hO B31
     have hP := hP.below B31
     have hz := hz.below B31
     have hS := hS.below B31
     have ml : Blk w30 bl 24 (lc z) := by simpa [Value.cells] using ml
     refine s_end ⟨hS, ?_⟩
     refine d1 5 (some 33) (.call (.mk (.builtin .append) #[(.tmp 29), (.tmp 32)] #[22, 22])) fun ty pos af => ?_
     refine s_appL (o := o2) el22 hF (by decide) rfl rfl hO ml rfl (one_lc h1z) hat (by omega) (by omega) (by decide) (by omega) fun v3 w32 a o3 hOn hOatn how hsrc k33 hkeep hF => ?_
     have sk33 := k33.size
     have hB := k33.under hB (by omega)
     have m2 : Blk w32 b2 _ _ := (hkeep _ m2.lt hne2).trans m2
     have mg : Blk w32 b3 _ _ := (hkeep _ mg.lt hne).trans mg
     have hP := hP.k2 k33 (fun k (hk : w0.heap.size ≤ k ∧ k ≠ b2 ∧ k ≠ b3 ∧ k ≠ o2 ∧ k < top) => by omega)
     have hz := hz.k2 k33 (fun k (hk : w18.heap.size ≤ k ∧ k < w28.heap.size) => by omega)
     have hS := hS.trans k33 (by omega)
     have hO := hOn
     have hO_at := hOatn
     have hneg : v3.ownBlock ≠ some b3 := fun h => by rcases hsrc b3 h with h | h; exact hne h; omega
     have hneg2 : v3.ownBlock ≠ some b2 := fun h => by rcases hsrc b2 h with h | h; exact hne2 h; omega
     refine s_end ⟨hS, ?_⟩
     refine hF.d 6 34 (.fieldAddr 24 (.tmp 3) 2) hS (fun W hW => x_fa0 fa24_2 rfl) fun a hF => ?_
     refine d1 7 none (.store 22 (.tmp 34) (.tmp 33)) fun ty pos af => ?_
     refine s_put hF rfl rfl flat22 mg (by first | (simp; done) | (simp [tc, lc]; done) | decide) (Rd.own hO).one fun w34 mg o35 => ?_
     have so35 := o35.size
     have hB := hB.trans (o35.below (by omega))
     have m2 := m2.only o35 (by omega)
     have hO := own_only hO o35 (hneg)
     have hP := hP.only o35 (fun k (hk : w0.heap.size ≤ k ∧ k ≠ b2 ∧ k ≠ b3 ∧ k ≠ o2 ∧ k < top) => by omega)
     have hz := hz.only o35 (fun k (hk : w18.heap.size ≤ k ∧ k < w28.heap.size) => by omega)
     have hS := hS.only o35 (by omega)
     refine s_end ⟨hS, ?_⟩
     refine d_end (by kernel_rfl) (hK10 _ _ ?_)
     refine hK8 _ _ ?_
     refine wp_region_lit ?_
     refine hF.v (x_addn (i + 1) (by omega) (by omega) rfl rfl) fun a hF => ?_
     refine hF.v (x_move rfl) fun a hF => ?_
     have hL2 : (ls.map cpy).take (i + 1) = (ls.map cpy).take i ++ [cpy p] := take_snoc (by rw [List.getElem?_map, hp]; rfl)
     refine s_end (hK' _ _ (by omega) ⟨v3, o3, zs ++ [z], by rw [fm3_app]; simpa using hO, hO_at, hneg, hneg2, by omega, by rw [hL2]; exact (hP.mono (fun k (hk : w0.heap.size ≤ k ∧ k ≠ b2 ∧ k ≠ b3 ∧ k ≠ o2 ∧ k < top) => (by omega : _ ∧ _ ∧ _ ∧ _ ∧ _))).snoc (hz.mono (fun k (hk : w18.heap.size ≤ k ∧ k < w28.heap.size) => (by omega : _ ∧ _ ∧ _ ∧ _ ∧ _))), mg, m2, hB, hF.sub _ rfl⟩)
    ·
     refine d_op 4 (some 32) (.buildSlice 22 1 #[(0, (.tmp 31))]) (by kernel_rfl) fun ty pos af => ?_
     refine s_litG [lv z] el22 hF (by decide) rfl (by simp [Value.cells, lc]) rfl (by decide) (by decide) fun w36 bl a ebl ml B37 zbl hF => ?_
     have sB37 := B37.size
     have hB := bt hB B37
     have m2 := m2.old B37
     have mg := mg.old B37
     have hO := own_below hO B37
     have hP := hP.below B37
     have hz := hz.below B37
     have hS := hS.below B37
     have ml : Blk w36 bl 24 (lc z) := by simpa [Value.cells] using ml
     refine s_end ⟨hS, ?_⟩
     refine d1 1 (some 29) (.load 22 (.tmp 28)) fun ty pos af => ?_
     refine hF.v (x_load rfl (m_load flat22 (mg.cell (j := 2) rfl))) fun a hF => ?_
     refine s_end ⟨hS, ?_⟩
     refine d1 5 (some 33) (.call (.mk (.builtin .append) #[(.tmp 29), (.tmp 32)] #[22, 22])) fun ty pos af => ?_
     refine s_appL (o := o2) el22 hF (by decide) rfl rfl hO ml rfl (one_lc h1z) hat (by omega) (by omega) (by decide) (by omega) fun v3 w38 a o3 hOn hOatn how hsrc k39 hkeep hF => ?_
     have sk39 := k39.size
     have hB := k39.under hB (by omega)
     have m2 : Blk w38 b2 _ _ := (hkeep _ m2.lt hne2).trans m2
     have mg : Blk w38 b3 _ _ := (hkeep _ mg.lt hne).trans mg
     have hP := hP.k2 k39 (fun k (hk : w0.heap.size ≤ k ∧ k ≠ b2 ∧ k ≠ b3 ∧ k ≠ o2 ∧ k < top) => by omega)
     have hz := hz.k2 k39 (fun k (hk : w18.heap.size ≤ k ∧ k < w28.heap.size) => by omega)
     have hS := hS.trans k39 (by omega)
     have hO := hOn
     have hO_at := hOatn
     have hneg : v3.ownBlock ≠ some b3 := fun h => by rcases hsrc b3 h with h | h; exact hne h; omega
     have hneg2 : v3.ownBlock ≠ some b2 := fun h => by rcases hsrc b2 h with h | h; exact hne2 h; omega
     refine s_end ⟨hS, ?_⟩
     refine hF.d 6 34 (.fieldAddr 24 (.tmp 3) 2) hS (fun W hW => x_fa0 fa24_2 rfl) fun a hF => ?_
     refine d1 7 none (.store 22 (.tmp 34) (.tmp 33)) fun ty pos af => ?_
     refine s_put hF rfl rfl flat22 mg (by first | (simp; done) | (simp [tc, lc]; done) | decide) (Rd.own hO).one fun w40 mg o41 => ?_
     have so41 := o41.size
     have hB := hB.trans (o41.below (by omega))
     have m2 := m2.only o41 (by omega)
     have hO := own_only hO o41 (hneg)
     have hP := hP.only o41 (fun k (hk : w0.heap.size ≤ k ∧ k ≠ b2 ∧ k ≠ b3 ∧ k ≠ o2 ∧ k < top) => by omega)
     have hz := hz.only o41 (fun k (hk : w18.heap.size ≤ k ∧ k < w28.heap.size) => by omega)
     have hS := hS.only o41 (by omega)
     refine s_end ⟨hS, ?_⟩
     refine d_end (by kernel_rfl) (hK10 _ _ ?_)
     refine hK8 _ _ ?_
     refine wp_region_lit ?_
     refine hF.v (x_addn (i + 1) (by omega) (by omega) rfl rfl) fun a hF => ?_
     refine hF.v (x_move rfl) fun a hF => ?_
     have hL2 : (ls.map cpy).take (i + 1) = (ls.map cpy).take i ++ [cpy p] := take_snoc (by rw [List.getElem?_map, hp]; rfl)
     refine s_end (hK' _ _ (by omega) ⟨v3, o3, zs ++ [z], by rw [fm3_app]; simpa using hO, hO_at, hneg, hneg2, by omega, by rw [hL2]; exact (hP.mono (fun k (hk : w0.heap.size ≤ k ∧ k ≠ b2 ∧ k ≠ b3 ∧ k ≠ o2 ∧ k < top) => (by omega : _ ∧ _ ∧ _ ∧ _ ∧ _))).snoc (hz.mono (fun k (hk : w18.heap.size ≤ k ∧ k < w28.heap.size) => (by omega : _ ∧ _ ∧ _ ∧ _ ∧ _))), mg, m2, hB, hF.sub _ rfl⟩)
  ·
   refine wp_exit (hK4 _ _ ?_)
   refine wp_rs fun K11 hK11 => ?_
   refine hF.v (x_ldW wide24 mg rfl rfl) fun a hF => ?_
   refine s_putW hF rfl rfl (size_wide wide24) m2 rfl (one3 h1vv) fun w44 m2 o45 => ?_
   have so45 := o45.size
   have hB := hB.trans (o45.below (by omega))
   have hO := own_only hO o45 (hne2)
   have hP := hP.only o45 (fun k (hk : w0.heap.size ≤ k ∧ k ≠ b2 ∧ k ≠ b3 ∧ k ≠ o2 ∧ k < top) => by omega)
   refine s_end (hK11 _ _ ?_)
   have hall : (ls.map cpy).take i = ls.map cpy := List.take_of_length_le (by rw [List.length_map]; omega)
   rw [hall] at hP
   refine wp_ret (res_cell hF rfl rfl m2 wide24 ⟨_, rfl, ⟨(k, n9, vv), rfl, by rw [hcp]; exact .mk ⟨Rd.own hO, fun _ j h => (hO.lt j h).1⟩ hP.1 ((hP.mono (B := fun k => w0.heap.size ≤ k) (fun k (hk : w0.heap.size ≤ k ∧ k ≠ b2 ∧ k ≠ b3 ∧ k ≠ o2 ∧ k < top) => (by omega : _ ≤ _))).2) (by rw [List.length_map]; omega)⟩, hB⟩)
 refine wp_rs fun K12 hK12 => ?_
 refine hF.v (x_fa0 fa24_0 rfl) fun a hF => ?_
 refine hF.v (x_load rfl (m_load flat3 (m1.cell (j := 0) rfl))) fun a hF => ?_
 refine s_end (hK12 _ _ ?_)
 refine wp_block ?_
 refine wp_seq_k fun K13 hK13 => ?_
 rcases (show k = 1 ∨ k = 2 ∨ k = 3 ∨ k = 4 ∨ (k ≠ 1 ∧ k ≠ 2 ∧ k ≠ 3 ∧ k ≠ 4) by omega) with hk1 | hk1 | hk1 | hk1 | hk1
 ·
  have hcp : cpy (.mk k n ls) = .mk k n (ls.map cpy) := by simp [cpy, hk1, cpys_map]
  refine wp_rs fun K15 hK15 => ?_
  refine hF.v (eqlT (by omega) rfl rfl) fun a hF => ?_
  refine hF.v (x_assign rfl) fun a hF => ?_
  refine s_end (hK15 _ _ ?_)
  refine wp_if hF rfl ?_
  refine wp_skip (hK13 _ _ ?_)
  refine wp_if hF rfl ?_
  refine wp_region_lit ?_
  refine hF.v (x_fa0 fa24_1 rfl) fun a hF => ?_
  refine hF.v (x_load rfl (m_load flat3 (m1.cell (j := 1) rfl))) fun a hF => ?_
  refine hF.v (x_fa0 fa24_1 rfl) fun a hF => ?_
  refine s_put hF rfl rfl flat3 m3 (by first | (simp; done) | (simp [tc, lc]; done) | decide) rfl fun w46 m3 o47 => ?_
  have so47 := o47.size
  have hB := hB.trans (o47.below (by omega))
  have m1 := m1.only o47 (by omega)
  have m2 := m2.only o47 (by omega)
  refine s_end ?_
  exact key3 _ _ _ hcp m1 m2 m3 hB (hF.sub _ rfl)
 ·
  have hcp : cpy (.mk k n ls) = .mk k n (ls.map cpy) := by simp [cpy, hk1, cpys_map]
  refine wp_rs fun K16 hK16 => ?_
  refine hF.v (eqlF (by omega) rfl rfl) fun a hF => ?_
  refine hF.v (x_assign rfl) fun a hF => ?_
  refine s_end (hK16 _ _ ?_)
  refine wp_if hF rfl ?_
  refine wp_rs fun K17 hK17 => ?_
  refine hF.v (eqlT (by omega) rfl rfl) fun a hF => ?_
  refine hF.v (x_assign rfl) fun a hF => ?_
  refine s_end (hK17 _ _ ?_)
  refine wp_if hF rfl ?_
  refine wp_skip (hK13 _ _ ?_)
  refine wp_if hF rfl ?_
  refine wp_region_lit ?_
  refine hF.v (x_fa0 fa24_1 rfl) fun a hF => ?_
  refine hF.v (x_load rfl (m_load flat3 (m1.cell (j := 1) rfl))) fun a hF => ?_
  refine hF.v (x_fa0 fa24_1 rfl) fun a hF => ?_
  refine s_put hF rfl rfl flat3 m3 (by first | (simp; done) | (simp [tc, lc]; done) | decide) rfl fun w48 m3 o49 => ?_
  have so49 := o49.size
  have hB := hB.trans (o49.below (by omega))
  have m1 := m1.only o49 (by omega)
  have m2 := m2.only o49 (by omega)
  refine s_end ?_
  exact key3 _ _ _ hcp m1 m2 m3 hB (hF.sub _ rfl)
 ·
  have hcp : cpy (.mk k n ls) = .mk k n (ls.map cpy) := by simp [cpy, hk1, cpys_map]
  refine wp_rs fun K18 hK18 => ?_
  refine hF.v (eqlF (by omega) rfl rfl) fun a hF => ?_
  refine hF.v (x_assign rfl) fun a hF => ?_
  refine s_end (hK18 _ _ ?_)
  refine wp_if hF rfl ?_
  refine wp_rs fun K19 hK19 => ?_
  refine hF.v (eqlF (by omega) rfl rfl) fun a hF => ?_
  refine hF.v (x_assign rfl) fun a hF => ?_
  refine s_end (hK19 _ _ ?_)
  refine wp_if hF rfl ?_
  refine wp_region_lit ?_
  refine hF.v (eqlT (by omega) rfl rfl) fun a hF => ?_
  refine hF.v (x_assign rfl) fun a hF => ?_
  refine s_end (hK13 _ _ ?_)
  refine wp_if hF rfl ?_
  refine wp_region_lit ?_
  refine hF.v (x_fa0 fa24_1 rfl) fun a hF => ?_
  refine hF.v (x_load rfl (m_load flat3 (m1.cell (j := 1) rfl))) fun a hF => ?_
  refine hF.v (x_fa0 fa24_1 rfl) fun a hF => ?_
  refine s_put hF rfl rfl flat3 m3 (by first | (simp; done) | (simp [tc, lc]; done) | decide) rfl fun w50 m3 o51 => ?_
  have so51 := o51.size
  have hB := hB.trans (o51.below (by omega))
  have m1 := m1.only o51 (by omega)
  have m2 := m2.only o51 (by omega)
  refine s_end ?_
  exact key3 _ _ _ hcp m1 m2 m3 hB (hF.sub _ rfl)
 ·
  have hcp : cpy (.mk k n ls) = .mk k 0 (ls.map cpy) := by simp [cpy, hk1, cpys_map]
  refine wp_rs fun K20 hK20 => ?_
  refine hF.v (eqlF (by omega) rfl rfl) fun a hF => ?_
  refine hF.v (x_assign rfl) fun a hF => ?_
  refine s_end (hK20 _ _ ?_)
  refine wp_if hF rfl ?_
  refine wp_rs fun K21 hK21 => ?_
  refine hF.v (eqlF (by omega) rfl rfl) fun a hF => ?_
  refine hF.v (x_assign rfl) fun a hF => ?_
  refine s_end (hK21 _ _ ?_)
  refine wp_if hF rfl ?_
  refine wp_region_lit ?_
  refine hF.v (eqlF (by omega) rfl rfl) fun a hF => ?_
  refine hF.v (x_assign rfl) fun a hF => ?_
  refine s_end (hK13 _ _ ?_)
  refine wp_if hF rfl ?_
  refine wp_rs fun K22 hK22 => ?_
  refine hF.v (eqlT (by omega) rfl rfl) fun a hF => ?_
  refine hF.v (x_assign rfl) fun a hF => ?_
  refine s_end (hK22 _ _ ?_)
  refine wp_if hF rfl ?_
  refine wp_skip ?_
  exact key3 _ _ _ hcp m1 m2 m3 hB (hF.sub _ rfl)
 ·
  have hcp : cpy (.mk k n ls) = .mk k 0 [] := by simp [cpy, hk1, cpys_map]
  refine wp_rs fun K23 hK23 => ?_
  refine hF.v (eqlF (by omega) rfl rfl) fun a hF => ?_
  refine hF.v (x_assign rfl) fun a hF => ?_
  refine s_end (hK23 _ _ ?_)
  refine wp_if hF rfl ?_
  refine wp_rs fun K24 hK24 => ?_
  refine hF.v (eqlF (by omega) rfl rfl) fun a hF => ?_
  refine hF.v (x_assign rfl) fun a hF => ?_
  refine s_end (hK24 _ _ ?_)
  refine wp_if hF rfl ?_
  refine wp_region_lit ?_
  refine hF.v (eqlF (by omega) rfl rfl) fun a hF => ?_
  refine hF.v (x_assign rfl) fun a hF => ?_
  refine s_end (hK13 _ _ ?_)
  refine wp_if hF rfl ?_
  refine wp_rs fun K25 hK25 => ?_
  refine hF.v (eqlF (by omega) rfl rfl) fun a hF => ?_
  refine hF.v (x_assign rfl) fun a hF => ?_
  refine s_end (hK25 _ _ ?_)
  refine wp_if hF rfl ?_
  refine wp_rs fun K26 hK26 => ?_
  refine hF.v (x_ldW wide24 m3 rfl rfl) fun a hF => ?_
  refine s_putW hF rfl rfl (size_wide wide24) m2 rfl (one3 rfl) fun w54 m2 o55 => ?_
  have so55 := o55.size
  have hB := hB.trans (o55.below (by omega))
  refine s_end (hK26 _ _ ?_)
  refine wp_ret (inb_ret (then_ret (res_cell hF rfl rfl m2 wide24 ⟨_, rfl, ⟨(k, 0, .slice none 0 0), rfl, by rw [hcp]; exact .mk (xs := []) (Rn.nil _ _ 3) rfl (fun i x l h => by simp at h)⟩, hB⟩)))

/-- A level as it was, or a copy of it. -/
def isCp (l l' : Lv) : Prop := l' = l ∨ l' = cpy l
theorem isCp.slO {W : World} {x : C3} {l l' : Lv} (h : isCp l l') (hL : RL W x l) : slO l' = slO l := by
 rcases h with rfl | rfl
 ·
  rfl
 ·
  exact slO_cpy hL

set_option maxRecDepth 100000 in
set_option maxHeartbeats 1600000 in
theorem ownL153 (w0 : World) (A : Nat → Prop) (hA : ∀ k, A k → k < w0.heap.size) (l : Lv) (x : C3) (hL : RLn w0 A x l) : Calls Try.prog 158 #[lv x] w0 fun e w' => ∃ u, e = .returned u ∧ (∃ z l', u = lv z ∧ RLn w' (fun k => A k ∨ w0.heap.size ≤ k) z l' ∧ isCp l l') ∧ Below w0.heap.size w0 w' := by
 have hB := Below.refl w0.heap.size w0
 have sB := hB.size
 refine calls_fs 10 [(0, lv x)] Try.func158 rfl rfl rfl rfl rfl fun a hF => ?_
 refine wp_rs fun K1 hK1 => ?_
 refine s_box (lc x) hF (by decide) rfl rfl fun w2 b1 a eb1 m1 B3 zb1 hF => ?_
 have sB3 := B3.size
 have hB := bt hB B3
 refine s_alloc hF (by decide) zero24 fun w4 b2 a eb2 m2 B5 zb2 hF => ?_
 have sB5 := B5.size
 have hB := bt hB B5
 have m1 := m1.old B5
 refine s_end (hK1 _ _ ?_)
 refine wp_rs fun K2 hK2 => ?_
 refine s_alloc1 hF (by decide) zero3 rfl fun w6 b3 a eb3 m3 B7 zb3 hF => ?_
 have sB7 := B7.size
 have hB := bt hB B7
 have m1 := m1.old B7
 have m2 := m2.old B7
 refine s_put hF rfl rfl flat3 m3 (by first | (simp; done) | (simp [tc, lc]; done) | decide) rfl fun w8 m3 o9 => ?_
 have so9 := o9.size
 have hB := hB.trans (o9.below (by omega))
 have m1 := m1.only o9 (by omega)
 have m2 := m2.only o9 (by omega)
 refine s_end (hK2 _ _ ?_)
 refine wp_seq_k fun K3 hK3 => ?_
 refine wp_rs fun K4 hK4 => ?_
 refine hF.v (x_ldW wide24 m1 rfl rfl) fun a hF => ?_
 refine s_call (R := fun u w' => (∃ b r', u = .bool b ∧ Blk w' b3 3 [.int .i64 ((r' : Nat) : Int)] ∧ (b = true → r' + l.sz = 53687091) ∧ r' ≤ 53687091) ∧ Ktw b3 b3 w8 w') hF [_, _, _] E164 rfl (by decide) (fitsL154 w0 b3 (by omega) (l.sz + 1) l x (by omega) hL.rl 65536 53687091 w8 (by omega) (by omega) hB m3) ?_
 rintro _ w10 a ⟨⟨b5, r5, rfl, m3, h5, h5r⟩, k11⟩ hF
 have sk11 := k11.size
 have hB := k11.under hB (by omega)
 have m1 := m1.k2 k11 (by omega)
 have m2 := m2.k2 k11 (by omega)
 refine hF.v (x_not rfl) fun a hF => ?_
 refine s_end (hK4 _ _ ?_)
 refine wp_ifb hF rfl (fun hc6 => ?_) (fun hc6 => ?_)
 ·
  refine wp_rs fun K5 hK5 => ?_
  refine hF.v (x_ldW wide24 m1 rfl rfl) fun a hF => ?_
  refine s_putW hF rfl rfl (size_wide wide24) m2 rfl (one_lc hL.rl.one1) fun w14 m2 o15 => ?_
  have so15 := o15.size
  have hB := hB.trans (o15.below (by omega))
  refine s_end (hK5 _ _ ?_)
  refine wp_ret (then_ret (res_cell hF rfl rfl m2 wide24 ⟨_, rfl, ⟨x, l, rfl, (hL.keep hB.size (fun k hk _ => hB.block k (hA k hk))).mono (fun k hk => .inl hk), .inl rfl⟩, hB⟩))
 ·
  obtain rfl : b5 = true := by simpa using hc6
  have h6 := h5 rfl
  refine wp_skip (hK3 _ _ ?_)
  refine wp_rs fun K6 hK6 => ?_
  refine hF.v (x_ldW wide24 m1 rfl rfl) fun a hF => ?_
  refine s_callR (R := fun u w' => ∃ z, u = lv z ∧ RLx w' (fun k => w10.heap.size ≤ k) z (cpy l)) [_] hF E165 rfl (by decide) (copiedL155 (l.sz + 1) l x w10 (by omega) (by omega) (RL_b hB hL.rl)) ?_
  rintro _ w16 a ⟨z, rfl, hz⟩ B17 hF
  have sB17 := B17.size
  have hB := bt hB B17
  have m2 := m2.old B17
  have h1z := hz.rl.one1
  refine s_putW hF rfl rfl (size_wide wide24) m2 rfl (one_lc h1z) fun w20 m2 o21 => ?_
  have so21 := o21.size
  have hB := hB.trans (o21.below (by omega))
  have hz := hz.only o21 (fun k (hk : w10.heap.size ≤ k) => by omega)
  refine s_end (hK6 _ _ ?_)
  refine wp_ret (res_cell hF rfl rfl m2 wide24 ⟨_, rfl, ⟨z, _, rfl, hz.mono (fun k (hk : w10.heap.size ≤ k) => .inr (by omega : _ ≤ _)), .inr rfl⟩, hB⟩)

set_option maxRecDepth 100000 in
set_option maxHeartbeats 1600000 in
theorem plusL145 (w0 : World) (A : Nat → Prop) (hA : ∀ k, A k → k < w0.heap.size) (l : Lv) (x : C3) (hL : RLn w0 A x l) : Calls Try.prog 144 #[.int .i64 0, lv x] w0 fun e w' => ∃ u, e = .returned u ∧ (∃ z l', u = lv z ∧ RLn w' (fun k => A k ∨ w0.heap.size ≤ k) z l' ∧ isCp l l') ∧ Below w0.heap.size w0 w' := by
 have hB := Below.refl w0.heap.size w0
 have sB := hB.size
 refine calls_fs 22 [(0, .int .i64 0), (1, lv x)] Try.func144 rfl rfl rfl rfl rfl fun a hF => ?_
 refine wp_rs fun K1 hK1 => ?_
 refine s_box (lc x) hF (by decide) rfl rfl fun w2 b3 a eb3 m3 B3 zb3 hF => ?_
 have sB3 := B3.size
 have hB := bt hB B3
 refine s_alloc hF (by decide) zero24 fun w4 b4 a eb4 m4 B5 zb4 hF => ?_
 have sB5 := B5.size
 have hB := bt hB B5
 have m3 := m3.old B5
 refine s_end (hK1 _ _ ?_)
 refine wp_rs fun K2 hK2 => ?_
 refine hF.v (x_ldW wide24 m3 rfl rfl) fun a hF => ?_
 refine s_callR (R := fun u w' => ∃ z l', u = lv z ∧ RLx w' (fun k => A k ∨ w4.heap.size ≤ k) z l' ∧ isCp l l') [_] hF E158 rfl (by decide) (ownL153 w4 A (fun k hk => by have := hA k hk; omega) l x (hL.keep hB.size (fun k hk _ => hB.block k (hA k hk)))) ?_
 rintro _ w6 a ⟨z, l2, rfl, hz, hcp⟩ B7 hF
 have sB7 := B7.size
 have hB := bt hB B7
 have m3 := m3.old B7
 have m4 := m4.old B7
 have hz : RLx w6 (fun k => k < w0.heap.size ∧ A k ∨ w4.heap.size ≤ k) z l2 := hz.mono (fun k hk => hk.elim (fun h => .inl ⟨hA k h, h⟩) .inr)
 have h1z := hz.rl.one1
 refine s_putW hF rfl rfl (size_wide wide24) m3 rfl (one_lc h1z) fun w10 m3 o11 => ?_
 have so11 := o11.size
 have hB := hB.trans (o11.below (by omega))
 have m4 := m4.only o11 (by omega)
 have hz := hz.only o11 (fun k (hk : k < w0.heap.size ∧ A k ∨ w4.heap.size ≤ k) => by omega)
 refine s_end (hK2 _ _ ?_)
 refine wp_seq_k fun K3 hK3 => ?_
 refine wp_rs fun K4 hK4 => ?_
 refine hF.v (x_move rfl) fun a hF => ?_
 refine hF.v (lssT (by omega) rfl rfl) fun a hF => ?_
 refine s_end (hK4 _ _ ?_)
 refine wp_if hF rfl ?_
 refine wp_rs fun K5 hK5 => ?_
 refine hF.v (x_ldW wide24 m3 rfl rfl) fun a hF => ?_
 refine s_putW hF rfl rfl (size_wide wide24) m4 rfl (one_lc h1z) fun w14 m4 o15 => ?_
 have so15 := o15.size
 have hB := hB.trans (o15.below (by omega))
 have hz := hz.only o15 (fun k (hk : k < w0.heap.size ∧ A k ∨ w4.heap.size ≤ k) => by omega)
 refine s_end (hK5 _ _ ?_)
 refine wp_ret (then_ret (res_cell hF rfl rfl m4 wide24 ⟨_, rfl, ⟨z, l2, rfl, hz.mono (fun k hk => hk.elim (fun h => .inl h.2) (fun h => .inr (by omega))), hcp⟩, hB⟩))
end Go.Proofs.Ytbhhbfdoadecgaa

namespace Go.Proofs.Ytbhhbfdoadecgaa
open Go.RowKit Go.Shelf
set_option linter.unusedVariables false
set_option linter.unusedSimpArgs false

section
variable {P : Program} {n : Nat} {l : List (Nat × Value)} {w : World}
theorem x_quon {t t' : TypeId} {x y : Operand} {p q : Int} (r : Int) (h0 : 0 < q) (hp : 0 ≤ p) (hp2 : p < 9223372036854775808) (h1 : p / q = r) (hx : ov l x = some (.int .i64 p)) (hy : ov l y = some (.int .i64 q)) : Runs P n l w (.binOp .quo t x y t') (.int .i64 r) :=
 x_bin hx hy (b_int fun W => by
  have h2 : p.tdiv q = r := by rw [Int.tdiv_eq_ediv_of_nonneg hp]; exact h1
  have h3 : 0 ≤ r := by rw [← h1]; exact Int.ediv_nonneg hp (by omega)
  have h4 : r ≤ p := by rw [← h1]; exact Int.ediv_le_self _ hp
  simp [binOp, Op.intDiv, show q ≠ 0 by omega, h2, wrap_i64 (by omega : -9223372036854775808 ≤ r) (by omega)])
end
def Lv.kids : Lv → List Lv
 | .mk _ _ ls => ls
theorem Lv.kids_sz : ∀ l : Lv, l.sz = Lv.szs l.kids + 1
 | .mk _ _ _ => rfl
theorem RLn.kids {W : World} {A : Nat → Prop} {x : C3} {l : Lv} (h : RLn W A x l) : RVn W A x.2.2 l.kids := by
 cases h with
 | mk hR hl hk => exact ⟨_, hR, hl, hk⟩
theorem RVn.row {W : World} {A : Nat → Prop} {v : Value} {ls : List Lv} (h : RVn W A v ls) {i : Nat} (hi : i < ls.length) :
  ∃ b off c x y, v = .slice (some ⟨b, off, none⟩) ls.length c ∧ ls[i]? = some y ∧ RLn W A x y ∧ A b ∧ b < W.heap.size ∧ ∀ W' : World, W'.heap[b]? = W.heap[b]? → ∀ j u, (lc x)[j]? = some u → W'.cell? ((⟨b, off + i * 3, none⟩ : Addr).add j) = some u := by
 obtain ⟨xs, h1, h2, h3⟩ := h
 obtain ⟨b, off, c, rfl, hb⟩ := h1.1.some (by omega)
 refine ⟨b, off, c, xs[i]'(by omega), ls[i], by rw [h2], List.getElem?_eq_getElem hi, h3 i _ _ (List.getElem?_eq_getElem (by omega)) (List.getElem?_eq_getElem hi), h1.2 (by omega) b rfl, hb, fun W' hB j u hj => ?_⟩
 rw [addr_addn, Nat.add_assoc]
 exact (World.cell?_of_block (w := W) (a := ⟨b, off + (i * 3 + j), none⟩) hB).trans (h1.1.cell (fm3_get xs i j _ u (List.getElem?_eq_getElem (by omega)) hj))
def sumT (cs : List CT) : Nat := (cs.map CT.size).sum
theorem CT.kids_sum (c : CT) : c.size = sumT c.kids + 1 := by cases c <;> simp [CT.size, sumT, CT.kids]; omega
theorem sumT_get {cs : List CT} {i : Nat} {p : CT} (h : cs[i]? = some p) : p.size ≤ sumT cs := by
 have hm : p ∈ cs := List.mem_of_getElem? h
 clear h
 induction cs with
 | nil => cases hm
 | cons c cs ih =>
  simp only [sumT, List.map_cons, List.sum_cons]
  rcases List.mem_cons.1 hm with rfl | hm'
  ·
   omega
  ·
   have := ih hm'
   simp only [sumT] at this
   omega
theorem szs_get {ls : List Lv} {i : Nat} {p : Lv} (h : ls[i]? = some p) : p.sz ≤ Lv.szs ls := by
 have := szs_take h
 have := szs_le ls (i + 1)
 omega
theorem CT.dep_kids {c : CT} {n : Nat} (h : ∀ k ∈ c.kids, k.dep ≤ n) : c.dep ≤ n + 1 := by
 cases c <;> simp only [CT.kids, List.mem_cons, List.not_mem_nil, or_false, forall_eq_or_imp, forall_eq, CT.dep] at h ⊢ <;> omega

set_option maxRecDepth 100000 in
set_option maxHeartbeats 1600000 in
theorem kidsL144 (x : C3) (w0 : World) (h1 : x.2.2.oneCell' = true) : Calls Try.prog 143 #[lv x] w0 fun e w' => e = .returned x.2.2 ∧ Below w0.heap.size w0 w' := by
 have hB := Below.refl w0.heap.size w0
 have sB := hB.size
 refine calls_fs 5 [(0, lv x)] Try.func143 rfl rfl rfl rfl rfl fun a hF => ?_
 refine wp_rs fun K1 hK1 => ?_
 refine s_box (lc x) hF (by decide) rfl rfl fun w2 b1 a eb1 m1 B3 zb1 hF => ?_
 have sB3 := B3.size
 have hB := bt hB B3
 refine hF.v (x_assign rfl) fun a hF => ?_
 refine s_end (hK1 _ _ ?_)
 refine wp_rs fun K2 hK2 => ?_
 refine hF.v (x_fa0 fa24_2 rfl) fun a hF => ?_
 refine hF.v (x_load rfl (m_load flat22 (m1.cell (j := 2) rfl))) fun a hF => ?_
 refine hF.v (x_assign rfl) fun a hF => ?_
 refine s_end (hK2 _ _ ?_)
 refine wp_ret (res_slot hF rfl rfl ⟨rfl, hB⟩)

set_option maxRecDepth 100000 in
set_option maxHeartbeats 1600000 in
theorem count152 (w0 : World) (br : Nat) (hbr : br < w0.heap.size) : ∀ (N : Nat) (cs : List Lv) (v : Value), Lv.szs cs < N → RVn w0 (Ai w0.heap.size br) v cs → ∀ (d : Nat) (w1 : World), d ≤ 65536 → Ktw br br w0 w1 → Room w1 br →
  Calls Try.prog 157 #[.pointer (some ⟨br, 0, none⟩), v, .int .i64 40, .int .i64 (d : Int), .func (.func 143) #[] #[]] w1 fun e w' => ∃ u, e = .returned u ∧ ((∃ b, u = .bool b ∧ (b = true → cs.length * 40 ≤ 2147483647)) ∧ Room w' br) ∧ Ktw br br w1 w' := by
 intro N
 induction N with
 | zero => intro cs v h; omega
 | succ N ih =>
 intro cs v hN hV d w1 hd1 hK hR
 obtain ⟨av, cv, rfl, _⟩ := hV.form
 have hQ := Ktw.refl br br w1
 have sK := hK.size
 have sQ := hQ.size
 obtain ⟨r, mr, hr0, hr1⟩ := hR
 refine calls_fs 57 [(0, .pointer (some ⟨br, 0, none⟩)), (1, .slice av cs.length cv), (2, .int .i64 40), (3, .int .i64 (d : Int)), (4, .func (.func 143) #[] #[])] Try.func157 rfl rfl rfl rfl rfl fun a hF => ?_
 refine wp_rs fun K1 hK1 => ?_
 refine hF.v (x_assign rfl) fun a hF => ?_
 refine s_end (hK1 _ _ ?_)
 refine wp_seq_k fun K2 hK2 => ?_
 rcases (show cs.length = 0 ∨ 0 < cs.length by omega) with hk9 | hk9
 ·
  skip
  refine wp_rs fun K4 hK4 => ?_
  refine hF.v (x_move rfl) fun a hF => ?_
  refine hF.v (x_len Try.underlying22 rfl) fun a hF => ?_
  refine hF.v (eqlT (by omega) rfl rfl) fun a hF => ?_
  refine s_end (hK4 _ _ ?_)
  refine wp_if hF rfl ?_
  refine wp_rs fun K5 hK5 => ?_
  refine hF.v (x_assign rfl) fun a hF => ?_
  refine s_end (hK5 _ _ ?_)
  refine wp_ret (then_ret (res_slot hF rfl rfl ⟨_, rfl, ⟨⟨true, rfl, fun _ => by omega⟩, ⟨r, mr, hr0, hr1⟩⟩, hQ⟩))
 ·
  skip
  refine wp_rs fun K6 hK6 => ?_
  refine hF.v (x_move rfl) fun a hF => ?_
  refine hF.v (x_len Try.underlying22 rfl) fun a hF => ?_
  refine hF.v (eqlF (by omega) rfl rfl) fun a hF => ?_
  refine s_end (hK6 _ _ ?_)
  refine wp_if hF rfl ?_
  refine wp_skip (hK2 _ _ ?_)
  refine wp_seq_k fun K7 hK7 => ?_
  rcases (show d = 0 ∨ (d ≠ 0 ∧ r / 40 < (cs.length : Int)) ∨ (d ≠ 0 ∧ (cs.length : Int) ≤ r / 40) by omega) with hk8 | hk8 | hk8
  ·
   skip
   refine wp_rs fun K9 hK9 => ?_
   refine hF.v (x_move rfl) fun a hF => ?_
   refine hF.v (eqlT (by omega) rfl rfl) fun a hF => ?_
   refine hF.v (x_move rfl) fun a hF => ?_
   refine s_grdn 18 hF rfl rfl (by decide) fun a hF => ?_
   refine s_grdn 18 hF rfl rfl (by decide) fun a hF => ?_
   refine s_grdn 18 hF rfl rfl (by decide) fun a hF => ?_
   refine s_grdn 18 hF rfl rfl (by decide) fun a hF => ?_
   refine s_grdn 18 hF rfl rfl (by decide) fun a hF => ?_
   refine s_grdn 18 hF rfl rfl (by decide) fun a hF => ?_
   refine s_grdn 18 hF rfl rfl (by decide) fun a hF => ?_
   refine s_grdn 18 hF rfl rfl (by decide) fun a hF => ?_
   refine s_grdn 18 hF rfl rfl (by decide) fun a hF => ?_
   refine hF.v (x_pick (b := true) rfl rfl) fun a hF => ?_
   refine s_end (hK9 _ _ ?_)
   refine wp_if hF rfl ?_
   refine wp_rs fun K10 hK10 => ?_
   refine hF.v (x_assign rfl) fun a hF => ?_
   refine s_end (hK10 _ _ ?_)
   refine wp_ret (then_ret (res_slot hF rfl rfl ⟨_, rfl, ⟨⟨false, rfl, fun h => by cases h⟩, ⟨r, mr, hr0, hr1⟩⟩, hQ⟩))
  ·
   skip
   refine wp_rs fun K11 hK11 => ?_
   refine hF.v (x_move rfl) fun a hF => ?_
   refine hF.v (eqlF (by omega) rfl rfl) fun a hF => ?_
   refine hF.v (x_move rfl) fun a hF => ?_
   refine s_grd 18 hF rfl rfl rfl ?_
   refine hF.v (x_move rfl) fun a hF => ?_
   refine s_grd 18 hF rfl rfl rfl ?_
   refine hF.v (x_len Try.underlying22 rfl) fun a hF => ?_
   refine s_grd 18 hF rfl rfl rfl ?_
   refine hF.v (x_move rfl) fun a hF => ?_
   refine s_grd 18 hF rfl rfl rfl ?_
   refine hF.v (x_nil rfl) fun a hF => ?_
   refine s_grd 18 hF rfl rfl rfl ?_
   refine hF.v (x_fa0 fa110_0 rfl) fun a hF => ?_
   refine s_grd 18 hF rfl rfl rfl ?_
   refine hF.v (x_load rfl (m_load flat3 (mr.cell (j := 0) rfl))) fun a hF => ?_
   refine s_grd 18 hF rfl rfl rfl ?_
   refine hF.v (x_move rfl) fun a hF => ?_
   refine s_grd 18 hF rfl rfl rfl ?_
   refine hF.v (x_quon (r / 40) (by decide) hr0 (by omega) rfl rfl rfl) fun a hF => ?_
   refine s_grd 18 hF rfl rfl rfl ?_
   refine hF.v (gtrT (by omega) rfl rfl) fun a hF => ?_
   refine hF.v (x_pick (b := false) rfl rfl) fun a hF => ?_
   refine s_end (hK11 _ _ ?_)
   refine wp_if hF rfl ?_
   refine wp_rs fun K12 hK12 => ?_
   refine hF.v (x_assign rfl) fun a hF => ?_
   refine s_end (hK12 _ _ ?_)
   refine wp_ret (then_ret (res_slot hF rfl rfl ⟨_, rfl, ⟨⟨false, rfl, fun h => by cases h⟩, ⟨r, mr, hr0, hr1⟩⟩, hQ⟩))
  ·
   skip
   refine wp_rs fun K13 hK13 => ?_
   refine hF.v (x_move rfl) fun a hF => ?_
   refine hF.v (eqlF (by omega) rfl rfl) fun a hF => ?_
   refine hF.v (x_move rfl) fun a hF => ?_
   refine s_grd 18 hF rfl rfl rfl ?_
   refine hF.v (x_move rfl) fun a hF => ?_
   refine s_grd 18 hF rfl rfl rfl ?_
   refine hF.v (x_len Try.underlying22 rfl) fun a hF => ?_
   refine s_grd 18 hF rfl rfl rfl ?_
   refine hF.v (x_move rfl) fun a hF => ?_
   refine s_grd 18 hF rfl rfl rfl ?_
   refine hF.v (x_nil rfl) fun a hF => ?_
   refine s_grd 18 hF rfl rfl rfl ?_
   refine hF.v (x_fa0 fa110_0 rfl) fun a hF => ?_
   refine s_grd 18 hF rfl rfl rfl ?_
   refine hF.v (x_load rfl (m_load flat3 (mr.cell (j := 0) rfl))) fun a hF => ?_
   refine s_grd 18 hF rfl rfl rfl ?_
   refine hF.v (x_move rfl) fun a hF => ?_
   refine s_grd 18 hF rfl rfl rfl ?_
   refine hF.v (x_quon (r / 40) (by decide) hr0 (by omega) rfl rfl rfl) fun a hF => ?_
   refine s_grd 18 hF rfl rfl rfl ?_
   refine hF.v (gtrF (by omega) rfl rfl) fun a hF => ?_
   refine hF.v (x_pick (b := false) rfl rfl) fun a hF => ?_
   refine s_end (hK13 _ _ ?_)
   refine wp_if hF rfl ?_
   refine wp_skip (hK7 _ _ ?_)
   refine wp_rs fun K14 hK14 => ?_
   refine hF.v (x_move rfl) fun a hF => ?_
   refine hF.v (x_nil rfl) fun a hF => ?_
   refine hF.v (x_fa0 fa110_0 rfl) fun a hF => ?_
   refine hF.v (x_load rfl (m_load flat3 (mr.cell (j := 0) rfl))) fun a hF => ?_
   refine hF.v (x_move rfl) fun a hF => ?_
   refine hF.v (x_len Try.underlying22 rfl) fun a hF => ?_
   refine hF.v (x_move rfl) fun a hF => ?_
   refine hF.v (x_mul (by omega) (by omega) rfl rfl) fun a hF => ?_
   refine hF.v (x_sub (by omega) (by omega) rfl rfl) fun a hF => ?_
   refine hF.v (x_nil rfl) fun a hF => ?_
   refine hF.v (x_fa0 fa110_0 rfl) fun a hF => ?_
   refine s_put hF rfl rfl flat3 mr (by first | (simp; done) | decide) rfl fun w2 mr o3 => ?_
   have so3 := o3.size
   have hK := hK.only o3 (by omega)
   have hQ := hQ.only o3 (by omega)
   refine s_end (hK14 _ _ ?_)
   refine wp_seq_k fun K15 hK15 => ?_
   refine wp_rs fun K16 hK16 => ?_
   refine hF.v (x_move rfl) fun a hF => ?_
   refine hF.v (x_len Try.underlying22 rfl) fun a hF => ?_
   refine hF.v (x_move rfl) fun a hF => ?_
   refine s_end (hK16 _ _ ?_)
   refine wp_block ?_
   refine wp_up cs.length (fun i a w => (∃ r : Int, Blk w br 110 [.int .i64 r] ∧ 0 ≤ r ∧ r ≤ 2147483647) ∧ Ktw br br w0 w ∧ Ktw br br w1 w ∧ Fs 57 a [(0, .pointer (some ⟨br, 0, none⟩)), (2, .int .i64 40), (3, .int .i64 (d : Int)), (4, .func (.func 143) #[] #[]), (40, .slice av cs.length cv), (41, .int .i64 (cs.length : Int)), (42, .int .i64 (i : Int))]) ⟨⟨_, mr, by omega, by omega⟩, hK, hQ, hF.sub _ rfl⟩ ?_
   clear hF hK hQ mr
   rintro i a w hi ⟨⟨r2, mr, hr2, hr3⟩, hK, hQ, hF⟩ K' hK'
   have sK := hK.size
   have sQ := hQ.size
   refine wp_rs fun K17 hK17 => ?_
   refine hF.v (x_lss (b := decide (i < cs.length)) (decide_eq_decide.2 (by omega)) rfl rfl) fun a hF => ?_
   refine s_end (hK17 _ _ ?_)
   refine wp_seq_k fun K18 hK18 => ?_
   refine wp_iff hF rfl (fun hc43 => ?_) (fun hc43 => ?_)
   ·
    obtain ⟨b9, off9, c9, y, kd, hve, hyk, hry, hAb, hbl, hrow⟩ := hV.row (i := i) (by omega)
    cases hve
    have hps := szs_get hyk
    have hks := kd.kids_sz
    have hkl := szs_len kd.kids
    refine wp_skip (hK18 _ _ ?_)
    refine wp_seq_k fun K19 hK19 => ?_
    refine wp_block ?_
    refine wp_rs fun K20 hK20 => ?_
    refine hF.v (x_ixa rfl rfl (m_ixsK i Try.underlying22 el22.size rfl (by omega))) fun a hF => ?_
    refine hF.v (x_ldA wide24 (hrow _ (hK.block _ hbl ⟨hAb.1, hAb.1⟩)) rfl rfl) fun a hF => ?_
    refine s_alloc hF (by decide) zero24 fun w4 b12 a eb12 m12 B5 zb12 hF => ?_
    have sB5 := B5.size
    have hK := hK.below B5
    have hQ := hQ.below B5
    have mr := mr.old B5
    refine s_putW hF rfl rfl (size_wide wide24) m12 rfl (one_lc hry.rl.one1) fun w8 m12 o9 => ?_
    have so9 := o9.size
    have hK := hK.only o9 (by omega)
    have hQ := hQ.only o9 (by omega)
    have mr := mr.only o9 (by omega)
    refine s_end (hK20 _ _ ?_)
    refine wp_rs fun K21 hK21 => ?_
    refine hF.v (x_move rfl) fun a hF => ?_
    refine hF.v (x_move rfl) fun a hF => ?_
    refine hF.v (x_ldW wide24 m12 rfl rfl) fun a hF => ?_
    refine s_callC (R := fun v w' => v = y.2.2 ∧ Below w8.heap.size w8 w') (lb := []) hF [_] rfl E143 rfl (by decide) ((kidsL144 y w8 hry.rl.one1).mono fun e w' h => ⟨_, h.1, rfl, h.2⟩) ?_
    rintro _ w10 a ⟨rfl, B11⟩ hF
    have sB11 := B11.size
    have hK := hK.below B11
    have hQ := hQ.below B11
    have mr := mr.old B11
    have hkv := hry.kids
    refine hF.v (x_move rfl) fun a hF => ?_
    refine hF.v (x_move rfl) fun a hF => ?_
    refine hF.v (x_subn (d - 1) (by omega) (by omega) rfl rfl) fun a hF => ?_
    refine hF.v (x_move rfl) fun a hF => ?_
    refine s_call (R := fun u w' => ((∃ b, u = .bool b ∧ (b = true → kd.kids.length * 40 ≤ 2147483647)) ∧ Room w' br) ∧ Ktw br br w10 w') hF [_, _, _, _, _] E157 rfl (by decide) (ih kd.kids _ (by omega) hkv (d - 1) w10 (by omega) hK ⟨_, mr, hr2, hr3⟩) ?_
    rintro _ w12 a ⟨⟨⟨b54, rfl, h54⟩, ⟨r4, mr, hr4, hr5⟩⟩, k13⟩ hF
    have sk13 := k13.size
    have hK := hK.trans k13 (by omega)
    have hQ := hQ.trans k13 (by omega)
    refine hF.v (x_not rfl) fun a hF => ?_
    refine s_end (hK21 _ _ ?_)
    refine wp_ifb hF rfl (fun hc55 => ?_) (fun hc55 => ?_)
    ·
     refine wp_rs fun K22 hK22 => ?_
     refine hF.v (x_assign rfl) fun a hF => ?_
     refine s_end (hK22 _ _ ?_)
     refine wp_ret (inb_ret (then_ret (then_ret (inb_ret (then_ret (res_slot hF rfl rfl ⟨_, rfl, ⟨⟨false, rfl, fun h => by cases h⟩, ⟨r4, mr, hr4, hr5⟩⟩, hQ⟩))))))
    ·
     obtain rfl : b54 = true := by simpa using hc55
     have h55 := h54 rfl
     refine wp_skip (hK19 _ _ ?_)
     refine wp_region_lit ?_
     refine hF.v (x_addn (i + 1) (by omega) (by omega) rfl rfl) fun a hF => ?_
     refine hF.v (x_move rfl) fun a hF => ?_
     refine s_end (hK' _ _ (by omega) ⟨⟨r4, mr, hr4, hr5⟩, hK, hQ, hF.sub _ rfl⟩)
   ·
    obtain rfl : i = cs.length := by omega
    refine wp_exit (hK15 _ _ ?_)
    refine wp_rs fun K23 hK23 => ?_
    refine hF.v (x_assign rfl) fun a hF => ?_
    refine s_end (hK23 _ _ ?_)
    refine wp_ret (res_slot hF rfl rfl ⟨_, rfl, ⟨⟨true, rfl, fun _ => by omega⟩, ⟨r2, mr, hr2, hr3⟩⟩, hQ⟩)

set_option maxRecDepth 100000 in
set_option maxHeartbeats 1600000 in
theorem takes143 (w0 : World) (br : Nat) (hbr : br < w0.heap.size) (cs : List Lv) (v : Value) (hV : RVn w0 (Ai w0.heap.size br) v cs) (w1 : World) (hK : Ktw br br w0 w1) (hR : Room w1 br) :
  Calls Try.prog 142 #[.pointer (some ⟨br, 0, none⟩), v, .int .i64 40, .func (.func 143) #[] #[]] w1 fun e w' => ∃ u, e = .returned u ∧ ((∃ b, u = .bool b ∧ (b = true → cs.length * 40 ≤ 2147483647)) ∧ Room w' br) ∧ Ktw br br w1 w' := by
 have hQ := Ktw.refl br br w1
 have sK := hK.size
 have sQ := hQ.size
 refine calls_fs 18 [(0, .pointer (some ⟨br, 0, none⟩)), (1, v), (2, .int .i64 40), (3, .func (.func 143) #[] #[])] Try.func142 rfl rfl rfl rfl rfl fun a hF => ?_
 refine wp_rs fun K1 hK1 => ?_
 refine hF.v (x_assign rfl) fun a hF => ?_
 refine s_end (hK1 _ _ ?_)
 refine wp_seq_k fun K2 hK2 => ?_
 refine wp_rs fun K3 hK3 => ?_
 refine hF.v (x_move rfl) fun a hF => ?_
 refine hF.v (x_move rfl) fun a hF => ?_
 refine hF.v (x_move rfl) fun a hF => ?_
 refine hF.v (x_move rfl) fun a hF => ?_
 refine s_call (R := fun u w' => ((∃ b, u = .bool b ∧ (b = true → cs.length * 40 ≤ 2147483647)) ∧ Room w' br) ∧ Ktw br br w1 w') hF [_, _, _, _, _] E157 rfl (by decide) (count152 w0 br hbr (Lv.szs cs + 1) cs v (by omega) hV 65536 w1 (by omega) hK hR) ?_
 rintro _ w2 a ⟨⟨⟨b13, rfl, h13⟩, ⟨r4, mr, hr4, hr5⟩⟩, k3⟩ hF
 have sk3 := k3.size
 have hQ := hQ.trans k3 (by omega)
 refine hF.v (x_not rfl) fun a hF => ?_
 refine s_end (hK3 _ _ ?_)
 refine wp_ifb hF rfl (fun hc14 => ?_) (fun hc14 => ?_)
 ·
  refine wp_rs fun K4 hK4 => ?_
  refine hF.v (x_move rfl) fun a hF => ?_
  refine hF.v (x_nil rfl) fun a hF => ?_
  refine hF.v (x_fa0 fa110_0 rfl) fun a hF => ?_
  refine s_put hF rfl rfl flat3 mr (by first | (simp; done) | decide) rfl fun w4 mr o5 => ?_
  have so5 := o5.size
  have hQ := hQ.only o5 (by omega)
  refine s_end (hK4 _ _ ?_)
  refine wp_rs fun K5 hK5 => ?_
  refine hF.v (x_assign rfl) fun a hF => ?_
  refine s_end (hK5 _ _ ?_)
  refine wp_ret (then_ret (res_slot hF rfl rfl ⟨_, rfl, ⟨⟨false, rfl, fun h => by cases h⟩, ⟨0, mr, by decide, by decide⟩⟩, hQ⟩))
 ·
  obtain rfl : b13 = true := by simpa using hc14
  have h14 := h13 rfl
  refine wp_skip (hK2 _ _ ?_)
  refine wp_rs fun K6 hK6 => ?_
  refine hF.v (x_assign rfl) fun a hF => ?_
  refine s_end (hK6 _ _ ?_)
  refine wp_ret (res_slot hF rfl rfl ⟨_, rfl, ⟨⟨true, rfl, fun _ => h14⟩, ⟨r4, mr, hr4, hr5⟩⟩, hQ⟩)

set_option maxRecDepth 100000 in
set_option maxHeartbeats 1600000 in
theorem count134 (w0 : World) (br : Nat) (hbr : br < w0.heap.size) : ∀ (N : Nat) (cs : List CT) (v : Value), sumT cs < N → RK w0 (Ai w0.heap.size br) v cs → ∀ (d : Nat) (w1 : World), d ≤ 65536 → Ktw br br w0 w1 → Room w1 br →
  Calls Try.prog 128 #[.pointer (some ⟨br, 0, none⟩), v, .int .i64 120, .int .i64 (d : Int), .func (.func 88) #[] #[]] w1 fun e w' => ∃ u, e = .returned u ∧ ((∃ b, u = .bool b ∧ (b = true → cs.length * 120 ≤ 2147483647 ∧ ∀ c ∈ cs, c.dep ≤ d)) ∧ Room w' br) ∧ Ktw br br w1 w' := by
 intro N
 induction N with
 | zero => intro cs v h; omega
 | succ N ih =>
 intro cs v hN hV d w1 hd1 hK hR
 obtain ⟨av, cv, rfl, _⟩ := hV.form
 have hQ := Ktw.refl br br w1
 have sK := hK.size
 have sQ := hQ.size
 obtain ⟨r, mr, hr0, hr1⟩ := hR
 refine calls_fs 57 [(0, .pointer (some ⟨br, 0, none⟩)), (1, .slice av cs.length cv), (2, .int .i64 120), (3, .int .i64 (d : Int)), (4, .func (.func 88) #[] #[])] Try.func128 rfl rfl rfl rfl rfl fun a hF => ?_
 refine wp_rs fun K1 hK1 => ?_
 refine hF.v (x_assign rfl) fun a hF => ?_
 refine s_end (hK1 _ _ ?_)
 refine wp_seq_k fun K2 hK2 => ?_
 rcases (show cs.length = 0 ∨ 0 < cs.length by omega) with hk9 | hk9
 ·
  skip
  refine wp_rs fun K4 hK4 => ?_
  refine hF.v (x_move rfl) fun a hF => ?_
  refine hF.v (x_len Try.underlying25 rfl) fun a hF => ?_
  refine hF.v (eqlT (by omega) rfl rfl) fun a hF => ?_
  refine s_end (hK4 _ _ ?_)
  refine wp_if hF rfl ?_
  refine wp_rs fun K5 hK5 => ?_
  refine hF.v (x_assign rfl) fun a hF => ?_
  refine s_end (hK5 _ _ ?_)
  refine wp_ret (then_ret (res_slot hF rfl rfl ⟨_, rfl, ⟨⟨true, rfl, fun _ => ⟨by omega, fun c hc => by rw [List.eq_nil_of_length_eq_zero (show cs.length = 0 by omega)] at hc; cases hc⟩⟩, ⟨r, mr, hr0, hr1⟩⟩, hQ⟩))
 ·
  skip
  refine wp_rs fun K6 hK6 => ?_
  refine hF.v (x_move rfl) fun a hF => ?_
  refine hF.v (x_len Try.underlying25 rfl) fun a hF => ?_
  refine hF.v (eqlF (by omega) rfl rfl) fun a hF => ?_
  refine s_end (hK6 _ _ ?_)
  refine wp_if hF rfl ?_
  refine wp_skip (hK2 _ _ ?_)
  refine wp_seq_k fun K7 hK7 => ?_
  rcases (show d = 0 ∨ (d ≠ 0 ∧ r / 120 < (cs.length : Int)) ∨ (d ≠ 0 ∧ (cs.length : Int) ≤ r / 120) by omega) with hk8 | hk8 | hk8
  ·
   skip
   refine wp_rs fun K9 hK9 => ?_
   refine hF.v (x_move rfl) fun a hF => ?_
   refine hF.v (eqlT (by omega) rfl rfl) fun a hF => ?_
   refine hF.v (x_move rfl) fun a hF => ?_
   refine s_grdn 18 hF rfl rfl (by decide) fun a hF => ?_
   refine s_grdn 18 hF rfl rfl (by decide) fun a hF => ?_
   refine s_grdn 18 hF rfl rfl (by decide) fun a hF => ?_
   refine s_grdn 18 hF rfl rfl (by decide) fun a hF => ?_
   refine s_grdn 18 hF rfl rfl (by decide) fun a hF => ?_
   refine s_grdn 18 hF rfl rfl (by decide) fun a hF => ?_
   refine s_grdn 18 hF rfl rfl (by decide) fun a hF => ?_
   refine s_grdn 18 hF rfl rfl (by decide) fun a hF => ?_
   refine s_grdn 18 hF rfl rfl (by decide) fun a hF => ?_
   refine hF.v (x_pick (b := true) rfl rfl) fun a hF => ?_
   refine s_end (hK9 _ _ ?_)
   refine wp_if hF rfl ?_
   refine wp_rs fun K10 hK10 => ?_
   refine hF.v (x_assign rfl) fun a hF => ?_
   refine s_end (hK10 _ _ ?_)
   refine wp_ret (then_ret (res_slot hF rfl rfl ⟨_, rfl, ⟨⟨false, rfl, fun h => by cases h⟩, ⟨r, mr, hr0, hr1⟩⟩, hQ⟩))
  ·
   skip
   refine wp_rs fun K11 hK11 => ?_
   refine hF.v (x_move rfl) fun a hF => ?_
   refine hF.v (eqlF (by omega) rfl rfl) fun a hF => ?_
   refine hF.v (x_move rfl) fun a hF => ?_
   refine s_grd 18 hF rfl rfl rfl ?_
   refine hF.v (x_move rfl) fun a hF => ?_
   refine s_grd 18 hF rfl rfl rfl ?_
   refine hF.v (x_len Try.underlying25 rfl) fun a hF => ?_
   refine s_grd 18 hF rfl rfl rfl ?_
   refine hF.v (x_move rfl) fun a hF => ?_
   refine s_grd 18 hF rfl rfl rfl ?_
   refine hF.v (x_nil rfl) fun a hF => ?_
   refine s_grd 18 hF rfl rfl rfl ?_
   refine hF.v (x_fa0 fa110_0 rfl) fun a hF => ?_
   refine s_grd 18 hF rfl rfl rfl ?_
   refine hF.v (x_load rfl (m_load flat3 (mr.cell (j := 0) rfl))) fun a hF => ?_
   refine s_grd 18 hF rfl rfl rfl ?_
   refine hF.v (x_move rfl) fun a hF => ?_
   refine s_grd 18 hF rfl rfl rfl ?_
   refine hF.v (x_quon (r / 120) (by decide) hr0 (by omega) rfl rfl rfl) fun a hF => ?_
   refine s_grd 18 hF rfl rfl rfl ?_
   refine hF.v (gtrT (by omega) rfl rfl) fun a hF => ?_
   refine hF.v (x_pick (b := false) rfl rfl) fun a hF => ?_
   refine s_end (hK11 _ _ ?_)
   refine wp_if hF rfl ?_
   refine wp_rs fun K12 hK12 => ?_
   refine hF.v (x_assign rfl) fun a hF => ?_
   refine s_end (hK12 _ _ ?_)
   refine wp_ret (then_ret (res_slot hF rfl rfl ⟨_, rfl, ⟨⟨false, rfl, fun h => by cases h⟩, ⟨r, mr, hr0, hr1⟩⟩, hQ⟩))
  ·
   skip
   refine wp_rs fun K13 hK13 => ?_
   refine hF.v (x_move rfl) fun a hF => ?_
   refine hF.v (eqlF (by omega) rfl rfl) fun a hF => ?_
   refine hF.v (x_move rfl) fun a hF => ?_
   refine s_grd 18 hF rfl rfl rfl ?_
   refine hF.v (x_move rfl) fun a hF => ?_
   refine s_grd 18 hF rfl rfl rfl ?_
   refine hF.v (x_len Try.underlying25 rfl) fun a hF => ?_
   refine s_grd 18 hF rfl rfl rfl ?_
   refine hF.v (x_move rfl) fun a hF => ?_
   refine s_grd 18 hF rfl rfl rfl ?_
   refine hF.v (x_nil rfl) fun a hF => ?_
   refine s_grd 18 hF rfl rfl rfl ?_
   refine hF.v (x_fa0 fa110_0 rfl) fun a hF => ?_
   refine s_grd 18 hF rfl rfl rfl ?_
   refine hF.v (x_load rfl (m_load flat3 (mr.cell (j := 0) rfl))) fun a hF => ?_
   refine s_grd 18 hF rfl rfl rfl ?_
   refine hF.v (x_move rfl) fun a hF => ?_
   refine s_grd 18 hF rfl rfl rfl ?_
   refine hF.v (x_quon (r / 120) (by decide) hr0 (by omega) rfl rfl rfl) fun a hF => ?_
   refine s_grd 18 hF rfl rfl rfl ?_
   refine hF.v (gtrF (by omega) rfl rfl) fun a hF => ?_
   refine hF.v (x_pick (b := false) rfl rfl) fun a hF => ?_
   refine s_end (hK13 _ _ ?_)
   refine wp_if hF rfl ?_
   refine wp_skip (hK7 _ _ ?_)
   refine wp_rs fun K14 hK14 => ?_
   refine hF.v (x_move rfl) fun a hF => ?_
   refine hF.v (x_nil rfl) fun a hF => ?_
   refine hF.v (x_fa0 fa110_0 rfl) fun a hF => ?_
   refine hF.v (x_load rfl (m_load flat3 (mr.cell (j := 0) rfl))) fun a hF => ?_
   refine hF.v (x_move rfl) fun a hF => ?_
   refine hF.v (x_len Try.underlying25 rfl) fun a hF => ?_
   refine hF.v (x_move rfl) fun a hF => ?_
   refine hF.v (x_mul (by omega) (by omega) rfl rfl) fun a hF => ?_
   refine hF.v (x_sub (by omega) (by omega) rfl rfl) fun a hF => ?_
   refine hF.v (x_nil rfl) fun a hF => ?_
   refine hF.v (x_fa0 fa110_0 rfl) fun a hF => ?_
   refine s_put hF rfl rfl flat3 mr (by first | (simp; done) | decide) rfl fun w2 mr o3 => ?_
   have so3 := o3.size
   have hK := hK.only o3 (by omega)
   have hQ := hQ.only o3 (by omega)
   refine s_end (hK14 _ _ ?_)
   refine wp_seq_k fun K15 hK15 => ?_
   refine wp_rs fun K16 hK16 => ?_
   refine hF.v (x_move rfl) fun a hF => ?_
   refine hF.v (x_len Try.underlying25 rfl) fun a hF => ?_
   refine hF.v (x_move rfl) fun a hF => ?_
   refine s_end (hK16 _ _ ?_)
   refine wp_block ?_
   refine wp_up cs.length (fun i a w => (∃ r : Int, Blk w br 110 [.int .i64 r] ∧ 0 ≤ r ∧ r ≤ 2147483647) ∧ Ktw br br w0 w ∧ Ktw br br w1 w ∧ (∀ c ∈ cs.take i, c.dep ≤ d) ∧ Fs 57 a [(0, .pointer (some ⟨br, 0, none⟩)), (2, .int .i64 120), (3, .int .i64 (d : Int)), (4, .func (.func 88) #[] #[]), (40, .slice av cs.length cv), (41, .int .i64 (cs.length : Int)), (42, .int .i64 (i : Int))]) ⟨⟨_, mr, by omega, by omega⟩, hK, hQ, (fun c hc => by simp at hc), hF.sub _ rfl⟩ ?_
   clear hF hK hQ mr
   rintro i a w hi ⟨⟨r2, mr, hr2, hr3⟩, hK, hQ, hdp, hF⟩ K' hK'
   have sK := hK.size
   have sQ := hQ.size
   refine wp_rs fun K17 hK17 => ?_
   refine hF.v (x_lss (b := decide (i < cs.length)) (decide_eq_decide.2 (by omega)) rfl rfl) fun a hF => ?_
   refine s_end (hK17 _ _ ?_)
   refine wp_seq_k fun K18 hK18 => ?_
   refine wp_iff hF rfl (fun hc43 => ?_) (fun hc43 => ?_)
   ·
    obtain ⟨b9, off9, c9, y, kd, hve, hyk, hry, hAb, hbl, hrow⟩ := hV.row (i := i) (by omega)
    cases hve
    have hps := sumT_get hyk
    have hks := kd.kids_sum
    have hk3 := kd.kids_le
    have htk := take_snoc hyk
    refine wp_skip (hK18 _ _ ?_)
    refine wp_seq_k fun K19 hK19 => ?_
    refine wp_block ?_
    refine wp_rs fun K20 hK20 => ?_
    refine hF.v (x_ixa rfl rfl (m_ixsK i Try.underlying25 el25.size rfl (by omega))) fun a hF => ?_
    refine hF.v (x_ldA wide27 (hrow _ (hK.block _ hbl ⟨hAb.1, hAb.1⟩)) rfl rfl) fun a hF => ?_
    refine s_alloc hF (by decide) zero27 fun w4 b12 a eb12 m12 B5 zb12 hF => ?_
    have sB5 := B5.size
    have hK := hK.below B5
    have hQ := hQ.below B5
    have mr := mr.old B5
    refine s_putW hF rfl rfl (size_wide wide27) m12 rfl hry.one fun w8 m12 o9 => ?_
    have so9 := o9.size
    have hK := hK.only o9 (by omega)
    have hQ := hQ.only o9 (by omega)
    have mr := mr.only o9 (by omega)
    refine s_end (hK20 _ _ ?_)
    refine wp_rs fun K21 hK21 => ?_
    refine hF.v (x_move rfl) fun a hF => ?_
    refine hF.v (x_move rfl) fun a hF => ?_
    refine hF.v (x_ldW wide27 m12 rfl rfl) fun a hF => ?_
    refine s_callC (R := fun v w' => RK w0 (Ai w0.heap.size br) v kd.kids ∧ Below w8.heap.size w8 w') (lb := []) hF [_] rfl E88 rfl (by decide) (kidsOf101 kd y (Ai w0.heap.size br) w0 w8 hry) ?_
    rintro v49 w10 a ⟨hkv, B11⟩ hF
    have sB11 := B11.size
    have hK := hK.below B11
    have hQ := hQ.below B11
    have mr := mr.old B11
    refine hF.v (x_move rfl) fun a hF => ?_
    refine hF.v (x_move rfl) fun a hF => ?_
    refine hF.v (x_subn (d - 1) (by omega) (by omega) rfl rfl) fun a hF => ?_
    refine hF.v (x_move rfl) fun a hF => ?_
    refine s_call (R := fun u w' => ((∃ b, u = .bool b ∧ (b = true → kd.kids.length * 120 ≤ 2147483647 ∧ ∀ c ∈ kd.kids, c.dep ≤ d - 1)) ∧ Room w' br) ∧ Ktw br br w10 w') hF [_, _, _, _, _] E128 rfl (by decide) (ih kd.kids _ (by omega) hkv (d - 1) w10 (by omega) hK ⟨_, mr, hr2, hr3⟩) ?_
    rintro _ w12 a ⟨⟨⟨b54, rfl, h54⟩, ⟨r4, mr, hr4, hr5⟩⟩, k13⟩ hF
    have sk13 := k13.size
    have hK := hK.trans k13 (by omega)
    have hQ := hQ.trans k13 (by omega)
    refine hF.v (x_not rfl) fun a hF => ?_
    refine s_end (hK21 _ _ ?_)
    refine wp_ifb hF rfl (fun hc55 => ?_) (fun hc55 => ?_)
    ·
     refine wp_rs fun K22 hK22 => ?_
     refine hF.v (x_assign rfl) fun a hF => ?_
     refine s_end (hK22 _ _ ?_)
     refine wp_ret (inb_ret (then_ret (then_ret (inb_ret (then_ret (res_slot hF rfl rfl ⟨_, rfl, ⟨⟨false, rfl, fun h => by cases h⟩, ⟨r4, mr, hr4, hr5⟩⟩, hQ⟩))))))
    ·
     obtain rfl : b54 = true := by simpa using hc55
     have h55 := h54 rfl
     have hkd : kd.dep ≤ d := by have := CT.dep_kids h55.2; omega
     refine wp_skip (hK19 _ _ ?_)
     refine wp_region_lit ?_
     refine hF.v (x_addn (i + 1) (by omega) (by omega) rfl rfl) fun a hF => ?_
     refine hF.v (x_move rfl) fun a hF => ?_
     refine s_end (hK' _ _ (by omega) ⟨⟨r4, mr, hr4, hr5⟩, hK, hQ, (fun c hc => by rw [htk] at hc; rcases List.mem_append.1 hc with hc | hc; (· exact hdp c hc); (· rw [List.mem_singleton.1 hc]; exact hkd)), hF.sub _ rfl⟩)
   ·
    obtain rfl : i = cs.length := by omega
    rw [List.take_length] at hdp
    refine wp_exit (hK15 _ _ ?_)
    refine wp_rs fun K23 hK23 => ?_
    refine hF.v (x_assign rfl) fun a hF => ?_
    refine s_end (hK23 _ _ ?_)
    refine wp_ret (res_slot hF rfl rfl ⟨_, rfl, ⟨⟨true, rfl, fun _ => ⟨by omega, hdp⟩⟩, ⟨r2, mr, hr2, hr3⟩⟩, hQ⟩)

set_option maxRecDepth 100000 in
set_option maxHeartbeats 1600000 in
theorem takes100 (w0 : World) (br : Nat) (hbr : br < w0.heap.size) (cs : List CT) (v : Value) (hV : RK w0 (Ai w0.heap.size br) v cs) (w1 : World) (hK : Ktw br br w0 w1) (hR : Room w1 br) :
  Calls Try.prog 87 #[.pointer (some ⟨br, 0, none⟩), v, .int .i64 120, .func (.func 88) #[] #[]] w1 fun e w' => ∃ u, e = .returned u ∧ ((∃ b, u = .bool b ∧ (b = true → cs.length * 120 ≤ 2147483647 ∧ ∀ c ∈ cs, c.dep ≤ 65536)) ∧ Room w' br) ∧ Ktw br br w1 w' := by
 have hQ := Ktw.refl br br w1
 have sK := hK.size
 have sQ := hQ.size
 refine calls_fs 18 [(0, .pointer (some ⟨br, 0, none⟩)), (1, v), (2, .int .i64 120), (3, .func (.func 88) #[] #[])] Try.func87 rfl rfl rfl rfl rfl fun a hF => ?_
 refine wp_rs fun K1 hK1 => ?_
 refine hF.v (x_assign rfl) fun a hF => ?_
 refine s_end (hK1 _ _ ?_)
 refine wp_seq_k fun K2 hK2 => ?_
 refine wp_rs fun K3 hK3 => ?_
 refine hF.v (x_move rfl) fun a hF => ?_
 refine hF.v (x_move rfl) fun a hF => ?_
 refine hF.v (x_move rfl) fun a hF => ?_
 refine hF.v (x_move rfl) fun a hF => ?_
 refine s_call (R := fun u w' => ((∃ b, u = .bool b ∧ (b = true → cs.length * 120 ≤ 2147483647 ∧ ∀ c ∈ cs, c.dep ≤ 65536)) ∧ Room w' br) ∧ Ktw br br w1 w') hF [_, _, _, _, _] E128 rfl (by decide) (count134 w0 br hbr (sumT cs + 1) cs v (by omega) hV 65536 w1 (by omega) hK hR) ?_
 rintro _ w2 a ⟨⟨⟨b13, rfl, h13⟩, ⟨r4, mr, hr4, hr5⟩⟩, k3⟩ hF
 have sk3 := k3.size
 have hQ := hQ.trans k3 (by omega)
 refine hF.v (x_not rfl) fun a hF => ?_
 refine s_end (hK3 _ _ ?_)
 refine wp_ifb hF rfl (fun hc14 => ?_) (fun hc14 => ?_)
 ·
  refine wp_rs fun K4 hK4 => ?_
  refine hF.v (x_move rfl) fun a hF => ?_
  refine hF.v (x_nil rfl) fun a hF => ?_
  refine hF.v (x_fa0 fa110_0 rfl) fun a hF => ?_
  refine s_put hF rfl rfl flat3 mr (by first | (simp; done) | decide) rfl fun w4 mr o5 => ?_
  have so5 := o5.size
  have hQ := hQ.only o5 (by omega)
  refine s_end (hK4 _ _ ?_)
  refine wp_rs fun K5 hK5 => ?_
  refine hF.v (x_assign rfl) fun a hF => ?_
  refine s_end (hK5 _ _ ?_)
  refine wp_ret (then_ret (res_slot hF rfl rfl ⟨_, rfl, ⟨⟨false, rfl, fun h => by cases h⟩, ⟨0, mr, by decide, by decide⟩⟩, hQ⟩))
 ·
  obtain rfl : b13 = true := by simpa using hc14
  have h14 := h13 rfl
  refine wp_skip (hK2 _ _ ?_)
  refine wp_rs fun K6 hK6 => ?_
  refine hF.v (x_assign rfl) fun a hF => ?_
  refine s_end (hK6 _ _ ?_)
  refine wp_ret (res_slot hF rfl rfl ⟨_, rfl, ⟨⟨true, rfl, fun _ => h14⟩, ⟨r4, mr, hr4, hr5⟩⟩, hQ⟩)
end Go.Proofs.Ytbhhbfdoadecgaa

namespace Go.Proofs.Ytbhhbfdoadecgaa
open Go.RowKit Go.Shelf
set_option linter.unusedVariables false
set_option linter.unusedSimpArgs false

theorem RVn.k2 {W W' : World} {A : Nat → Prop} {v : Value} {ls : List Lv} {a b : Nat} (h : RVn W A v ls) (hK : Ktw a b W W') (hA : ∀ k, A k → k ≠ a ∧ k ≠ b) : RVn W' A v ls := h.keep hK.size (fun k ha hk => hK.block k hk (hA k ha))
theorem Ok.k2 {W W' : World} {A : Nat → Prop} {x : C8} {a b : Nat} (h : Ok W A x) (hK : Ktw a b W W') (hA : ∀ k, A k → k ≠ a ∧ k ≠ b) : Ok W' A x := h.keep hK.size (fun k ha hk => hK.block k hk (hA k ha))
theorem QL.rvn {W : World} {A : Nat → Prop} {v : Value} {zs : List C3} {ls : List Lv} (h : QL W A zs ls) (hR : Rd W v 3 zs.length (zs.flatMap lc)) (hA : ∀ j, v.ownBlock = some j → A j) : RVn W A v ls := ⟨zs, ⟨hR, fun _ j hj => hA j hj⟩, h.1, h.2⟩
/-- Each is as it was, or a copy. -/
def cpAll (ls ls' : List Lv) : Prop := ∀ (j : Nat) l l', ls[j]? = some l → ls'[j]? = some l' → isCp l l'
theorem cpAll.snoc {ls ls' : List Lv} {p p' : Lv} {i : Nat} (h : cpAll ls ls') (hl : ls'.length = i) (hp : ls[i]? = some p) (hc : isCp p p') : cpAll ls (ls' ++ [p']) := by
 intro j l l' e1 e2
 rcases Nat.lt_trichotomy j ls'.length with hj | hj | hj
 ·
  rw [List.getElem?_append_left hj] at e2
  exact h j l l' e1 e2
 ·
  subst hj
  rw [List.getElem?_append_right (Nat.le_refl _)] at e2
  simp at e2
  subst e2
  rw [hl, hp] at e1
  cases e1
  exact hc
 ·
  rw [List.getElem?_eq_none (by simp; omega)] at e2
  cases e2
theorem cpAll.slO {W : World} {A : Nat → Prop} {v : Value} {ls ls' : List Lv} (h : cpAll ls ls') (hl : ls'.length = ls.length) (hV : RVn W A v ls) : ls'.map slO = ls.map slO := by
 obtain ⟨xs, h1, h2, h3⟩ := hV
 apply List.ext_getElem?
 intro i
 by_cases hi : i < ls.length
 ·
  rw [List.getElem?_map, List.getElem?_map, List.getElem?_eq_getElem hi, List.getElem?_eq_getElem (by omega : i < ls'.length)]
  exact congrArg some ((h i _ _ (List.getElem?_eq_getElem hi) (List.getElem?_eq_getElem (by omega))).slO (h3 i (xs[i]'(by omega)) _ (List.getElem?_eq_getElem (by omega)) (List.getElem?_eq_getElem hi)).rl)
 ·
  rw [List.getElem?_eq_none (by simp; omega), List.getElem?_eq_none (by simp; omega)]

set_option maxRecDepth 100000 in
set_option maxHeartbeats 1600000 in
theorem levels130 (W : World) (br : Nat) (hbr : br < W.heap.size) (A : Nat → Prop) (hA : ∀ k, A k → k ≠ br ∧ k < W.heap.size) (ls : List Lv) (v : Value) (hV : RVn W A v ls) (hR : Room W br) :
  Calls Try.prog 111 #[.pointer (some ⟨br, 0, none⟩), v] W fun e w' => ∃ u, e = .returned u ∧ ((∃ ls', RVn w' (fun k => A k ∨ W.heap.size ≤ k) u ls' ∧ ls'.map slO = ls.map slO) ∧ Room w' br) ∧ Ktw br br W w' := by
 have hK := Ktw.refl br br W
 have sK := hK.size
 obtain ⟨av, cv, hve, _⟩ := hV.form
 subst hve
 refine calls_fs 26 [(0, .pointer (some ⟨br, 0, none⟩)), (1, .slice av ls.length cv)] Try.func111 rfl rfl rfl rfl rfl fun a hF => ?_
 refine wp_rs fun K1 hK1 => ?_
 refine hF.v (x_assign rfl) fun a hF => ?_
 refine s_end (hK1 _ _ ?_)
 refine wp_seq_k fun K2 hK2 => ?_
 refine wp_rs fun K3 hK3 => ?_
 refine hF.v (x_move rfl) fun a hF => ?_
 refine hF.v (x_move rfl) fun a hF => ?_
 refine s_call (R := fun u w' => ((∃ b, u = .bool b ∧ (b = true → ls.length * 40 ≤ 2147483647)) ∧ Room w' br) ∧ Ktw br br W w') hF [_, _, _, _] E142 rfl (by decide) (takes143 W br hbr ls _ (hV.mono hA) W hK hR) ?_
 rintro _ w2 a ⟨⟨⟨b10, rfl, h10⟩, ⟨r4, mr, hr4, hr5⟩⟩, k3⟩ hF
 have sk3 := k3.size
 have hK := hK.trans k3 (by omega)
 refine hF.v (x_not rfl) fun a hF => ?_
 refine s_end (hK3 _ _ ?_)
 refine wp_ifb hF rfl (fun hc11 => ?_) (fun hc11 => ?_)
 ·
  refine wp_rs fun K4 hK4 => ?_
  refine hF.v (x_move rfl) fun a hF => ?_
  refine hF.v (x_assign rfl) fun a hF => ?_
  refine s_end (hK4 _ _ ?_)
  refine wp_ret (then_ret (res_slot hF rfl rfl ⟨_, rfl, ⟨⟨ls, (hV.k2 hK (fun k hk => ⟨(hA k hk).1, (hA k hk).1⟩)).mono (fun k hk => .inl hk), rfl⟩, ⟨r4, mr, hr4, hr5⟩⟩, hK⟩))
 ·
  obtain rfl : b10 = true := by simpa using hc11
  have h11 := h10 rfl
  refine wp_skip (hK2 _ _ ?_)
  refine wp_rs fun K5 hK5 => ?_
  refine hF.v (x_assign rfl) fun a hF => ?_
  refine s_end (hK5 _ _ ?_)
  refine wp_seq_k fun K6 hK6 => ?_
  refine wp_rs fun K7 hK7 => ?_
  refine hF.v (x_move rfl) fun a hF => ?_
  refine hF.v (x_len Try.underlying22 rfl) fun a hF => ?_
  refine hF.v (x_move rfl) fun a hF => ?_
  refine s_end (hK7 _ _ ?_)
  refine wp_block ?_
  refine wp_up ls.length (fun i a w => ∃ v' o' zs ls', w.ownsRow W.heap.size 24 3 v' zs.length (zs.flatMap lc) ∧ (∀ j, v'.ownBlock = some j → j = o') ∧ v'.ownBlock ≠ some br ∧ ((o' = br ∨ W.heap.size ≤ o') ∧ o' < w.heap.size) ∧ QL w (fun k => (k < W.heap.size ∧ k ≠ br ∧ A k ∨ W.heap.size ≤ k) ∧ k ≠ o' ∧ k < w.heap.size) zs ls' ∧ ls'.length = i ∧ cpAll ls ls' ∧ Blk w br 110 [.int .i64 r4] ∧ Ktw br br W w ∧ Fs 26 a [(5, v'), (13, .slice av ls.length cv), (14, .int .i64 (ls.length : Int)), (15, .int .i64 (i : Int))]) ⟨_, br, [], [], World.ownsRow_nil _ _ _ _, (fun j h => by cases h), (fun h => by cases h), by omega, QL.nil, rfl, (fun j l l' _ h => by simp at h), mr, hK, hF.sub _ rfl⟩ ?_
  repeat clear hF
  clear hK mr
  rintro i a w hi ⟨vv, o2, zs, ls2, hO, hat, hne, hlo, hP, hl2, hcp, mr, hK, hF⟩ K' hK'
  have sK := hK.size
  obtain ⟨top, htop⟩ : ∃ h, h = w.heap.size := ⟨_, rfl⟩
  rw [← htop] at hP
  have hPl := hP.1
  have h1vv := (Rd.own hO).one
  refine wp_rs fun K8 hK8 => ?_
  refine hF.v (x_lss (b := decide (i < ls.length)) (decide_eq_decide.2 (by omega)) rfl rfl) fun a hF => ?_
  refine s_end (hK8 _ _ ?_)
  refine wp_seq_k fun K9 hK9 => ?_
  refine wp_iff hF rfl (fun hc16 => ?_) (fun hc16 => ?_)
  ·
   obtain ⟨b9, off9, c9, y, p, hve, hp, hry, hAb, hbl, hrow⟩ := hV.row (i := i) (by omega)
   cases hve
   have h1y := hry.rl.one1
   have hAb2 := hA _ hAb
   refine wp_skip (hK9 _ _ ?_)
   refine wp_seq_k fun K10 hK10 => ?_
   refine wp_block ?_
   refine wp_rs fun K11 hK11 => ?_
   refine hF.v (x_ixa rfl rfl (m_ixsK i Try.underlying22 el22.size rfl (by omega))) fun a hF => ?_
   refine hF.v (x_ldA wide24 (hrow _ (hK.block _ hbl ⟨hAb2.1, hAb2.1⟩)) rfl rfl) fun a hF => ?_
   refine s_alloc hF (by decide) zero24 fun w4 b7 a eb7 m7 B5 zb7 hF => ?_
   have sB5 := B5.size
   have hK := hK.below B5
   have mr := mr.old B5
   have hO := own_below hO B5
   have hP := hP.below B5
   refine s_putW hF rfl rfl (size_wide wide24) m7 rfl (one_lc h1y) fun w8 m7 o9 => ?_
   have so9 := o9.size
   have hK := hK.only o9 (by omega)
   have mr := mr.only o9 (by omega)
   have hO := own_only hO o9 (fun e => by have := hat _ e; omega)
   have hP := hP.only o9 (fun k (hk : (k < W.heap.size ∧ k ≠ br ∧ A k ∨ W.heap.size ≤ k) ∧ k ≠ o2 ∧ k < top) => by omega)
   refine s_end (hK11 _ _ ?_)
   refine wp_region_lit ?_
   refine hF.v (x_move rfl) fun a hF => ?_
   refine hF.v (x_ldW wide24 m7 rfl rfl) fun a hF => ?_
   refine s_callR (R := fun u w' => ∃ z l', u = lv z ∧ RLx w' (fun k => A k ∨ w8.heap.size ≤ k) z l' ∧ isCp p l') [_, _] hF E144 rfl (by decide) (plusL145 w8 A (fun k hk => by have := (hA k hk).2; omega) p y (hry.keep hK.size (fun k hk hb => hK.block k hb ⟨(hA k hk).1, (hA k hk).1⟩))) ?_
   rintro _ w10 a ⟨z, l2, rfl, hz0, hcz⟩ B11 hF
   have sB11 := B11.size
   have hK := hK.below B11
   have mr := mr.old B11
   have hO := own_below hO B11
   have hP := hP.below B11
   have hz := hz0.valid
   clear hz0
   have hz : RLx w10 (fun k => (k < W.heap.size ∧ k ≠ br ∧ A k ∨ w8.heap.size ≤ k) ∧ k < w10.heap.size) z l2 := hz.mono (fun k hk => ⟨hk.1.elim (fun h => .inl ⟨(hA k h).2, (hA k h).1, h⟩) .inr, hk.2⟩)
   have h1z := hz.rl.one1
   refine s_litG [lv z] el22 hF (by decide) rfl (by simp [Value.cells, lc]) rfl (by decide) (by decide) fun w12 bl a ebl ml B13 zbl hF => ?_
   have sB13 := B13.size
   have hK := hK.below B13
   have mr := mr.old B13
   have hO := own_below hO B13
   have hP := hP.below B13
   have hz := hz.below B13
   have ml : Blk w12 bl 24 (lc z) := by simpa [Value.cells] using ml
   refine s_appL (o := o2) el22 hF (by decide) rfl rfl hO ml rfl (one_lc h1z) hat (by omega) (by omega) (by decide) (by omega) fun v3 w14 a o3 hOn hOatn how hsrc k15 hkeep hF => ?_
   have sk15 := k15.size
   have hK := hK.trans k15 (by omega)
   have mr : Blk w14 br _ _ := (hkeep _ mr.lt hne).trans mr
   have hP := hP.k2 k15 (fun k (hk : (k < W.heap.size ∧ k ≠ br ∧ A k ∨ W.heap.size ≤ k) ∧ k ≠ o2 ∧ k < top) => by omega)
   have hz := hz.k2 k15 (fun k (hk : (k < W.heap.size ∧ k ≠ br ∧ A k ∨ w8.heap.size ≤ k) ∧ k < w10.heap.size) => by omega)
   have hO := hOn
   have hO_at := hOatn
   have hneg : v3.ownBlock ≠ some br := fun h => by rcases hsrc br h with h | h; exact hne h; omega
   refine hF.v (x_assign rfl) fun a hF => ?_
   refine s_end (hK10 _ _ ?_)
   refine wp_region_lit ?_
   refine hF.v (x_addn (i + 1) (by omega) (by omega) rfl rfl) fun a hF => ?_
   refine hF.v (x_move rfl) fun a hF => ?_
   refine s_end (hK' _ _ (by omega) ⟨v3, o3, zs ++ [z], ls2 ++ [l2], by rw [fm3_app]; simpa using hO, hO_at, hneg, by omega, (hP.mono (fun k (hk : (k < W.heap.size ∧ k ≠ br ∧ A k ∨ W.heap.size ≤ k) ∧ k ≠ o2 ∧ k < top) => ⟨hk.1, by omega, by omega⟩)).snoc (hz.mono (fun k (hk : (k < W.heap.size ∧ k ≠ br ∧ A k ∨ w8.heap.size ≤ k) ∧ k < w10.heap.size) => ⟨hk.1.elim .inl (fun h => .inr (by omega)), by omega, by omega⟩)), by simp [hl2], hcp.snoc hl2 hp hcz, mr, hK, hF.sub _ rfl⟩)
  ·
   obtain rfl : i = ls.length := by omega
   refine wp_exit (hK6 _ _ ?_)
   refine wp_rs fun K12 hK12 => ?_
   refine hF.v (x_move rfl) fun a hF => ?_
   refine hF.v (x_assign rfl) fun a hF => ?_
   refine s_end (hK12 _ _ ?_)
   refine wp_ret (res_slot hF rfl rfl ⟨_, rfl, ⟨⟨ls2, (hP.mono (B := fun k => A k ∨ W.heap.size ≤ k) (fun k hk => hk.1.elim (fun h => .inl h.2.2) .inr)).rvn (Rd.own hO) (fun j h => .inr (hO.lt j h).1), hcp.slO hl2 hV⟩, ⟨r4, mr, hr4, hr5⟩⟩, hK⟩)

/-- A node, with these kids. -/
def nodeP : CT → List PT → PT
 | .var n _, _ => .var n
 | .sort l _, _ => .sort (slO l)
 | .cst s ls _, _ => .cst s (ls.map slO)
 | .odd k _, _ => .odd k
 | .two k _ _ _, ps => .two k (ps.getD 0 (.odd 0)) (ps.getD 1 (.odd 0))
 | .lt .., ps => .lt (ps.getD 0 (.odd 0)) (ps.getD 1 (.odd 0)) (ps.getD 2 (.odd 0))
theorem RE_two {W : World} {A : Nat → Prop} {v : Value} {k : Int} {p q : PT} (hk : k = 3 ∨ k = 4 ∨ k = 6) (h : RKE W A v [p, q]) : RE W A (.two k p q) ⟨k, 0, emptyB, (0, 0, nilS), nilS, v⟩ := by
 obtain ⟨cs, ⟨xs, h1, h2, h3⟩, h4⟩ := h.ck
 obtain ⟨a, b, rfl⟩ := len2 (show cs.length = 2 by simpa using congrArg List.length h4)
 obtain ⟨y, z, rfl⟩ := len2 (show xs.length = 2 by simpa using h2)
 simp at h4
 obtain ⟨rfl, rfl⟩ := h4
 exact ⟨.two k a b 0, ⟨rfl, hk, ⟨y, z, [], by simpa using h1, h3 0 y a rfl rfl, h3 1 z b rfl rfl⟩, ok0 _ _ _ _ _ _⟩, rfl⟩
theorem len3 {α : Type} {xs : List α} (h : xs.length = 3) : ∃ a b c, xs = [a, b, c] := by
 match xs, h with
 | [a, b, c], _ => exact ⟨a, b, c, rfl⟩
theorem RE_lt {W : World} {A : Nat → Prop} {v : Value} {p q r : PT} (h : RKE W A v [p, q, r]) : RE W A (.lt p q r) ⟨5, 0, emptyB, (0, 0, nilS), nilS, v⟩ := by
 obtain ⟨cs, ⟨xs, h1, h2, h3⟩, h4⟩ := h.ck
 obtain ⟨a, b, c, rfl⟩ := len3 (show cs.length = 3 by simpa using congrArg List.length h4)
 obtain ⟨y, z, u, rfl⟩ := len3 (show xs.length = 3 by simpa using h2)
 simp at h4
 obtain ⟨rfl, rfl, rfl⟩ := h4
 exact ⟨.lt a b c 0, ⟨rfl, ⟨y, z, u, [], by simpa using h1, h3 0 y a rfl rfl, h3 1 z b rfl rfl, h3 2 u c rfl rfl⟩, ok0 _ _ _ _ _ _⟩, rfl⟩
theorem RKE.rn0 {W : World} {A : Nat → Prop} {v : Value} (h : RKE W A v []) : ∃ cs, Rn W A v 8 0 cs := by
 obtain ⟨xs, h1, h2, h3⟩ := h
 rw [h2] at h1
 exact ⟨_, h1⟩
theorem RE_odd {W : World} {A : Nat → Prop} {v : Value} {k : Int} (hk : arT k < 0 ∨ (0 : Int) < arT k) (h : RKE W A v []) : RE W A (.odd k) ⟨k, 0, emptyB, (0, 0, nilS), nilS, v⟩ := ⟨.odd k 0, ⟨rfl, hk, h.rn0, ok0 _ _ _ _ _ _⟩, rfl⟩
theorem RE_var {W : World} {A : Nat → Prop} {v : Value} {n : Int} (hn : in64 n) (h : RKE W A v []) : RE W A (.var n) ⟨1, n, emptyB, (0, 0, nilS), nilS, v⟩ := ⟨.var n 0, ⟨rfl, rfl, hn, h.rn0, ok0 _ _ _ _ _ _⟩, rfl⟩
theorem RE_sort {W : World} {A : Nat → Prop} {v : Value} {l : Lv} {o : Option SL} {z : C3} (hz : RLn W A z l) (ho : slO l = o) (h : RKE W A v []) : RE W A (.sort o) ⟨2, 0, emptyB, z, nilS, v⟩ := ⟨.sort l 0, ⟨rfl, hz, h.rn0, ⟨_, hz⟩, [], RVn.nil W A⟩, by rw [CT.ess, ho]⟩
theorem RE_cst {W : World} {A : Nat → Prop} {v u : Value} {s : ByteArray} {ls : List Lv} {os : List (Option SL)} (hz : RVn W A u ls) (ho : ls.map slO = os) (h : RKE W A v []) : RE W A (.cst s os) ⟨7, 0, s, (0, 0, nilS), u, v⟩ := ⟨.cst s ls 0, ⟨rfl, rfl, hz, h.rn0, ⟨.mk 0 0 [], .mk (xs := []) (Rn.nil W A 3) rfl (fun i x l h => by simp at h)⟩, ls, hz⟩, by rw [CT.ess, ho]⟩

section
variable {W W' : World} {A B : Nat → Prop}
theorem RC.var_of : ∀ {c : CT} {x : C8}, RC W A c x → x.k = 1 → ∃ n m, c = .var n m
 | .var n m, _, _, _ => ⟨n, m, rfl⟩
 | .sort .., x, h, hk => by have := h.1; omega
 | .cst .., x, h, hk => by have := h.1; omega
 | .odd k m, x, h, hk => by
  have h1 := h.1
  have h2 := h.2.1
  rw [← h1, hk] at h2
  simp [arT] at h2
  omega
 | .two .., x, h, hk => by have := h.1; have := h.2.1; omega
 | .lt .., x, h, hk => by have := h.1; omega
theorem RC.sort_of : ∀ {c : CT} {x : C8}, RC W A c x → x.k = 2 → ∃ n m, c = .sort n m
 | .sort n m, _, _, _ => ⟨n, m, rfl⟩
 | .var .., x, h, hk => by have := h.1; omega
 | .cst .., x, h, hk => by have := h.1; omega
 | .odd k m, x, h, hk => by
  have h1 := h.1
  have h2 := h.2.1
  rw [← h1, hk] at h2
  simp [arT] at h2
  omega
 | .two .., x, h, hk => by have := h.1; have := h.2.1; omega
 | .lt .., x, h, hk => by have := h.1; omega
theorem RC.cst_of : ∀ {c : CT} {x : C8}, RC W A c x → x.k = 7 → ∃ s ls m, c = .cst s ls m
 | .cst s n m, _, _, _ => ⟨s, n, m, rfl⟩
 | .var .., x, h, hk => by have := h.1; omega
 | .sort .., x, h, hk => by have := h.1; omega
 | .odd k m, x, h, hk => by
  have h1 := h.1
  have h2 := h.2.1
  rw [← h1, hk] at h2
  simp [arT] at h2
  omega
 | .two .., x, h, hk => by have := h.1; have := h.2.1; omega
 | .lt .., x, h, hk => by have := h.1; omega
theorem RE_rest {v : Value} {ps : List PT} : ∀ {c : CT} {x : C8}, RC W A c x → (x.k ≠ 1 ∧ x.k ≠ 2 ∧ x.k ≠ 7) → RKE W' B v ps → ps.length = c.kids.length → RE W' B (nodeP c ps) ⟨x.k, 0, emptyB, (0, 0, nilS), nilS, v⟩
 | .var .., x, h, hk, _, _ => by have := h.1; omega
 | .sort .., x, h, hk, _, _ => by have := h.1; omega
 | .cst .., x, h, hk, _, _ => by have := h.1; omega
 | .odd k m, x, h, hk, hV, hl => by
  obtain rfl : ps = [] := List.eq_nil_of_length_eq_zero hl
  rw [h.1]
  exact RE_odd (by have := h.2.1; omega) hV
 | .two k a b m, x, h, hk, hV, hl => by
  obtain ⟨p, q, rfl⟩ := len2 hl
  rw [h.1]
  exact RE_two h.2.1 hV
 | .lt a b c m, x, h, hk, hV, hl => by
  obtain ⟨p, q, r, rfl⟩ := len3 hl
  rw [h.1]
  exact RE_lt hV
theorem RVn.below {v : Value} {ls : List Lv} (h : RVn W A v ls) (hB : Below W.heap.size W W') : RVn W' A v ls := h.keep hB.size fun k _ hk => hB.block k hk
theorem RVn.only {v : Value} {ls : List Lv} {c : Nat} (h : RVn W A v ls) (o : Only c W W') (hc : ∀ k, A k → k ≠ c) : RVn W' A v ls := h.keep (Nat.le_of_eq o.size.symm) fun k ha _ => o.block k (hc k ha)
end

set_option maxRecDepth 100000 in
set_option maxHeartbeats 1600000 in
theorem node92 (W : World) (br : Nat) (hbr : br < W.heap.size) (A : Nat → Prop) (hA : ∀ k, A k → k ≠ br ∧ k < W.heap.size) (c : CT) (x : C8) (hx : RC W A c x) (v : Value) (ps : List PT) (hV : RKE W A v ps) (hl : ps.length = c.kids.length) (hR : Room W br) :
  Calls Try.prog 66 #[.pointer (some ⟨br, 0, none⟩), tv x, v] W fun e w' => ∃ u, e = .returned u ∧ ((∃ y, u = tv y ∧ RE w' (fun k => A k ∨ W.heap.size ≤ k) (nodeP c ps) y ∧ y.ts = v) ∧ Room w' br) ∧ Ktw br br W w' := by
 have hK := Ktw.refl br br W
 have sK := hK.size
 have hA2 : ∀ k, A k → k ≠ br ∧ k ≠ br := fun k hk => ⟨(hA k hk).1, (hA k hk).1⟩
 obtain ⟨av, cv, hve, _⟩ := hV.form
 subst hve
 have hone := hx.one
 obtain ⟨xk, xn, xs, xl, xls, xts⟩ := x
 refine calls_fs 40 [(0, .pointer (some ⟨br, 0, none⟩)), (1, tv ⟨xk, xn, xs, xl, xls, xts⟩), (2, .slice av ps.length cv)] Try.func66 rfl rfl rfl rfl rfl fun a hF => ?_
 refine wp_rs fun K1 hK1 => ?_
 refine s_box ([.int .i64 xk, .int .i64 xn, .string xs, .int .i64 xl.1, .int .i64 xl.2.1, xl.2.2, xls, xts]) hF (by decide) rfl rfl fun w2 b4 a eb4 m4 B3 zb4 hF => ?_
 have sB3 := B3.size
 have hK := hK.below B3
 have hR := hR.below B3
 refine s_alloc hF (by decide) zero27 fun w4 b6 a eb6 m6 B5 zb6 hF => ?_
 have sB5 := B5.size
 have hK := hK.below B5
 have m4 := m4.old B5
 have hR := hR.below B5
 refine s_end (hK1 _ _ ?_)
 refine wp_rs fun K2 hK2 => ?_
 refine hF.v (x_fa0 fa27_0 rfl) fun a hF => ?_
 refine hF.v (x_load rfl (m_load flat3 (m4.cell (j := 0) rfl))) fun a hF => ?_
 refine hF.v (x_move rfl) fun a hF => ?_
 refine hF.v (x_build (vs := [(0, _), (5, _)]) rfl (b27_05 _ _ _ _ _)) fun a hF => ?_
 refine s_alloc hF (by decide) zero27 fun w6 b7 a eb7 m7 B7 zb7 hF => ?_
 have sB7 := B7.size
 have hK := hK.below B7
 have m4 := m4.old B7
 have m6 := m6.old B7
 have hR := hR.below B7
 refine s_putW hF rfl rfl (size_wide wide27) m7 rfl (one_tc0 _ _ _ _ rfl) fun w10 m7 o11 => ?_
 have so11 := o11.size
 have hK := hK.only o11 (by omega)
 have m4 := m4.only o11 (by omega)
 have m6 := m6.only o11 (by omega)
 have hR := hR.only o11 (by omega)
 refine s_end (hK2 _ _ ?_)
 refine wp_seq_k fun K3 hK3 => ?_
 refine wp_rs fun K4 hK4 => ?_
 refine hF.v (x_fa0 fa27_0 rfl) fun a hF => ?_
 refine hF.v (x_load rfl (m_load flat3 (m4.cell (j := 0) rfl))) fun a hF => ?_
 refine s_end (hK4 _ _ ?_)
 refine wp_block ?_
 rcases (show xk = 1 ∨ xk = 2 ∨ xk = 7 ∨ (xk ≠ 1 ∧ xk ≠ 2 ∧ xk ≠ 7) by omega) with hk9 | hk9 | hk9 | hk9
 ·
  obtain ⟨n9, m9, rfl⟩ := hx.var_of hk9
  obtain rfl : ps = [] := List.eq_nil_of_length_eq_zero hl
  have hn9 : xn = n9 := hx.2.1
  have hi9 : in64 n9 := hx.2.2.1
  subst hk9 hn9
  refine wp_rs fun K6 hK6 => ?_
  refine hF.v (eqlT (by omega) rfl rfl) fun a hF => ?_
  refine hF.v (x_assign rfl) fun a hF => ?_
  refine s_end (hK6 _ _ ?_)
  refine wp_if hF rfl ?_
  refine wp_region_lit ?_
  refine hF.v (x_fa0 fa27_1 rfl) fun a hF => ?_
  refine hF.v (x_load rfl (m_load flat3 (m4.cell (j := 1) rfl))) fun a hF => ?_
  refine hF.v (x_fa0 fa27_1 rfl) fun a hF => ?_
  refine s_put hF rfl rfl flat3 m7 (by first | (simp; done) | (simp [tc, lc]; done) | decide) rfl fun w12 m7 o13 => ?_
  have so13 := o13.size
  have hK := hK.only o13 (by omega)
  have m6 := m6.only o13 (by omega)
  have hR := hR.only o13 (by omega)
  refine s_end (hK3 _ _ ?_)
  have h1Y := ((show RE w12 (fun k => A k ∨ W.heap.size ≤ k) _ _ from RE_var hi9 ((hV.keep hK.size (fun k hk hb => hK.block k hb (hA2 k hk))).mono (fun k hk => .inl hk)))).one
  refine wp_rs fun K7 hK7 => ?_
  refine hF.v (x_ldW wide27 m7 rfl rfl) fun a hF => ?_
  refine s_putW hF rfl rfl (size_wide wide27) m6 rfl h1Y fun w16 m6 o17 => ?_
  have so17 := o17.size
  have hK := hK.only o17 (by omega)
  have hR := hR.only o17 (by omega)
  refine s_end (hK7 _ _ ?_)
  refine wp_ret (res_cell hF rfl rfl m6 wide27 ⟨_, rfl, ⟨⟨_, rfl, RE_var hi9 ((hV.keep hK.size (fun k hk hb => hK.block k hb (hA2 k hk))).mono (fun k hk => .inl hk)), rfl⟩, hR⟩, hK⟩)
 ·
  obtain ⟨l, m9, rfl⟩ := hx.sort_of hk9
  obtain rfl : ps = [] := List.eq_nil_of_length_eq_zero hl
  have hxl : RLn W A xl l := hx.2.1
  subst hk9
  refine wp_rs fun K8 hK8 => ?_
  refine hF.v (eqlF (by omega) rfl rfl) fun a hF => ?_
  refine hF.v (x_assign rfl) fun a hF => ?_
  refine s_end (hK8 _ _ ?_)
  refine wp_if hF rfl ?_
  refine wp_rs fun K9 hK9 => ?_
  refine hF.v (eqlT (by omega) rfl rfl) fun a hF => ?_
  refine hF.v (x_assign rfl) fun a hF => ?_
  refine s_end (hK9 _ _ ?_)
  refine wp_if hF rfl ?_
  refine wp_region_lit ?_
  refine hF.v (x_move rfl) fun a hF => ?_
  refine hF.v (x_fa0 fa27_3 rfl) fun a hF => ?_
  refine hF.v (x_load rfl (m_loadP (vs := [_, _, _]) wide24 m4 rfl)) fun a hF => ?_
  refine s_litG [lv xl] el22 hF (by decide) rfl (by simp [Value.cells, lc]) rfl (by decide) (by decide) fun w18 bl a ebl ml B19 zbl hF => ?_
  have sB19 := B19.size
  have hK := hK.below B19
  have m6 := m6.old B19
  have m7 := m7.old B19
  have hR := hR.below B19
  have ml : Blk w18 bl 24 (lc xl) := by simpa [Value.cells] using ml
  have hbl1 := ml.lt
  have hrl : RVn w18 (fun k => A k ∨ k = bl) (.slice (some ⟨bl, 0, none⟩) 1 1) [l] := ⟨[xl], ⟨by simpa using Rd.blk ml (n := 1) rfl, fun _ b hb => by simp [Value.ownBlock] at hb; exact .inr hb.symm⟩, rfl, fun i x l2 e1 e2 => by rcases i with _ | i; (· simp at e1 e2; subst e1 e2; exact RLn.mono (fun k hk => .inl hk) (hxl.keep hK.size (fun k hk hb => hK.block k hb (hA2 k hk)))); simp at e1⟩
  refine s_call (R := fun u w' => ((∃ ls', RVn w' (fun k => (A k ∨ k = bl) ∨ w18.heap.size ≤ k) u ls' ∧ ls'.map slO = [l].map slO) ∧ Room w' br) ∧ Ktw br br w18 w') hF [_, _] E111 rfl (by decide) (levels130 w18 br (by omega) (fun k => A k ∨ k = bl) (fun k hk => by rcases hk with hk | rfl; (· have := hA k hk; omega); omega) [l] _ hrl hR) ?_
  rintro v25 w20 a ⟨⟨⟨ls2, hv25, he25⟩, hR⟩, k21⟩ hF
  have sk21 := k21.size
  have hK := hK.trans k21 (by omega)
  have m6 := m6.k2 k21 (by omega)
  have m7 := m7.k2 k21 (by omega)
  obtain ⟨l2, rfl⟩ : ∃ l2, ls2 = [l2] := List.length_eq_one_iff.1 (by simpa using congrArg List.length he25)
  obtain ⟨b9, off9, c9, z, l3, hve, hyk, hz, hAb, hbl, hrow⟩ := hv25.row (i := 0) (by simp)
  subst hve
  simp only [List.length_singleton] at hF
  simp at hyk
  subst hyk
  simp at he25
  have hz : RLx w20 (fun k => (A k ∧ k < W.heap.size ∧ k ≠ br) ∨ k = bl ∨ w18.heap.size ≤ k) z l2 := RLx.mono hz (fun k hk => by rcases hk with (hk | hk) | hk; (· exact .inl ⟨hk, (hA k hk).2, (hA k hk).1⟩); (· exact .inr (.inl hk)); exact .inr (.inr hk))
  refine hF.v (x_ixa rfl rfl (m_ixsK 0 Try.underlying22 el22.size rfl (by omega))) fun a hF => ?_
  refine hF.v (x_ldA wide24 (hrow _ rfl) rfl rfl) fun a hF => ?_
  refine hF.v (x_fa0 fa27_3 rfl) fun a hF => ?_
  refine s_putP hF rfl rfl (size_wide wide24) m7 (by first | (simp [tc, lc]; done) | decide) (one_lc hz.rl.one1) fun w22 m7 o23 => ?_
  have so23 := o23.size
  have hK := hK.only o23 (by omega)
  have m6 := m6.only o23 (by omega)
  have hz := hz.only o23 (fun k (hk : (A k ∧ k < W.heap.size ∧ k ≠ br) ∨ k = bl ∨ w18.heap.size ≤ k) => by omega)
  have hR := hR.only o23 (by omega)
  refine s_end (hK3 _ _ ?_)
  have h1Y := ((show RE w22 (fun k => A k ∨ W.heap.size ≤ k) _ _ from RE_sort (RLn.mono (fun k hk => by rcases hk with hk | hk | hk; (· exact .inl hk.1); (· exact .inr (by omega)); exact .inr (by omega)) hz) he25 ((hV.keep hK.size (fun k hk hb => hK.block k hb (hA2 k hk))).mono (fun k hk => .inl hk)))).one
  refine wp_rs fun K10 hK10 => ?_
  refine hF.v (x_ldW wide27 m7 rfl rfl) fun a hF => ?_
  refine s_putW hF rfl rfl (size_wide wide27) m6 rfl h1Y fun w26 m6 o27 => ?_
  have so27 := o27.size
  have hK := hK.only o27 (by omega)
  have hz := hz.only o27 (fun k (hk : (A k ∧ k < W.heap.size ∧ k ≠ br) ∨ k = bl ∨ w18.heap.size ≤ k) => by omega)
  have hR := hR.only o27 (by omega)
  refine s_end (hK10 _ _ ?_)
  refine wp_ret (res_cell hF rfl rfl m6 wide27 ⟨_, rfl, ⟨⟨_, rfl, RE_sort (RLn.mono (fun k hk => by rcases hk with hk | hk | hk; (· exact .inl hk.1); (· exact .inr (by omega)); exact .inr (by omega)) hz) he25 ((hV.keep hK.size (fun k hk hb => hK.block k hb (hA2 k hk))).mono (fun k hk => .inl hk)), rfl⟩, hR⟩, hK⟩)
 ·
  obtain ⟨s9, ls, m9, rfl⟩ := hx.cst_of hk9
  obtain rfl : ps = [] := List.eq_nil_of_length_eq_zero hl
  have hs9 : xs = s9 := hx.2.1
  have hxls : RVn W A xls ls := hx.2.2.1
  subst hk9 hs9
  refine wp_rs fun K11 hK11 => ?_
  refine hF.v (eqlF (by omega) rfl rfl) fun a hF => ?_
  refine hF.v (x_assign rfl) fun a hF => ?_
  refine s_end (hK11 _ _ ?_)
  refine wp_if hF rfl ?_
  refine wp_rs fun K12 hK12 => ?_
  refine hF.v (eqlF (by omega) rfl rfl) fun a hF => ?_
  refine hF.v (x_assign rfl) fun a hF => ?_
  refine s_end (hK12 _ _ ?_)
  refine wp_if hF rfl ?_
  refine wp_rs fun K13 hK13 => ?_
  refine hF.v (eqlT (by omega) rfl rfl) fun a hF => ?_
  refine hF.v (x_assign rfl) fun a hF => ?_
  refine s_end (hK13 _ _ ?_)
  refine wp_if hF rfl ?_
  refine dk2_one (br) (b7) (ops := regOps Try.f66 8) (N := 10) (by kernel_rfl) wide_orders (by kernel_rfl) fun w28 hw28 B29 hS K14 hK14 => ?_
  have zw28 : w28.heap.size = w10.heap.size := by rw [hw28]
  have sB29 := B29.size
  have hK := hK.below B29
  have m4 := m4.old B29
  have m6 := m6.old B29
  have m7 := m7.old B29
  have hR := hR.below B29
  have hR_d := hR
  have m4_d := m4
  have m6_d := m6
  have m7_d := m7
  have hK_d := hK
  refine hF.d 0 31 (.fieldAddr 27 (.tmp 4) 2) hS (fun W hW => x_fa0 fa27_2 rfl) fun a hF => ?_
  refine hF.d 1 32 (.load 9 (.tmp 31)) hS (fun W hW => x_load rfl (m_load flat9 ((m4_d.k2 hW (by omega)).cell (j := 2) rfl))) fun a hF => ?_
  refine hF.d 2 33 (.move (.tmp 0)) hS (fun W hW => x_move rfl) fun a hF => ?_
  refine hF.d 3 34 (.fieldAddr 27 (.tmp 4) 4) hS (fun W hW => x_fa0 fa27_4 rfl) fun a hF => ?_
  refine hF.d 4 35 (.load 22 (.tmp 34)) hS (fun W hW => x_load rfl (m_load flat22 ((m4_d.k2 hW (by omega)).cell (j := 6) rfl))) fun a hF => ?_
  refine hF.d 6 37 (.fieldAddr 27 (.tmp 7) 2) hS (fun W hW => x_fa0 fa27_2 rfl) fun a hF => ?_
  refine d1 5 (some 36) (.call (.mk (.value (.func 111)) #[(.tmp 33), (.tmp 35)] #[66, 22])) fun ty pos af => ?_
  refine s_call (R := fun u w' => ((∃ ls', RVn w' (fun k => A k ∨ w28.heap.size ≤ k) u ls' ∧ ls'.map slO = ls.map slO) ∧ Room w' br) ∧ Ktw br br w28 w') hF [_, _] E111 rfl (by decide) (levels130 w28 br (by omega) A (fun k hk => ⟨(hA k hk).1, by have := (hA k hk).2; omega⟩) ls _ (hxls.k2 hK hA2) hR) ?_
  rintro v36 w30 a ⟨⟨⟨ls2, hv36, he36⟩, hR⟩, k31⟩ hF
  have sk31 := k31.size
  have hK := hK.trans k31 (by omega)
  have m6 := m6.k2 k31 (by omega)
  have m7 := m7.k2 k31 (by omega)
  have hS := hS.trans k31 (by omega)
  have hv36 : RVn w30 (fun k => (A k ∧ k < W.heap.size ∧ k ≠ br) ∨ w28.heap.size ≤ k) v36 ls2 := hv36.mono (fun k hk => by rcases hk with hk | hk; (· exact .inl ⟨hk, (hA k hk).2, (hA k hk).1⟩); exact .inr hk)
  have h1v := hv36.one
  refine s_end ⟨hS, ?_⟩
  refine d1 7 none (.store 9 (.tmp 37) (.tmp 32)) fun ty pos af => ?_
  refine s_put hF rfl rfl flat9 m7 (by first | (simp; done) | (simp [tc, lc]; done) | decide) rfl fun w32 m7 o33 => ?_
  have so33 := o33.size
  have hK := hK.only o33 (by omega)
  have m6 := m6.only o33 (by omega)
  have hv36 := hv36.only o33 (fun k (hk : (A k ∧ k < W.heap.size ∧ k ≠ br) ∨ w28.heap.size ≤ k) => by omega)
  have hS := hS.only o33 (by omega)
  have hR := hR.only o33 (by omega)
  refine s_end ⟨hS, ?_⟩
  refine hF.d 8 38 (.fieldAddr 27 (.tmp 7) 4) hS (fun W hW => x_fa0 fa27_4 rfl) fun a hF => ?_
  refine d1 9 none (.store 22 (.tmp 38) (.tmp 36)) fun ty pos af => ?_
  refine s_put hF rfl rfl flat22 m7 (by first | (simp; done) | (simp [tc, lc]; done) | decide) h1v fun w34 m7 o35 => ?_
  have so35 := o35.size
  have hK := hK.only o35 (by omega)
  have m6 := m6.only o35 (by omega)
  have hv36 := hv36.only o35 (fun k (hk : (A k ∧ k < W.heap.size ∧ k ≠ br) ∨ w28.heap.size ≤ k) => by omega)
  have hS := hS.only o35 (by omega)
  have hR := hR.only o35 (by omega)
  refine s_end ⟨hS, ?_⟩
  refine d_end (by kernel_rfl) (hK14 _ _ ?_)
  refine hK3 _ _ ?_
  have h1Y := ((show RE w34 (fun k => A k ∨ W.heap.size ≤ k) _ _ from RE_cst (s := xs) (hv36.mono (fun k hk => by rcases hk with hk | hk; (· exact .inl hk.1); exact .inr (by omega))) he36 ((hV.keep hK.size (fun k hk hb => hK.block k hb (hA2 k hk))).mono (fun k hk => .inl hk)))).one
  refine wp_rs fun K15 hK15 => ?_
  refine hF.v (x_ldW wide27 m7 rfl rfl) fun a hF => ?_
  refine s_putW hF rfl rfl (size_wide wide27) m6 rfl h1Y fun w38 m6 o39 => ?_
  have so39 := o39.size
  have hK := hK.only o39 (by omega)
  have hv36 := hv36.only o39 (fun k (hk : (A k ∧ k < W.heap.size ∧ k ≠ br) ∨ w28.heap.size ≤ k) => by omega)
  have hR := hR.only o39 (by omega)
  refine s_end (hK15 _ _ ?_)
  refine wp_ret (res_cell hF rfl rfl m6 wide27 ⟨_, rfl, ⟨⟨_, rfl, RE_cst (s := xs) (hv36.mono (fun k hk => by rcases hk with hk | hk; (· exact .inl hk.1); exact .inr (by omega))) he36 ((hV.keep hK.size (fun k hk hb => hK.block k hb (hA2 k hk))).mono (fun k hk => .inl hk)), rfl⟩, hR⟩, hK⟩)
 ·
  skip
  refine wp_rs fun K16 hK16 => ?_
  refine hF.v (eqlF (by omega) rfl rfl) fun a hF => ?_
  refine hF.v (x_assign rfl) fun a hF => ?_
  refine s_end (hK16 _ _ ?_)
  refine wp_if hF rfl ?_
  refine wp_rs fun K17 hK17 => ?_
  refine hF.v (eqlF (by omega) rfl rfl) fun a hF => ?_
  refine hF.v (x_assign rfl) fun a hF => ?_
  refine s_end (hK17 _ _ ?_)
  refine wp_if hF rfl ?_
  refine wp_rs fun K18 hK18 => ?_
  refine hF.v (eqlF (by omega) rfl rfl) fun a hF => ?_
  refine hF.v (x_assign rfl) fun a hF => ?_
  refine s_end (hK18 _ _ ?_)
  refine wp_if hF rfl ?_
  refine wp_skip (hK3 _ _ ?_)
  have h1Y := ((show RE w10 (fun k => A k ∨ W.heap.size ≤ k) _ _ from RE_rest hx hk9 ((hV.keep hK.size (fun k hk hb => hK.block k hb (hA2 k hk))).mono (fun k hk => .inl hk)) hl)).one
  refine wp_rs fun K19 hK19 => ?_
  refine hF.v (x_ldW wide27 m7 rfl rfl) fun a hF => ?_
  refine s_putW hF rfl rfl (size_wide wide27) m6 rfl h1Y fun w42 m6 o43 => ?_
  have so43 := o43.size
  have hK := hK.only o43 (by omega)
  have hR := hR.only o43 (by omega)
  refine s_end (hK19 _ _ ?_)
  refine wp_ret (res_cell hF rfl rfl m6 wide27 ⟨_, rfl, ⟨⟨_, rfl, RE_rest hx hk9 ((hV.keep hK.size (fun k hk hb => hK.block k hb (hA2 k hk))).mono (fun k hk => .inl hk)) hl, rfl⟩, hR⟩, hK⟩)
end Go.Proofs.Ytbhhbfdoadecgaa
