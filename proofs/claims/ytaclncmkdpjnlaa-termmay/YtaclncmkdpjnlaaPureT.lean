/- Terms without memory: what a term says (its essence), folds. -/
import Derived.Test.YtaclncmkdpjnlaaTerm1
namespace Go.Proofs.Ytaclncmkdpjnlaa
open Go.RowKit Go.Shelf
set_option linter.unusedVariables false
set_option linter.unusedSimpArgs false

/-! ### Levels: what is sound, and what that is -/
mutual
def parse : Lv → Option SL
  | .mk k n ls => if k = 1 then some (.num n.toNat) else if k = 2 then some (.var n.toNat) else match parses ls with
    | [some a] => some (.succ n.toNat a)
    | [some a, some b] => some (.mx a b)
    | _ => none
def parses : List Lv → List (Option SL)
  | [] => []
  | l :: ls => parse l :: parses ls
end
/-- The sound level that it is. -/
def slO (l : Lv) : Option SL := if sndL l then parse l else none
theorem parse_rs {W : World} : ∀ {s : SL} {x : C3} {l : Lv}, RL W x l → RS W s x → parse l = some s
  | .num m, (k, n, v), _, .mk hR hl hk, ⟨h1, h2, h3⟩ => by
    simp only at h1 h2; subst h1 h2; simp [parse]
  | .var m, (k, n, v), _, .mk hR hl hk, ⟨h1, h2, h3⟩ => by
    simp only at h1 h2; subst h1 h2; simp [parse]
  | .succ m a, (k, n, v), _, @RL.mk _ _ _ _ xs ls hR hl hk, ⟨h1, h2, y, h3, h4⟩ => by
    simp only at h1 h2 h3; subst h1 h2
    obtain ⟨e1, e2⟩ := hR.inj h3
    obtain ⟨z, rfl⟩ : ∃ z, xs = [z] := List.length_eq_one_iff.1 e1
    obtain ⟨l, rfl⟩ : ∃ l, ls = [l] := List.length_eq_one_iff.1 (hl ▸ e1)
    have e3 : z = y := lc_inj (by simpa using e2)
    subst e3
    have := parse_rs (hk 0 z l rfl rfl) h4
    simp [parse, parses, this]
  | .mx a b, (k, n, v), _, @RL.mk _ _ _ _ xs ls hR hl hk, ⟨h1, y, z, h3, h4, h5⟩ => by
    simp only at h1 h3; subst h1
    obtain ⟨e1, e2⟩ := hR.inj h3
    obtain ⟨y', z', rfl⟩ := len2 e1
    obtain ⟨la, lb, rfl⟩ := len2 (hl ▸ e1)
    have e2 : lc y' ++ lc z' = lc y ++ lc z := by simpa using e2
    obtain ⟨e3, e4⟩ := List.append_inj e2 rfl
    have e3 := lc_inj e3
    have e4 := lc_inj e4
    subst e3 e4
    have h6 := parse_rs (hk 0 y' la rfl rfl) h4
    have h7 := parse_rs (hk 1 z' lb rfl rfl) h5
    simp [parse, parses, h6, h7]
theorem slO_of {W : World} {x : C3} {l : Lv} {s : SL} (hL : RL W x l) (hs : RS W s x) (hg : s.good) : slO l = some s := by
  unfold slO
  rw [if_pos (rs_snd hL hs hg), parse_rs hL hs]
/-- A sound one lies where the level lies. -/
theorem RSn.of {W : World} {A : Nat → Prop} : ∀ {s : SL} {x : C3} {l : Lv}, RLn W A x l → RS W s x → RSn W A s x
  | .num m, (k, n, v), _, .mk hR hl hk, h => h
  | .var m, (k, n, v), _, .mk hR hl hk, h => h
  | .succ m a, (k, n, v), _, @RLn.mk _ _ _ _ _ xs ls hR hl hk, ⟨h1, h2, y, h3, h4⟩ => by
    obtain ⟨e1, e2⟩ := hR.1.inj h3
    obtain ⟨z, rfl⟩ : ∃ z, xs = [z] := List.length_eq_one_iff.1 e1
    obtain ⟨l, rfl⟩ : ∃ l, ls = [l] := List.length_eq_one_iff.1 (hl ▸ e1)
    have e3 : z = y := lc_inj (by simpa using e2)
    subst e3
    exact ⟨h1, h2, z, h3, fun j hj => hR.2 (by simp) j hj, RSn.of (hk 0 z l rfl rfl) h4⟩
  | .mx a b, (k, n, v), _, @RLn.mk _ _ _ _ _ xs ls hR hl hk, ⟨h1, y, z, h3, h4, h5⟩ => by
    obtain ⟨e1, e2⟩ := hR.1.inj h3
    obtain ⟨y', z', rfl⟩ := len2 e1
    obtain ⟨la, lb, rfl⟩ := len2 (hl ▸ e1)
    have e2 : lc y' ++ lc z' = lc y ++ lc z := by simpa using e2
    obtain ⟨e3, e4⟩ := List.append_inj e2 rfl
    have e3 := lc_inj e3
    have e4 := lc_inj e4
    subst e3 e4
    exact ⟨h1, y', z', h3, fun j hj => hR.2 (by simp) j hj, RSn.of (hk 0 y' la rfl rfl) h4, RSn.of (hk 1 z' lb rfl rfl) h5⟩
/-- A sound one, as one of whatever form, where it lies. -/
theorem RSn.rln {W : World} {A : Nat → Prop} : ∀ {s : SL} {x : C3}, RSn W A s x → ∃ l, RLn W A x l
  | .num m, (k, n, v), ⟨h1, h2, h3⟩ => ⟨.mk k n [], .mk (xs := []) ⟨h3, fun h => by simp at h⟩ rfl (fun i x l h => by simp at h)⟩
  | .var m, (k, n, v), ⟨h1, h2, h3⟩ => ⟨.mk k n [], .mk (xs := []) ⟨h3, fun h => by simp at h⟩ rfl (fun i x l h => by simp at h)⟩
  | .succ m a, (k, n, v), ⟨h1, h2, y, h3, ha, h4⟩ => by
    obtain ⟨l, g1⟩ := RSn.rln h4
    refine ⟨.mk k n [l], .mk (xs := [y]) ⟨by simpa using h3, fun _ b hb => ha b hb⟩ rfl (fun i x l' e1 e2 => ?_)⟩
    cases i
    · simp at e1 e2; subst e1 e2; exact g1
    · simp at e1
  | .mx a b, (k, n, v), ⟨h1, y, z, h3, ha, h4, h5⟩ => by
    obtain ⟨la, g1⟩ := RSn.rln h4
    obtain ⟨lb, g3⟩ := RSn.rln h5
    refine ⟨.mk k n [la, lb], .mk (xs := [y, z]) ⟨by simpa using h3, fun _ b hb => ha b hb⟩ rfl (fun i x l' e1 e2 => ?_)⟩
    rcases i with _ | _ | i
    · simp at e1 e2; subst e1 e2; exact g1
    · simp at e1 e2; subst e1 e2; exact g3
    · simp at e1
/-- x reads as a level that says o. -/
def RO (W : World) (A : Nat → Prop) (o : Option SL) (x : C3) : Prop := ∃ l, RLn W A x l ∧ slO l = o
theorem RO.of {W : World} {A : Nat → Prop} {s : SL} {x : C3} (h : RSn W A s x) (hg : s.good) : RO W A (some s) x := by
  obtain ⟨l, hl⟩ := h.rln
  exact ⟨l, hl, slO_of hl.rl h.rs hg⟩

/-! ### Copies of levels -/
mutual
def cpy : Lv → Lv
  | .mk k n ls => if k = 1 ∨ k = 2 ∨ k = 3 then .mk k n (cpys ls) else if k = 4 then .mk 4 0 (cpys ls) else .mk k 0 []
def cpys : List Lv → List Lv
  | [] => []
  | l :: ls => cpy l :: cpys ls
end
theorem cpys_len : ∀ ls : List Lv, (cpys ls).length = ls.length
  | [] => rfl
  | l :: ls => by simp [cpys, cpys_len ls]
theorem nodeE_n4 {D top vars d n m : Int} {r : Nat} {len : Nat} : nodeE D top vars d r 4 n len = nodeE D top vars d r 4 m len := by simp [nodeE, numB]
theorem nodeE_odd {D top vars d n m : Int} {r : Nat} {k : Int} {len len' : Nat} (h : ¬ (k = 1 ∨ k = 2 ∨ k = 3) ∧ k ≠ 4) : nodeE D top vars d r k n len = nodeE D top vars d r k m len' ∧ nodeE D top vars d r k n len ≠ 0 := by
  have e : ∀ l, kidsB k l = false := by intro l; simp [kidsB]; omega
  simp only [nodeE, e, true_or, if_true]
  refine ⟨trivial, ?_⟩
  split <;> simp
mutual
theorem chk_cpy (D top vars : Int) (d : Int) (r : Nat) : ∀ l, chk D top vars d r (cpy l) = chk D top vars d r l
  | .mk k n ls => by
    unfold cpy
    split
    · unfold chk
      rw [cpys_len, chks_cpy D top vars (d + 1) (r - 1) ls]
    · next h1 =>
      split
      · next h2 =>
        subst h2
        unfold chk
        rw [cpys_len, chks_cpy D top vars (d + 1) (r - 1) ls, nodeE_n4 (n := 0) (m := n)]
      · next h2 =>
        obtain ⟨e1, e2⟩ := nodeE_odd (D := D) (top := top) (vars := vars) (d := d) (n := n) (m := 0) (r := r) (k := k) (len := ls.length) (len' := 0) ⟨h1, h2⟩
        unfold chk
        rw [List.length_nil, ← e1, if_pos e2, if_pos e2]
theorem chks_cpy (D top vars : Int) (d : Int) (r : Nat) : ∀ ls, chks D top vars d r (cpys ls) = chks D top vars d r ls
  | [] => rfl
  | l :: ls => by
    unfold cpys chks
    rw [chk_cpy D top vars d r l, chks_cpy D top vars d _ ls]
end
theorem snd_cpy (l : Lv) : sndL (cpy l) ↔ sndL l := by unfold sndL; rw [chk_cpy]
theorem parse_cpy {W : World} {A : Nat → Prop} : ∀ {s : SL} {x : C3} {l : Lv}, RL W x l → RS W s x → parse (cpy l) = some s
  | .num m, (k, n, v), _, .mk hR hl hk, ⟨h1, h2, h3⟩ => by
    simp only at h1 h2; subst h1 h2; simp [parse, cpy]
  | .var m, (k, n, v), _, .mk hR hl hk, ⟨h1, h2, h3⟩ => by
    simp only at h1 h2; subst h1 h2; simp [parse, cpy]
  | .succ m a, (k, n, v), _, @RL.mk _ _ _ _ xs ls hR hl hk, ⟨h1, h2, y, h3, h4⟩ => by
    simp only at h1 h2 h3; subst h1 h2
    obtain ⟨e1, e2⟩ := hR.inj h3
    obtain ⟨z, rfl⟩ : ∃ z, xs = [z] := List.length_eq_one_iff.1 e1
    obtain ⟨l, rfl⟩ : ∃ l, ls = [l] := List.length_eq_one_iff.1 (hl ▸ e1)
    have e3 : z = y := lc_inj (by simpa using e2)
    subst e3
    have := parse_cpy (A := A) (hk 0 z l rfl rfl) h4
    simp [parse, parses, cpy, cpys, this]
  | .mx a b, (k, n, v), _, @RL.mk _ _ _ _ xs ls hR hl hk, ⟨h1, y, z, h3, h4, h5⟩ => by
    simp only at h1 h3; subst h1
    obtain ⟨e1, e2⟩ := hR.inj h3
    obtain ⟨y', z', rfl⟩ := len2 e1
    obtain ⟨la, lb, rfl⟩ := len2 (hl ▸ e1)
    have e2 : lc y' ++ lc z' = lc y ++ lc z := by simpa using e2
    obtain ⟨e3, e4⟩ := List.append_inj e2 rfl
    have e3 := lc_inj e3
    have e4 := lc_inj e4
    subst e3 e4
    have h6 := parse_cpy (A := A) (hk 0 y' la rfl rfl) h4
    have h7 := parse_cpy (A := A) (hk 1 z' lb rfl rfl) h5
    simp [parse, parses, cpy, cpys, h6, h7]
theorem slO_cpy {W : World} {x : C3} {l : Lv} (hL : RL W x l) : slO (cpy l) = slO l := by
  by_cases h : sndL l
  · obtain ⟨s, h1, h2⟩ := sound_sl hL h
    rw [slO_of hL h1 h2]
    unfold slO
    rw [if_pos ((snd_cpy l).2 h), parse_cpy (A := fun _ => True) hL h1]
  · unfold slO
    rw [if_neg h, if_neg (fun h' => h ((snd_cpy l).1 h'))]

/-! ### Terms -/
inductive PT where
  | var (n : Int)
  | sort (o : Option SL)
  | cst (s : ByteArray) (os : List (Option SL))
  | odd (k : Int)
  | two (k : Int) (a b : PT)
  | lt (a b c : PT)
def CT.ess : CT → PT
  | .var n _ => .var n
  | .sort l _ => .sort (slO l)
  | .cst s ls _ => .cst s (ls.map slO)
  | .odd k _ => .odd k
  | .two k a b _ => .two k a.ess b.ess
  | .lt a b c _ => .lt a.ess b.ess c.ess
def PT.size : PT → Nat
  | .two _ a b => a.size + b.size + 1
  | .lt a b c => a.size + b.size + c.size + 1
  | _ => 1
def PT.dep : PT → Nat
  | .two _ a b => max a.dep b.dep + 1
  | .lt a b c => max a.dep (max b.dep c.dep) + 1
  | _ => 1
def PT.kids : PT → List PT
  | .two _ a b => [a, b]
  | .lt a b c => [a, b, c]
  | _ => []
theorem CT.ess_size : ∀ c : CT, c.ess.size = c.size
  | .two _ a b _ => by simp [CT.ess, PT.size, CT.size, a.ess_size, b.ess_size]
  | .lt a b c _ => by simp [CT.ess, PT.size, CT.size, a.ess_size, b.ess_size, c.ess_size]
  | .var .. => rfl
  | .sort .. => rfl
  | .cst .. => rfl
  | .odd .. => rfl
theorem CT.ess_dep : ∀ c : CT, c.ess.dep = c.dep
  | .two _ a b _ => by simp [CT.ess, PT.dep, CT.dep, a.ess_dep, b.ess_dep]
  | .lt a b c _ => by simp [CT.ess, PT.dep, CT.dep, a.ess_dep, b.ess_dep, c.ess_dep]
  | .var .. => rfl
  | .sort .. => rfl
  | .cst .. => rfl
  | .odd .. => rfl
/-- x reads as a term that says p. -/
def RE (W : World) (A : Nat → Prop) (p : PT) (x : C8) : Prop := ∃ c, RC W A c x ∧ c.ess = p
section
variable {W W' : World} {A B : Nat → Prop} {p : PT} {x : C8}
theorem RE.keep (hs : W.heap.size ≤ W'.heap.size) (hk : ∀ k, A k → k < W.heap.size → W'.heap[k]? = W.heap[k]?) (h : RE W A p x) : RE W' A p x := let ⟨c, h1, h2⟩ := h; ⟨c, h1.keep hs hk, h2⟩
theorem RE.mono (hAB : ∀ k, A k → B k) (h : RE W A p x) : RE W B p x := let ⟨c, h1, h2⟩ := h; ⟨c, h1.mono hAB, h2⟩
theorem RE.below (h : RE W A p x) (hB : Below W.heap.size W W') : RE W' A p x := h.keep hB.size (fun k _ hk => hB.block k hk)
theorem RE.only {b : Nat} (h : RE W A p x) (o : Only b W W') (hb : ¬ A b) : RE W' A p x := h.keep (Nat.le_of_eq o.size.symm) (fun k ha _ => o.block k (fun e => hb (e ▸ ha)))
theorem RE.k2 {a b : Nat} (h : RE W A p x) (hK : Ktw a b W W') (ha : ¬ A a) (hb : ¬ A b) : RE W' A p x := h.keep hK.size (fun k hA hk => hK.block k hk ⟨fun e => ha (e ▸ hA), fun e => hb (e ▸ hA)⟩)
theorem RE.one (h : RE W A p x) : ∀ u ∈ tc x, u.oneCell' = true := let ⟨_, h1, _⟩ := h; h1.one
theorem RC.re {c : CT} (h : RC W A c x) : RE W A c.ess x := ⟨c, h, rfl⟩
end

/-! ### Folds -/
section
variable {α : Type}
def CT.fold (G : CT → Int → List α → α) : CT → Int → α
  | .two k a b m, d => G (.two k a b m) d [a.fold G (d + (CT.two k a b m).bnd 0), b.fold G (d + (CT.two k a b m).bnd 1)]
  | .lt a b c m, d => G (.lt a b c m) d [a.fold G (d + (CT.lt a b c m).bnd 0), b.fold G (d + (CT.lt a b c m).bnd 1), c.fold G (d + (CT.lt a b c m).bnd 2)]
  | .var n m, d => G (.var n m) d []
  | .sort l m, d => G (.sort l m) d []
  | .cst s ls m, d => G (.cst s ls m) d []
  | .odd k m, d => G (.odd k m) d []
/-- What is made of the kids. -/
def CT.folds (G : CT → Int → List α → α) (c : CT) (d : Int) : List α := c.kids.mapIdx fun i k => k.fold G (d + c.bnd i)
theorem CT.fold_eq (G : CT → Int → List α → α) (c : CT) (d : Int) : c.fold G d = G c d (c.folds G d) := by
  cases c <;> simp [CT.fold, CT.folds, CT.kids, List.mapIdx_cons]
theorem CT.folds_len (G : CT → Int → List α → α) (c : CT) (d : Int) : (c.folds G d).length = c.kids.length := by simp [CT.folds]
theorem CT.folds_get (G : CT → Int → List α → α) {c k : CT} {d : Int} {i : Nat} (h : c.kids[i]? = some k) : (c.folds G d)[i]? = some (k.fold G (d + c.bnd i)) := by
  simp [CT.folds, h]
end
end Go.Proofs.Ytaclncmkdpjnlaa
