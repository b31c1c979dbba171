/- The reference's Name and May; whole. -/
import Derived.Test.YtbhhbfdoadecgaaTerm14
import Derived.Test.YtbhhbfdoadecgaaTerm3
namespace Go.Proofs.Ytbhhbfdoadecgaa
open Go.RowKit Go.Shelf
set_option linter.unusedVariables false
set_option linter.unusedSimpArgs false

def letC (c : UInt8) : Prop := 97 ≤ c.toNat ∧ c.toNat ≤ 122
def othC (c : UInt8) : Prop := (48 ≤ c.toNat ∧ c.toNat ≤ 57) ∨ c.toNat = 95 ∨ c.toNat = 46
def okAt (l : List UInt8) (i : Nat) : Prop := ∀ c, l[i]? = some c → letC c ∨ (i ≠ 0 ∧ othC c)
def nameP (l : List UInt8) : Prop := (∀ i, okAt l i) ∧ 1 ≤ l.length ∧ l.length ≤ 32
noncomputable def nameB (s : ByteArray) : Bool := @decide (nameP s.data.toList) (Classical.propDecidable _)
theorem nameB_true {s : ByteArray} : nameB s = true ↔ nameP s.data.toList := by unfold nameB; exact @decide_eq_true_iff _ (Classical.propDecidable _)
theorem nameB_of {s : ByteArray} {b : Bool} (h : b = true ↔ nameP s.data.toList) : nameB s = b := by
 rw [Bool.eq_iff_iff, nameB_true, h]
theorem size_list (s : ByteArray) : s.data.toList.length = s.size := by simp
/-- No name and no list of levels is longer than may be. -/
def CT.fit : CT → Prop
 | .cst s ls _ => s.size ≤ 9223372036854775807 ∧ ls.length ≤ 9223372036854775807
 | .two _ a b _ => a.fit ∧ b.fit
 | .lt a b c _ => a.fit ∧ b.fit ∧ c.fit
 | _ => True
theorem CT.fit_kid : ∀ {c k : CT} {i : Nat}, c.fit → c.kids[i]? = some k → k.fit
 | .two _ a b _, k, i, h, hk => by
  rcases i with _ | _ | i
  ·
   simp [CT.kids] at hk; subst hk; exact h.1
  ·
   simp [CT.kids] at hk; subst hk; exact h.2
  ·
   simp [CT.kids] at hk
 | .lt a b c _, k, i, h, hk => by
  rcases i with _ | _ | _ | i
  ·
   simp [CT.kids] at hk; subst hk; exact h.1
  ·
   simp [CT.kids] at hk; subst hk; exact h.2.1
  ·
   simp [CT.kids] at hk; subst hk; exact h.2.2
  ·
   simp [CT.kids] at hk
 | .var .., k, i, h, hk => by simp [CT.kids] at hk
 | .sort .., k, i, h, hk => by simp [CT.kids] at hk
 | .cst .., k, i, h, hk => by simp [CT.kids] at hk
 | .odd .., k, i, h, hk => by simp [CT.kids] at hk
def fstErr (vars : Int) : List Lv → Int
 | [] => 0
 | l :: ls => if (chk 32 1048576 vars 1 100 l).1 ≠ 0 then (chk 32 1048576 vars 1 100 l).1 else fstErr vars ls
noncomputable def leafErr (vars : Int) : CT → Int
 | .var n _ => if n < 0 ∨ 1048576 < n then 1 else 0
 | .sort l _ => (chk 32 1048576 vars 1 100 l).1
 | .cst s ls _ => if nameB s = false then 8 else if 6 < ls.length then 2 else fstErr vars ls
 | _ => 0
noncomputable def nodeErr (vars d : Int) (n : Nat) (c : CT) : Int := if 64 < d ∨ 400 < n then 2 else if arT c.kd < 0 ∨ (c.len : Int) ≠ arT c.kd then 1 else leafErr vars c
noncomputable def CT.mayT (vars : Int) : CT → Int → Nat → Int × Nat
 | .two k a b m, d, n => if nodeErr vars d (n + 1) (.two k a b m) ≠ 0 then (nodeErr vars d (n + 1) (.two k a b m), n + 1) else
  if (a.mayT vars (d + 1) (n + 1)).1 ≠ 0 then a.mayT vars (d + 1) (n + 1) else b.mayT vars (d + 1) (a.mayT vars (d + 1) (n + 1)).2
 | .lt a b c m, d, n => if nodeErr vars d (n + 1) (.lt a b c m) ≠ 0 then (nodeErr vars d (n + 1) (.lt a b c m), n + 1) else
  if (a.mayT vars (d + 1) (n + 1)).1 ≠ 0 then a.mayT vars (d + 1) (n + 1) else
  if (b.mayT vars (d + 1) (a.mayT vars (d + 1) (n + 1)).2).1 ≠ 0 then b.mayT vars (d + 1) (a.mayT vars (d + 1) (n + 1)).2 else c.mayT vars (d + 1) (b.mayT vars (d + 1) (a.mayT vars (d + 1) (n + 1)).2).2
 | .var z m, d, n => (nodeErr vars d (n + 1) (.var z m), n + 1)
 | .sort l m, d, n => (nodeErr vars d (n + 1) (.sort l m), n + 1)
 | .cst s ls m, d, n => (nodeErr vars d (n + 1) (.cst s ls m), n + 1)
 | .odd k m, d, n => (nodeErr vars d (n + 1) (.odd k m), n + 1)
noncomputable def mayK (vars : Int) : List CT → Int → Nat → Int × Nat
 | [], _, n => (0, n)
 | k :: ks, d, n => if (k.mayT vars d n).1 ≠ 0 then k.mayT vars d n else mayK vars ks d (k.mayT vars d n).2
theorem may_last (p : Int × Nat) : (if p.1 ≠ 0 then p else (0, p.2)) = p := by
 split
 ·
  rfl
 ·
  next h => have : p.1 = 0 := by omega
       rw [← this]
theorem mayT_eq (vars : Int) (c : CT) (d : Int) (n : Nat) : c.mayT vars d n = if nodeErr vars d (n + 1) c ≠ 0 then (nodeErr vars d (n + 1) c, n + 1) else mayK vars c.kids (d + 1) (n + 1) := by
 cases c <;> simp only [CT.mayT, CT.kids, mayK, may_last]
 all_goals (split <;> first | rfl | (rename_i h; rw [show nodeErr vars d (n + 1) _ = 0 by omega]))
theorem nodeErr_two {vars d : Int} {n : Nat} {c : CT} (h : 64 < d ∨ 400 < n) : nodeErr vars d n c = 2 := if_pos h
theorem nodeErr_one {vars d : Int} {n : Nat} {c : CT} (h : ¬ (64 < d ∨ 400 < n)) (h2 : arT c.kd < 0 ∨ (c.len : Int) ≠ arT c.kd) : nodeErr vars d n c = 1 := by unfold nodeErr; rw [if_neg h, if_pos h2]
theorem nodeErr_leaf {vars d : Int} {n : Nat} {c : CT} (h : ¬ (64 < d ∨ 400 < n)) (h2 : ¬ (arT c.kd < 0 ∨ (c.len : Int) ≠ arT c.kd)) : nodeErr vars d n c = leafErr vars c := by unfold nodeErr; rw [if_neg h, if_neg h2]
theorem leafErr_rest {W : World} {A : Nat → Prop} {vars : Int} : ∀ {c : CT} {x : C8}, RC W A c x → (x.k ≠ 1 ∧ x.k ≠ 2 ∧ x.k ≠ 7) → leafErr vars c = 0
 | .var .., x, h, hk => by have := h.1; omega
 | .sort .., x, h, hk => by have := h.1; omega
 | .cst .., x, h, hk => by have := h.1; omega
 | .odd .., x, h, hk => rfl
 | .two .., x, h, hk => rfl
 | .lt .., x, h, hk => rfl
/-- What passes. -/
def CT.okV (vars : Int) : CT → Prop
 | .var n _ => 0 ≤ n ∧ n ≤ 1048576
 | .sort l _ => (chk 32 1048576 vars 1 100 l).1 = 0
 | .cst _ ls _ => ls.length ≤ 6 ∧ ∀ l ∈ ls, (chk 32 1048576 vars 1 100 l).1 = 0
 | .odd .. => False
 | .two _ a b _ => a.okV vars ∧ b.okV vars
 | .lt a b c _ => a.okV vars ∧ b.okV vars ∧ c.okV vars
theorem fstErr_zero {vars : Int} : ∀ {ls : List Lv}, fstErr vars ls = 0 → ∀ l ∈ ls, (chk 32 1048576 vars 1 100 l).1 = 0
 | [], _, l, h => by cases h
 | l' :: ls, h, l, hl => by
  unfold fstErr at h
  split at h
  ·
   next h2 => exact absurd h h2
  ·
   next h2 =>
   rcases List.mem_cons.1 hl with rfl | hl
   ·
    omega
   ·
    exact fstErr_zero h l hl
theorem nodeErr_zero {vars d : Int} {n : Nat} {c : CT} (h : nodeErr vars d n c = 0) : d ≤ 64 ∧ n ≤ 400 ∧ ¬ (arT c.kd < 0 ∨ (c.len : Int) ≠ arT c.kd) ∧ leafErr vars c = 0 := by
 unfold nodeErr at h
 split at h
 ·
  omega
 ·
  split at h
  ·
   omega
  ·
   exact ⟨by omega, by omega, by assumption, h⟩
theorem may_zero {W : World} {A : Nat → Prop} {vars : Int} : ∀ (c : CT) (x : C8) (d : Int) (n : Nat), RC W A c x → (c.mayT vars d n).1 = 0 → c.okV vars ∧ (c.mayT vars d n).2 = n + c.size ∧ n + c.size ≤ 400 ∧ d + c.dep ≤ 65
 | .two k a b m, x, d, n, hx, h => by
  obtain ⟨_, _, ⟨y, z, cs, _, ha, hb⟩, _⟩ := hx
  simp only [CT.mayT] at h ⊢
  split at h
  ·
   next h1 => exact absurd h h1
  ·
   next h1 =>
   rw [if_neg h1]
   have h0 := nodeErr_zero (show nodeErr vars d (n + 1) (.two k a b m) = 0 by omega)
   split at h
   ·
    next h2 => exact absurd h h2
   ·
    next h2 =>
    rw [if_neg h2]
    obtain ⟨a1, a2, a3, a4⟩ := may_zero (vars := vars) a y (d + 1) (n + 1) ha (by omega)
    obtain ⟨b1, b2, b3, b4⟩ := may_zero (vars := vars) b z (d + 1) (a.mayT vars (d + 1) (n + 1)).2 hb h
    refine ⟨⟨a1, b1⟩, ?_, ?_, ?_⟩
    ·
     rw [b2, a2]; simp only [CT.size]; omega
    ·
     rw [a2] at b3; simp only [CT.size]; omega
    ·
     simp only [CT.dep]; omega
 | .lt a b c m, x, d, n, hx, h => by
  obtain ⟨_, ⟨y, z, u, cs, _, ha, hb, hc⟩, _⟩ := hx
  simp only [CT.mayT] at h ⊢
  split at h
  ·
   next h1 => exact absurd h h1
  ·
   next h1 =>
   rw [if_neg h1]
   have h0 := nodeErr_zero (show nodeErr vars d (n + 1) (.lt a b c m) = 0 by omega)
   split at h
   ·
    next h2 => exact absurd h h2
   ·
    next h2 =>
    rw [if_neg h2]
    split at h
    ·
     next h3 => exact absurd h h3
    ·
     next h3 =>
     rw [if_neg h3]
     obtain ⟨a1, a2, a3, a4⟩ := may_zero (vars := vars) a y (d + 1) (n + 1) ha (by omega)
     obtain ⟨b1, b2, b3, b4⟩ := may_zero (vars := vars) b z (d + 1) (a.mayT vars (d + 1) (n + 1)).2 hb (by omega)
     obtain ⟨c1, c2, c3, c4⟩ := may_zero (vars := vars) c u (d + 1) (b.mayT vars (d + 1) (a.mayT vars (d + 1) (n + 1)).2).2 hc h
     refine ⟨⟨a1, b1, c1⟩, ?_, ?_, ?_⟩
     ·
      rw [c2, b2, a2]; simp only [CT.size]; omega
     ·
      rw [b2, a2] at c3; simp only [CT.size]; omega
     ·
      simp only [CT.dep]; omega
 | .var z m, x, d, n, hx, h => by
  obtain ⟨h1, h2, h3, h4⟩ := nodeErr_zero h
  refine ⟨?_, rfl, h2, by simp only [CT.dep]; omega⟩
  simp only [leafErr] at h4
  simp only [CT.okV]
  split at h4 <;> omega
 | .sort l m, x, d, n, hx, h => by
  obtain ⟨h1, h2, h3, h4⟩ := nodeErr_zero h
  exact ⟨h4, rfl, h2, by simp only [CT.dep]; omega⟩
 | .cst s ls m, x, d, n, hx, h => by
  obtain ⟨h1, h2, h3, h4⟩ := nodeErr_zero h
  refine ⟨?_, rfl, h2, by simp only [CT.dep]; omega⟩
  simp only [leafErr] at h4
  split at h4
  ·
   omega
  ·
   split at h4
   ·
    omega
   ·
    exact ⟨by omega, fstErr_zero h4⟩
 | .odd k m, x, d, n, hx, h => by
  obtain ⟨h1, h2, h3, h4⟩ := nodeErr_zero h
  have := hx.2.1
  simp only [CT.kd, CT.len] at h3
  omega

set_option maxRecDepth 100000 in
set_option maxHeartbeats 400000 in
theorem rName32 (s : ByteArray) (w0 : World) (hs : s.size ≤ 9223372036854775807) : Calls Try.prog 81 #[.string s] w0 fun e w' => e = .returned (.bool (nameB s)) ∧ w' = w0 := by
 refine calls_fs 51 [(0, .string s)] Try.func81 rfl rfl rfl rfl rfl fun a hF => ?_
 refine wp_rs fun K1 hK1 => ?_
 refine hF.v (x_assign rfl) fun a hF => ?_
 refine s_end (hK1 _ _ ?_)
 refine wp_seq_k fun K2 hK2 => ?_
 refine wp_rs fun K3 hK3 => ?_
 refine hF.v (x_move rfl) fun a hF => ?_
 refine hF.v (x_lenS Try.underlying9 rfl) fun a hF => ?_
 refine hF.v (x_move rfl) fun a hF => ?_
 refine s_end (hK3 _ _ ?_)
 refine wp_block ?_
 refine wp_up s.size (fun i a w => w = w0 ∧ (∀ j, j < i → okAt s.data.toList j) ∧ Fs 51 a [(0, .string s), (7, .int .i64 (s.size : Int)), (8, .int .i64 (i : Int))]) ⟨rfl, (fun j h => absurd h (by omega)), hF.sub _ rfl⟩ ?_
 clear hF
 rintro i a w hi ⟨hw, hok, hF⟩ K' hK'
 subst hw
 refine wp_rs fun K4 hK4 => ?_
 refine hF.v (x_lss (b := decide (i < s.size)) (decide_eq_decide.2 (by omega)) rfl rfl) fun a hF => ?_
 refine s_end (hK4 _ _ ?_)
 refine wp_seq_k fun K5 hK5 => ?_
 refine wp_iff hF rfl (fun hc9 => ?_) (fun hc9 => ?_)
 ·
  obtain ⟨q, hq⟩ : ∃ q, s.data.toList[i]? = some q := ⟨_, List.getElem?_eq_getElem (by rw [size_list]; omega)⟩
  refine wp_skip (hK5 _ _ ?_)
  refine wp_seq_k fun K6 hK6 => ?_
  refine wp_block ?_
  refine wp_rs fun K7 hK7 => ?_
  refine hF.v (x_move rfl) fun a hF => ?_
  refine hF.v (x_assign rfl) fun a hF => ?_
  refine s_end (hK7 _ _ ?_)
  refine wp_rs fun K8 hK8 => ?_
  refine hF.v (x_move rfl) fun a hF => ?_
  refine hF.v (x_move rfl) fun a hF => ?_
  refine hF.v (x_ix rfl rfl (m_ixstr i Try.underlying9 rfl hq)) fun a hF => ?_
  refine hF.v (x_assign rfl) fun a hF => ?_
  refine s_end (hK8 _ _ ?_)
  rcases (show (97 ≤ (q.toNat : Int) ∧ (q.toNat : Int) ≤ 122) ∨ (97 ≤ (q.toNat : Int) ∧ 122 < (q.toNat : Int)) ∨ (q.toNat : Int) < 97 by omega) with hq1 | hq1 | hq1
  ·
   skip
   refine wp_rs fun K10 hK10 => ?_
   refine hF.v (x_move rfl) fun a hF => ?_
   refine hF.v (geqT (by omega) rfl rfl) fun a hF => ?_
   refine hF.v (x_move rfl) fun a hF => ?_
   refine s_grd 16 hF rfl rfl rfl ?_
   refine hF.v (x_move rfl) fun a hF => ?_
   refine s_grd 16 hF rfl rfl rfl ?_
   refine hF.v (leqT (by omega) rfl rfl) fun a hF => ?_
   refine hF.v (x_pick (b := true) rfl rfl) fun a hF => ?_
   refine hF.v (x_assign rfl) fun a hF => ?_
   refine s_end (hK10 _ _ ?_)
   rcases (show (97 ≤ (q.toNat : Int) ∧ (q.toNat : Int) ≤ 122) ∨ (¬ (97 ≤ (q.toNat : Int) ∧ (q.toNat : Int) ≤ 122) ∧ (i : Int) = 0) ∨ (¬ (97 ≤ (q.toNat : Int) ∧ (q.toNat : Int) ≤ 122) ∧ (i : Int) ≠ 0 ∧ (q.toNat : Int) < 48 ∧ (q.toNat : Int) ≠ 46) ∨ (¬ (97 ≤ (q.toNat : Int) ∧ (q.toNat : Int) ≤ 122) ∧ (i : Int) ≠ 0 ∧ (q.toNat : Int) = 46) ∨ (¬ (97 ≤ (q.toNat : Int) ∧ (q.toNat : Int) ≤ 122) ∧ (i : Int) ≠ 0 ∧ 57 < (q.toNat : Int) ∧ (q.toNat : Int) = 95) ∨ (¬ (97 ≤ (q.toNat : Int) ∧ (q.toNat : Int) ≤ 122) ∧ (i : Int) ≠ 0 ∧ 57 < (q.toNat : Int) ∧ (q.toNat : Int) ≠ 95) ∨ (¬ (97 ≤ (q.toNat : Int) ∧ (q.toNat : Int) ≤ 122) ∧ (i : Int) ≠ 0 ∧ 48 ≤ (q.toNat : Int) ∧ (q.toNat : Int) ≤ 57) by omega) with hz | hz | hz | hz | hz | hz | hz
   ·
    have hoki : okAt s.data.toList i := fun c hc => by rw [hq] at hc; cases hc; unfold letC othC; omega
    refine wp_rs fun K12 hK12 => ?_
    refine hF.v (x_move rfl) fun a hF => ?_
    refine hF.v (x_not rfl) fun a hF => ?_
    refine hF.v (x_move rfl) fun a hF => ?_
    refine s_grdn 22 hF rfl rfl (by decide) fun a hF => ?_
    refine s_grdn 22 hF rfl rfl (by decide) fun a hF => ?_
    refine s_grdn 22 hF rfl rfl (by decide) fun a hF => ?_
    refine s_grdu 25 hF rfl rfl (by decide) fun a hF => ?_
    refine s_grdu 25 hF rfl rfl (by decide) fun a hF => ?_
    refine s_grdu 25 hF rfl rfl (by decide) fun a hF => ?_
    refine s_grdu 28 hF rfl rfl (by decide) fun a hF => ?_
    refine s_grdu 28 hF rfl rfl (by decide) fun a hF => ?_
    refine s_grdu 25 hF rfl rfl (by decide) fun a hF => ?_
    refine s_grdu 25 hF rfl rfl (by decide) fun a hF => ?_
    refine s_grdu 32 hF rfl rfl (by decide) fun a hF => ?_
    refine s_grdu 32 hF rfl rfl (by decide) fun a hF => ?_
    refine s_grdu 25 hF rfl rfl (by decide) fun a hF => ?_
    refine s_grdu 25 hF rfl rfl (by decide) fun a hF => ?_
    refine s_grdu 36 hF rfl rfl (by decide) fun a hF => ?_
    refine s_grdu 36 hF rfl rfl (by decide) fun a hF => ?_
    refine s_grdu 25 hF rfl rfl (by decide) fun a hF => ?_
    refine s_grdn 22 hF rfl rfl (by decide) fun a hF => ?_
    refine hF.v (x_pick (b := false) rfl rfl) fun a hF => ?_
    refine s_end (hK12 _ _ ?_)
    refine wp_if hF rfl ?_
    refine wp_skip (hK6 _ _ ?_)
    refine wp_region_lit ?_
    refine hF.v (x_addn (i + 1) (by omega) (by omega) rfl rfl) fun a hF => ?_
    refine hF.v (x_move rfl) fun a hF => ?_
    refine s_end (hK' _ _ (by omega) ⟨rfl, (fun j hj => by rcases Nat.lt_or_ge j i with h | h; (· exact hok j h); (· rw [show j = i by omega]; exact hoki)), hF.sub _ rfl⟩)
   ·
    exfalso; omega
   ·
    exfalso; omega
   ·
    exfalso; omega
   ·
    exfalso; omega
   ·
    exfalso; omega
   ·
    exfalso; omega
  ·
   skip
   refine wp_rs fun K13 hK13 => ?_
   refine hF.v (x_move rfl) fun a hF => ?_
   refine hF.v (geqT (by omega) rfl rfl) fun a hF => ?_
   refine hF.v (x_move rfl) fun a hF => ?_
   refine s_grd 16 hF rfl rfl rfl ?_
   refine hF.v (x_move rfl) fun a hF => ?_
   refine s_grd 16 hF rfl rfl rfl ?_
   refine hF.v (leqF (by omega) rfl rfl) fun a hF => ?_
   refine hF.v (x_pick (b := true) rfl rfl) fun a hF => ?_
   refine hF.v (x_assign rfl) fun a hF => ?_
   refine s_end (hK13 _ _ ?_)
   rcases (show (97 ≤ (q.toNat : Int) ∧ (q.toNat : Int) ≤ 122) ∨ (¬ (97 ≤ (q.toNat : Int) ∧ (q.toNat : Int) ≤ 122) ∧ (i : Int) = 0) ∨ (¬ (97 ≤ (q.toNat : Int) ∧ (q.toNat : Int) ≤ 122) ∧ (i : Int) ≠ 0 ∧ (q.toNat : Int) < 48 ∧ (q.toNat : Int) ≠ 46) ∨ (¬ (97 ≤ (q.toNat : Int) ∧ (q.toNat : Int) ≤ 122) ∧ (i : Int) ≠ 0 ∧ (q.toNat : Int) = 46) ∨ (¬ (97 ≤ (q.toNat : Int) ∧ (q.toNat : Int) ≤ 122) ∧ (i : Int) ≠ 0 ∧ 57 < (q.toNat : Int) ∧ (q.toNat : Int) = 95) ∨ (¬ (97 ≤ (q.toNat : Int) ∧ (q.toNat : Int) ≤ 122) ∧ (i : Int) ≠ 0 ∧ 57 < (q.toNat : Int) ∧ (q.toNat : Int) ≠ 95) ∨ (¬ (97 ≤ (q.toNat : Int) ∧ (q.toNat : Int) ≤ 122) ∧ (i : Int) ≠ 0 ∧ 48 ≤ (q.toNat : Int) ∧ (q.toNat : Int) ≤ 57) by omega) with hz | hz | hz | hz | hz | hz | hz
   ·
    exfalso; omega
   ·
    have hbad : nameB s = false := nameB_of ⟨fun h => absurd h (by decide), fun h => by have := h.1 i q hq; unfold letC othC at this; omega⟩
    refine wp_rs fun K15 hK15 => ?_
    refine hF.v (x_move rfl) fun a hF => ?_
    refine hF.v (x_not rfl) fun a hF => ?_
    refine hF.v (x_move rfl) fun a hF => ?_
    refine s_grd 22 hF rfl rfl rfl ?_
    refine hF.v (x_move rfl) fun a hF => ?_
    refine s_grd 22 hF rfl rfl rfl ?_
    refine hF.v (eqlT (by omega) rfl rfl) fun a hF => ?_
    refine s_grd 22 hF rfl rfl rfl ?_
    refine hF.v (x_move rfl) fun a hF => ?_
    refine s_grdn 25 hF rfl rfl (by decide) fun a hF => ?_
    refine s_grdn 25 hF rfl rfl (by decide) fun a hF => ?_
    refine s_grdn 25 hF rfl rfl (by decide) fun a hF => ?_
    refine s_grdu 28 hF rfl rfl (by decide) fun a hF => ?_
    refine s_grdu 28 hF rfl rfl (by decide) fun a hF => ?_
    refine s_grdn 25 hF rfl rfl (by decide) fun a hF => ?_
    refine s_grdn 25 hF rfl rfl (by decide) fun a hF => ?_
    refine s_grdu 32 hF rfl rfl (by decide) fun a hF => ?_
    refine s_grdu 32 hF rfl rfl (by decide) fun a hF => ?_
    refine s_grdn 25 hF rfl rfl (by decide) fun a hF => ?_
    refine s_grdn 25 hF rfl rfl (by decide) fun a hF => ?_
    refine s_grdu 36 hF rfl rfl (by decide) fun a hF => ?_
    refine s_grdu 36 hF rfl rfl (by decide) fun a hF => ?_
    refine s_grdn 25 hF rfl rfl (by decide) fun a hF => ?_
    refine s_grd 22 hF rfl rfl rfl ?_
    refine hF.v (x_pick (b := true) rfl rfl) fun a hF => ?_
    refine hF.v (x_pick (b := true) rfl rfl) fun a hF => ?_
    refine s_end (hK15 _ _ ?_)
    refine wp_if hF rfl ?_
    refine wp_rs fun K16 hK16 => ?_
    refine hF.v (x_assign rfl) fun a hF => ?_
    refine s_end (hK16 _ _ ?_)
    refine wp_ret (inb_ret (then_ret (then_ret (inb_ret (then_ret (res_slot hF rfl rfl ⟨by rw [hbad], rfl⟩))))))
   ·
    have hbad : nameB s = false := nameB_of ⟨fun h => absurd h (by decide), fun h => by have := h.1 i q hq; unfold letC othC at this; omega⟩
    refine wp_rs fun K17 hK17 => ?_
    refine hF.v (x_move rfl) fun a hF => ?_
    refine hF.v (x_not rfl) fun a hF => ?_
    refine hF.v (x_move rfl) fun a hF => ?_
    refine s_grd 22 hF rfl rfl rfl ?_
    refine hF.v (x_move rfl) fun a hF => ?_
    refine s_grd 22 hF rfl rfl rfl ?_
    refine hF.v (eqlF (by omega) rfl rfl) fun a hF => ?_
    refine s_grd 22 hF rfl rfl rfl ?_
    refine hF.v (x_move rfl) fun a hF => ?_
    refine s_grd 25 hF rfl rfl rfl ?_
    refine hF.v (x_move rfl) fun a hF => ?_
    refine s_grd 25 hF rfl rfl rfl ?_
    refine hF.v (lssT (by omega) rfl rfl) fun a hF => ?_
    refine s_grd 25 hF rfl rfl rfl ?_
    refine hF.v (x_move rfl) fun a hF => ?_
    refine s_grdn 28 hF rfl rfl (by decide) fun a hF => ?_
    refine s_grdn 28 hF rfl rfl (by decide) fun a hF => ?_
    refine s_grd 25 hF rfl rfl rfl ?_
    refine hF.v (x_pick (b := true) rfl rfl) fun a hF => ?_
    refine s_grd 25 hF rfl rfl rfl ?_
    refine hF.v (x_move rfl) fun a hF => ?_
    refine s_grd 32 hF rfl rfl rfl ?_
    refine hF.v (x_move rfl) fun a hF => ?_
    refine s_grd 32 hF rfl rfl rfl ?_
    refine hF.v (neqT (by omega) rfl rfl) fun a hF => ?_
    refine s_grd 25 hF rfl rfl rfl ?_
    refine hF.v (x_pick (b := true) rfl rfl) fun a hF => ?_
    refine s_grd 25 hF rfl rfl rfl ?_
    refine hF.v (x_move rfl) fun a hF => ?_
    refine s_grd 36 hF rfl rfl rfl ?_
    refine hF.v (x_move rfl) fun a hF => ?_
    refine s_grd 36 hF rfl rfl rfl ?_
    refine hF.v (neqT (by omega) rfl rfl) fun a hF => ?_
    refine s_grd 25 hF rfl rfl rfl ?_
    refine hF.v (x_pick (b := true) rfl rfl) fun a hF => ?_
    refine s_grd 22 hF rfl rfl rfl ?_
    refine hF.v (x_pick (b := false) rfl rfl) fun a hF => ?_
    refine hF.v (x_pick (b := true) rfl rfl) fun a hF => ?_
    refine s_end (hK17 _ _ ?_)
    refine wp_if hF rfl ?_
    refine wp_rs fun K18 hK18 => ?_
    refine hF.v (x_assign rfl) fun a hF => ?_
    refine s_end (hK18 _ _ ?_)
    refine wp_ret (inb_ret (then_ret (then_ret (inb_ret (then_ret (res_slot hF rfl rfl ⟨by rw [hbad], rfl⟩))))))
   ·
    have hoki : okAt s.data.toList i := fun c hc => by rw [hq] at hc; cases hc; unfold letC othC; omega
    refine wp_rs fun K19 hK19 => ?_
    refine hF.v (x_move rfl) fun a hF => ?_
    refine hF.v (x_not rfl) fun a hF => ?_
    refine hF.v (x_move rfl) fun a hF => ?_
    refine s_grd 22 hF rfl rfl rfl ?_
    refine hF.v (x_move rfl) fun a hF => ?_
    refine s_grd 22 hF rfl rfl rfl ?_
    refine hF.v (eqlF (by omega) rfl rfl) fun a hF => ?_
    refine s_grd 22 hF rfl rfl rfl ?_
    refine hF.v (x_move rfl) fun a hF => ?_
    refine s_grd 25 hF rfl rfl rfl ?_
    refine hF.v (x_move rfl) fun a hF => ?_
    refine s_grd 25 hF rfl rfl rfl ?_
    refine hF.v (lssT (by omega) rfl rfl) fun a hF => ?_
    refine s_grd 25 hF rfl rfl rfl ?_
    refine hF.v (x_move rfl) fun a hF => ?_
    refine s_grdn 28 hF rfl rfl (by decide) fun a hF => ?_
    refine s_grdn 28 hF rfl rfl (by decide) fun a hF => ?_
    refine s_grd 25 hF rfl rfl rfl ?_
    refine hF.v (x_pick (b := true) rfl rfl) fun a hF => ?_
    refine s_grd 25 hF rfl rfl rfl ?_
    refine hF.v (x_move rfl) fun a hF => ?_
    refine s_grd 32 hF rfl rfl rfl ?_
    refine hF.v (x_move rfl) fun a hF => ?_
    refine s_grd 32 hF rfl rfl rfl ?_
    refine hF.v (neqT (by omega) rfl rfl) fun a hF => ?_
    refine s_grd 25 hF rfl rfl rfl ?_
    refine hF.v (x_pick (b := true) rfl rfl) fun a hF => ?_
    refine s_grd 25 hF rfl rfl rfl ?_
    refine hF.v (x_move rfl) fun a hF => ?_
    refine s_grd 36 hF rfl rfl rfl ?_
    refine hF.v (x_move rfl) fun a hF => ?_
    refine s_grd 36 hF rfl rfl rfl ?_
    refine hF.v (neqF (by omega) rfl rfl) fun a hF => ?_
    refine s_grd 25 hF rfl rfl rfl ?_
    refine hF.v (x_pick (b := true) rfl rfl) fun a hF => ?_
    refine s_grd 22 hF rfl rfl rfl ?_
    refine hF.v (x_pick (b := false) rfl rfl) fun a hF => ?_
    refine hF.v (x_pick (b := true) rfl rfl) fun a hF => ?_
    refine s_end (hK19 _ _ ?_)
    refine wp_if hF rfl ?_
    refine wp_skip (hK6 _ _ ?_)
    refine wp_region_lit ?_
    refine hF.v (x_addn (i + 1) (by omega) (by omega) rfl rfl) fun a hF => ?_
    refine hF.v (x_move rfl) fun a hF => ?_
    refine s_end (hK' _ _ (by omega) ⟨rfl, (fun j hj => by rcases Nat.lt_or_ge j i with h | h; (· exact hok j h); (· rw [show j = i by omega]; exact hoki)), hF.sub _ rfl⟩)
   ·
    have hoki : okAt s.data.toList i := fun c hc => by rw [hq] at hc; cases hc; unfold letC othC; omega
    refine wp_rs fun K20 hK20 => ?_
    refine hF.v (x_move rfl) fun a hF => ?_
    refine hF.v (x_not rfl) fun a hF => ?_
    refine hF.v (x_move rfl) fun a hF => ?_
    refine s_grd 22 hF rfl rfl rfl ?_
    refine hF.v (x_move rfl) fun a hF => ?_
    refine s_grd 22 hF rfl rfl rfl ?_
    refine hF.v (eqlF (by omega) rfl rfl) fun a hF => ?_
    refine s_grd 22 hF rfl rfl rfl ?_
    refine hF.v (x_move rfl) fun a hF => ?_
    refine s_grd 25 hF rfl rfl rfl ?_
    refine hF.v (x_move rfl) fun a hF => ?_
    refine s_grd 25 hF rfl rfl rfl ?_
    refine hF.v (lssF (by omega) rfl rfl) fun a hF => ?_
    refine s_grd 25 hF rfl rfl rfl ?_
    refine hF.v (x_move rfl) fun a hF => ?_
    refine s_grd 28 hF rfl rfl rfl ?_
    refine hF.v (x_move rfl) fun a hF => ?_
    refine s_grd 28 hF rfl rfl rfl ?_
    refine hF.v (gtrT (by omega) rfl rfl) fun a hF => ?_
    refine s_grd 25 hF rfl rfl rfl ?_
    refine hF.v (x_pick (b := false) rfl rfl) fun a hF => ?_
    refine s_grd 25 hF rfl rfl rfl ?_
    refine hF.v (x_move rfl) fun a hF => ?_
    refine s_grd 32 hF rfl rfl rfl ?_
    refine hF.v (x_move rfl) fun a hF => ?_
    refine s_grd 32 hF rfl rfl rfl ?_
    refine hF.v (neqF (by omega) rfl rfl) fun a hF => ?_
    refine s_grd 25 hF rfl rfl rfl ?_
    refine hF.v (x_pick (b := true) rfl rfl) fun a hF => ?_
    refine s_grd 25 hF rfl rfl rfl ?_
    refine hF.v (x_move rfl) fun a hF => ?_
    refine s_grdn 36 hF rfl rfl (by decide) fun a hF => ?_
    refine s_grdn 36 hF rfl rfl (by decide) fun a hF => ?_
    refine s_grd 25 hF rfl rfl rfl ?_
    refine hF.v (x_pick (b := false) rfl rfl) fun a hF => ?_
    refine s_grd 22 hF rfl rfl rfl ?_
    refine hF.v (x_pick (b := false) rfl rfl) fun a hF => ?_
    refine hF.v (x_pick (b := true) rfl rfl) fun a hF => ?_
    refine s_end (hK20 _ _ ?_)
    refine wp_if hF rfl ?_
    refine wp_skip (hK6 _ _ ?_)
    refine wp_region_lit ?_
    refine hF.v (x_addn (i + 1) (by omega) (by omega) rfl rfl) fun a hF => ?_
    refine hF.v (x_move rfl) fun a hF => ?_
    refine s_end (hK' _ _ (by omega) ⟨rfl, (fun j hj => by rcases Nat.lt_or_ge j i with h | h; (· exact hok j h); (· rw [show j = i by omega]; exact hoki)), hF.sub _ rfl⟩)
   ·
    have hbad : nameB s = false := nameB_of ⟨fun h => absurd h (by decide), fun h => by have := h.1 i q hq; unfold letC othC at this; omega⟩
    refine wp_rs fun K21 hK21 => ?_
    refine hF.v (x_move rfl) fun a hF => ?_
    refine hF.v (x_not rfl) fun a hF => ?_
    refine hF.v (x_move rfl) fun a hF => ?_
    refine s_grd 22 hF rfl rfl rfl ?_
    refine hF.v (x_move rfl) fun a hF => ?_
    refine s_grd 22 hF rfl rfl rfl ?_
    refine hF.v (eqlF (by omega) rfl rfl) fun a hF => ?_
    refine s_grd 22 hF rfl rfl rfl ?_
    refine hF.v (x_move rfl) fun a hF => ?_
    refine s_grd 25 hF rfl rfl rfl ?_
    refine hF.v (x_move rfl) fun a hF => ?_
    refine s_grd 25 hF rfl rfl rfl ?_
    refine hF.v (lssF (by omega) rfl rfl) fun a hF => ?_
    refine s_grd 25 hF rfl rfl rfl ?_
    refine hF.v (x_move rfl) fun a hF => ?_
    refine s_grd 28 hF rfl rfl rfl ?_
    refine hF.v (x_move rfl) fun a hF => ?_
    refine s_grd 28 hF rfl rfl rfl ?_
    refine hF.v (gtrT (by omega) rfl rfl) fun a hF => ?_
    refine s_grd 25 hF rfl rfl rfl ?_
    refine hF.v (x_pick (b := false) rfl rfl) fun a hF => ?_
    refine s_grd 25 hF rfl rfl rfl ?_
    refine hF.v (x_move rfl) fun a hF => ?_
    refine s_grd 32 hF rfl rfl rfl ?_
    refine hF.v (x_move rfl) fun a hF => ?_
    refine s_grd 32 hF rfl rfl rfl ?_
    refine hF.v (neqT (by omega) rfl rfl) fun a hF => ?_
    refine s_grd 25 hF rfl rfl rfl ?_
    refine hF.v (x_pick (b := true) rfl rfl) fun a hF => ?_
    refine s_grd 25 hF rfl rfl rfl ?_
    refine hF.v (x_move rfl) fun a hF => ?_
    refine s_grd 36 hF rfl rfl rfl ?_
    refine hF.v (x_move rfl) fun a hF => ?_
    refine s_grd 36 hF rfl rfl rfl ?_
    refine hF.v (neqT (by omega) rfl rfl) fun a hF => ?_
    refine s_grd 25 hF rfl rfl rfl ?_
    refine hF.v (x_pick (b := true) rfl rfl) fun a hF => ?_
    refine s_grd 22 hF rfl rfl rfl ?_
    refine hF.v (x_pick (b := false) rfl rfl) fun a hF => ?_
    refine hF.v (x_pick (b := true) rfl rfl) fun a hF => ?_
    refine s_end (hK21 _ _ ?_)
    refine wp_if hF rfl ?_
    refine wp_rs fun K22 hK22 => ?_
    refine hF.v (x_assign rfl) fun a hF => ?_
    refine s_end (hK22 _ _ ?_)
    refine wp_ret (inb_ret (then_ret (then_ret (inb_ret (then_ret (res_slot hF rfl rfl ⟨by rw [hbad], rfl⟩))))))
   ·
    have hoki : okAt s.data.toList i := fun c hc => by rw [hq] at hc; cases hc; unfold letC othC; omega
    refine wp_rs fun K23 hK23 => ?_
    refine hF.v (x_move rfl) fun a hF => ?_
    refine hF.v (x_not rfl) fun a hF => ?_
    refine hF.v (x_move rfl) fun a hF => ?_
    refine s_grd 22 hF rfl rfl rfl ?_
    refine hF.v (x_move rfl) fun a hF => ?_
    refine s_grd 22 hF rfl rfl rfl ?_
    refine hF.v (eqlF (by omega) rfl rfl) fun a hF => ?_
    refine s_grd 22 hF rfl rfl rfl ?_
    refine hF.v (x_move rfl) fun a hF => ?_
    refine s_grd 25 hF rfl rfl rfl ?_
    refine hF.v (x_move rfl) fun a hF => ?_
    refine s_grd 25 hF rfl rfl rfl ?_
    refine hF.v (lssF (by omega) rfl rfl) fun a hF => ?_
    refine s_grd 25 hF rfl rfl rfl ?_
    refine hF.v (x_move rfl) fun a hF => ?_
    refine s_grd 28 hF rfl rfl rfl ?_
    refine hF.v (x_move rfl) fun a hF => ?_
    refine s_grd 28 hF rfl rfl rfl ?_
    refine hF.v (gtrF (by omega) rfl rfl) fun a hF => ?_
    refine s_grd 25 hF rfl rfl rfl ?_
    refine hF.v (x_pick (b := false) rfl rfl) fun a hF => ?_
    refine s_grd 25 hF rfl rfl rfl ?_
    refine hF.v (x_move rfl) fun a hF => ?_
    refine s_grdn 32 hF rfl rfl (by decide) fun a hF => ?_
    refine s_grdn 32 hF rfl rfl (by decide) fun a hF => ?_
    refine s_grd 25 hF rfl rfl rfl ?_
    refine hF.v (x_pick (b := false) rfl rfl) fun a hF => ?_
    refine s_grd 25 hF rfl rfl rfl ?_
    refine hF.v (x_move rfl) fun a hF => ?_
    refine s_grdn 36 hF rfl rfl (by decide) fun a hF => ?_
    refine s_grdn 36 hF rfl rfl (by decide) fun a hF => ?_
    refine s_grd 25 hF rfl rfl rfl ?_
    refine hF.v (x_pick (b := false) rfl rfl) fun a hF => ?_
    refine s_grd 22 hF rfl rfl rfl ?_
    refine hF.v (x_pick (b := false) rfl rfl) fun a hF => ?_
    refine hF.v (x_pick (b := true) rfl rfl) fun a hF => ?_
    refine s_end (hK23 _ _ ?_)
    refine wp_if hF rfl ?_
    refine wp_skip (hK6 _ _ ?_)
    refine wp_region_lit ?_
    refine hF.v (x_addn (i + 1) (by omega) (by omega) rfl rfl) fun a hF => ?_
    refine hF.v (x_move rfl) fun a hF => ?_
    refine s_end (hK' _ _ (by omega) ⟨rfl, (fun j hj => by rcases Nat.lt_or_ge j i with h | h; (· exact hok j h); (· rw [show j = i by omega]; exact hoki)), hF.sub _ rfl⟩)
  ·
   skip
   refine wp_rs fun K24 hK24 => ?_
   refine hF.v (x_move rfl) fun a hF => ?_
   refine hF.v (geqF (by omega) rfl rfl) fun a hF => ?_
   refine hF.v (x_move rfl) fun a hF => ?_
   refine s_grdn 16 hF rfl rfl (by decide) fun a hF => ?_
   refine s_grdn 16 hF rfl rfl (by decide) fun a hF => ?_
   refine hF.v (x_pick (b := false) rfl rfl) fun a hF => ?_
   refine hF.v (x_assign rfl) fun a hF => ?_
   refine s_end (hK24 _ _ ?_)
   rcases (show (97 ≤ (q.toNat : Int) ∧ (q.toNat : Int) ≤ 122) ∨ (¬ (97 ≤ (q.toNat : Int) ∧ (q.toNat : Int) ≤ 122) ∧ (i : Int) = 0) ∨ (¬ (97 ≤ (q.toNat : Int) ∧ (q.toNat : Int) ≤ 122) ∧ (i : Int) ≠ 0 ∧ (q.toNat : Int) < 48 ∧ (q.toNat : Int) ≠ 46) ∨ (¬ (97 ≤ (q.toNat : Int) ∧ (q.toNat : Int) ≤ 122) ∧ (i : Int) ≠ 0 ∧ (q.toNat : Int) = 46) ∨ (¬ (97 ≤ (q.toNat : Int) ∧ (q.toNat : Int) ≤ 122) ∧ (i : Int) ≠ 0 ∧ 57 < (q.toNat : Int) ∧ (q.toNat : Int) = 95) ∨ (¬ (97 ≤ (q.toNat : Int) ∧ (q.toNat : Int) ≤ 122) ∧ (i : Int) ≠ 0 ∧ 57 < (q.toNat : Int) ∧ (q.toNat : Int) ≠ 95) ∨ (¬ (97 ≤ (q.toNat : Int) ∧ (q.toNat : Int) ≤ 122) ∧ (i : Int) ≠ 0 ∧ 48 ≤ (q.toNat : Int) ∧ (q.toNat : Int) ≤ 57) by omega) with hz | hz | hz | hz | hz | hz | hz
   ·
    exfalso; omega
   ·
    have hbad : nameB s = false := nameB_of ⟨fun h => absurd h (by decide), fun h => by have := h.1 i q hq; unfold letC othC at this; omega⟩
    refine wp_rs fun K26 hK26 => ?_
    refine hF.v (x_move rfl) fun a hF => ?_
    refine hF.v (x_not rfl) fun a hF => ?_
    refine hF.v (x_move rfl) fun a hF => ?_
    refine s_grd 22 hF rfl rfl rfl ?_
    refine hF.v (x_move rfl) fun a hF => ?_
    refine s_grd 22 hF rfl rfl rfl ?_
    refine hF.v (eqlT (by omega) rfl rfl) fun a hF => ?_
    refine s_grd 22 hF rfl rfl rfl ?_
    refine hF.v (x_move rfl) fun a hF => ?_
    refine s_grdn 25 hF rfl rfl (by decide) fun a hF => ?_
    refine s_grdn 25 hF rfl rfl (by decide) fun a hF => ?_
    refine s_grdn 25 hF rfl rfl (by decide) fun a hF => ?_
    refine s_grdu 28 hF rfl rfl (by decide) fun a hF => ?_
    refine s_grdu 28 hF rfl rfl (by decide) fun a hF => ?_
    refine s_grdn 25 hF rfl rfl (by decide) fun a hF => ?_
    refine s_grdn 25 hF rfl rfl (by decide) fun a hF => ?_
    refine s_grdu 32 hF rfl rfl (by decide) fun a hF => ?_
    refine s_grdu 32 hF rfl rfl (by decide) fun a hF => ?_
    refine s_grdn 25 hF rfl rfl (by decide) fun a hF => ?_
    refine s_grdn 25 hF rfl rfl (by decide) fun a hF => ?_
    refine s_grdu 36 hF rfl rfl (by decide) fun a hF => ?_
    refine s_grdu 36 hF rfl rfl (by decide) fun a hF => ?_
    refine s_grdn 25 hF rfl rfl (by decide) fun a hF => ?_
    refine s_grd 22 hF rfl rfl rfl ?_
    refine hF.v (x_pick (b := true) rfl rfl) fun a hF => ?_
    refine hF.v (x_pick (b := true) rfl rfl) fun a hF => ?_
    refine s_end (hK26 _ _ ?_)
    refine wp_if hF rfl ?_
    refine wp_rs fun K27 hK27 => ?_
    refine hF.v (x_assign rfl) fun a hF => ?_
    refine s_end (hK27 _ _ ?_)
    refine wp_ret (inb_ret (then_ret (then_ret (inb_ret (then_ret (res_slot hF rfl rfl ⟨by rw [hbad], rfl⟩))))))
   ·
    have hbad : nameB s = false := nameB_of ⟨fun h => absurd h (by decide), fun h => by have := h.1 i q hq; unfold letC othC at this; omega⟩
    refine wp_rs fun K28 hK28 => ?_
    refine hF.v (x_move rfl) fun a hF => ?_
    refine hF.v (x_not rfl) fun a hF => ?_
    refine hF.v (x_move rfl) fun a hF => ?_
    refine s_grd 22 hF rfl rfl rfl ?_
    refine hF.v (x_move rfl) fun a hF => ?_
    refine s_grd 22 hF rfl rfl rfl ?_
    refine hF.v (eqlF (by omega) rfl rfl) fun a hF => ?_
    refine s_grd 22 hF rfl rfl rfl ?_
    refine hF.v (x_move rfl) fun a hF => ?_
    refine s_grd 25 hF rfl rfl rfl ?_
    refine hF.v (x_move rfl) fun a hF => ?_
    refine s_grd 25 hF rfl rfl rfl ?_
    refine hF.v (lssT (by omega) rfl rfl) fun a hF => ?_
    refine s_grd 25 hF rfl rfl rfl ?_
    refine hF.v (x_move rfl) fun a hF => ?_
    refine s_grdn 28 hF rfl rfl (by decide) fun a hF => ?_
    refine s_grdn 28 hF rfl rfl (by decide) fun a hF => ?_
    refine s_grd 25 hF rfl rfl rfl ?_
    refine hF.v (x_pick (b := true) rfl rfl) fun a hF => ?_
    refine s_grd 25 hF rfl rfl rfl ?_
    refine hF.v (x_move rfl) fun a hF => ?_
    refine s_grd 32 hF rfl rfl rfl ?_
    refine hF.v (x_move rfl) fun a hF => ?_
    refine s_grd 32 hF rfl rfl rfl ?_
    refine hF.v (neqT (by omega) rfl rfl) fun a hF => ?_
    refine s_grd 25 hF rfl rfl rfl ?_
    refine hF.v (x_pick (b := true) rfl rfl) fun a hF => ?_
    refine s_grd 25 hF rfl rfl rfl ?_
    refine hF.v (x_move rfl) fun a hF => ?_
    refine s_grd 36 hF rfl rfl rfl ?_
    refine hF.v (x_move rfl) fun a hF => ?_
    refine s_grd 36 hF rfl rfl rfl ?_
    refine hF.v (neqT (by omega) rfl rfl) fun a hF => ?_
    refine s_grd 25 hF rfl rfl rfl ?_
    refine hF.v (x_pick (b := true) rfl rfl) fun a hF => ?_
    refine s_grd 22 hF rfl rfl rfl ?_
    refine hF.v (x_pick (b := false) rfl rfl) fun a hF => ?_
    refine hF.v (x_pick (b := true) rfl rfl) fun a hF => ?_
    refine s_end (hK28 _ _ ?_)
    refine wp_if hF rfl ?_
    refine wp_rs fun K29 hK29 => ?_
    refine hF.v (x_assign rfl) fun a hF => ?_
    refine s_end (hK29 _ _ ?_)
    refine wp_ret (inb_ret (then_ret (then_ret (inb_ret (then_ret (res_slot hF rfl rfl ⟨by rw [hbad], rfl⟩))))))
   ·
    have hoki : okAt s.data.toList i := fun c hc => by rw [hq] at hc; cases hc; unfold letC othC; omega
    refine wp_rs fun K30 hK30 => ?_
    refine hF.v (x_move rfl) fun a hF => ?_
    refine hF.v (x_not rfl) fun a hF => ?_
    refine hF.v (x_move rfl) fun a hF => ?_
    refine s_grd 22 hF rfl rfl rfl ?_
    refine hF.v (x_move rfl) fun a hF => ?_
    refine s_grd 22 hF rfl rfl rfl ?_
    refine hF.v (eqlF (by omega) rfl rfl) fun a hF => ?_
    refine s_grd 22 hF rfl rfl rfl ?_
    refine hF.v (x_move rfl) fun a hF => ?_
    refine s_grd 25 hF rfl rfl rfl ?_
    refine hF.v (x_move rfl) fun a hF => ?_
    refine s_grd 25 hF rfl rfl rfl ?_
    refine hF.v (lssT (by omega) rfl rfl) fun a hF => ?_
    refine s_grd 25 hF rfl rfl rfl ?_
    refine hF.v (x_move rfl) fun a hF => ?_
    refine s_grdn 28 hF rfl rfl (by decide) fun a hF => ?_
    refine s_grdn 28 hF rfl rfl (by decide) fun a hF => ?_
    refine s_grd 25 hF rfl rfl rfl ?_
    refine hF.v (x_pick (b := true) rfl rfl) fun a hF => ?_
    refine s_grd 25 hF rfl rfl rfl ?_
    refine hF.v (x_move rfl) fun a hF => ?_
    refine s_grd 32 hF rfl rfl rfl ?_
    refine hF.v (x_move rfl) fun a hF => ?_
    refine s_grd 32 hF rfl rfl rfl ?_
    refine hF.v (neqT (by omega) rfl rfl) fun a hF => ?_
    refine s_grd 25 hF rfl rfl rfl ?_
    refine hF.v (x_pick (b := true) rfl rfl) fun a hF => ?_
    refine s_grd 25 hF rfl rfl rfl ?_
    refine hF.v (x_move rfl) fun a hF => ?_
    refine s_grd 36 hF rfl rfl rfl ?_
    refine hF.v (x_move rfl) fun a hF => ?_
    refine s_grd 36 hF rfl rfl rfl ?_
    refine hF.v (neqF (by omega) rfl rfl) fun a hF => ?_
    refine s_grd 25 hF rfl rfl rfl ?_
    refine hF.v (x_pick (b := true) rfl rfl) fun a hF => ?_
    refine s_grd 22 hF rfl rfl rfl ?_
    refine hF.v (x_pick (b := false) rfl rfl) fun a hF => ?_
    refine hF.v (x_pick (b := true) rfl rfl) fun a hF => ?_
    refine s_end (hK30 _ _ ?_)
    refine wp_if hF rfl ?_
    refine wp_skip (hK6 _ _ ?_)
    refine wp_region_lit ?_
    refine hF.v (x_addn (i + 1) (by omega) (by omega) rfl rfl) fun a hF => ?_
    refine hF.v (x_move rfl) fun a hF => ?_
    refine s_end (hK' _ _ (by omega) ⟨rfl, (fun j hj => by rcases Nat.lt_or_ge j i with h | h; (· exact hok j h); (· rw [show j = i by omega]; exact hoki)), hF.sub _ rfl⟩)
   ·
    have hoki : okAt s.data.toList i := fun c hc => by rw [hq] at hc; cases hc; unfold letC othC; omega
    refine wp_rs fun K31 hK31 => ?_
    refine hF.v (x_move rfl) fun a hF => ?_
    refine hF.v (x_not rfl) fun a hF => ?_
    refine hF.v (x_move rfl) fun a hF => ?_
    refine s_grd 22 hF rfl rfl rfl ?_
    refine hF.v (x_move rfl) fun a hF => ?_
    refine s_grd 22 hF rfl rfl rfl ?_
    refine hF.v (eqlF (by omega) rfl rfl) fun a hF => ?_
    refine s_grd 22 hF rfl rfl rfl ?_
    refine hF.v (x_move rfl) fun a hF => ?_
    refine s_grd 25 hF rfl rfl rfl ?_
    refine hF.v (x_move rfl) fun a hF => ?_
    refine s_grd 25 hF rfl rfl rfl ?_
    refine hF.v (lssF (by omega) rfl rfl) fun a hF => ?_
    refine s_grd 25 hF rfl rfl rfl ?_
    refine hF.v (x_move rfl) fun a hF => ?_
    refine s_grd 28 hF rfl rfl rfl ?_
    refine hF.v (x_move rfl) fun a hF => ?_
    refine s_grd 28 hF rfl rfl rfl ?_
    refine hF.v (gtrT (by omega) rfl rfl) fun a hF => ?_
    refine s_grd 25 hF rfl rfl rfl ?_
    refine hF.v (x_pick (b := false) rfl rfl) fun a hF => ?_
    refine s_grd 25 hF rfl rfl rfl ?_
    refine hF.v (x_move rfl) fun a hF => ?_
    refine s_grd 32 hF rfl rfl rfl ?_
    refine hF.v (x_move rfl) fun a hF => ?_
    refine s_grd 32 hF rfl rfl rfl ?_
    refine hF.v (neqF (by omega) rfl rfl) fun a hF => ?_
    refine s_grd 25 hF rfl rfl rfl ?_
    refine hF.v (x_pick (b := true) rfl rfl) fun a hF => ?_
    refine s_grd 25 hF rfl rfl rfl ?_
    refine hF.v (x_move rfl) fun a hF => ?_
    refine s_grdn 36 hF rfl rfl (by decide) fun a hF => ?_
    refine s_grdn 36 hF rfl rfl (by decide) fun a hF => ?_
    refine s_grd 25 hF rfl rfl rfl ?_
    refine hF.v (x_pick (b := false) rfl rfl) fun a hF => ?_
    refine s_grd 22 hF rfl rfl rfl ?_
    refine hF.v (x_pick (b := false) rfl rfl) fun a hF => ?_
    refine hF.v (x_pick (b := true) rfl rfl) fun a hF => ?_
    refine s_end (hK31 _ _ ?_)
    refine wp_if hF rfl ?_
    refine wp_skip (hK6 _ _ ?_)
    refine wp_region_lit ?_
    refine hF.v (x_addn (i + 1) (by omega) (by omega) rfl rfl) fun a hF => ?_
    refine hF.v (x_move rfl) fun a hF => ?_
    refine s_end (hK' _ _ (by omega) ⟨rfl, (fun j hj => by rcases Nat.lt_or_ge j i with h | h; (· exact hok j h); (· rw [show j = i by omega]; exact hoki)), hF.sub _ rfl⟩)
   ·
    have hbad : nameB s = false := nameB_of ⟨fun h => absurd h (by decide), fun h => by have := h.1 i q hq; unfold letC othC at this; omega⟩
    refine wp_rs fun K32 hK32 => ?_
    refine hF.v (x_move rfl) fun a hF => ?_
    refine hF.v (x_not rfl) fun a hF => ?_
    refine hF.v (x_move rfl) fun a hF => ?_
    refine s_grd 22 hF rfl rfl rfl ?_
    refine hF.v (x_move rfl) fun a hF => ?_
    refine s_grd 22 hF rfl rfl rfl ?_
    refine hF.v (eqlF (by omega) rfl rfl) fun a hF => ?_
    refine s_grd 22 hF rfl rfl rfl ?_
    refine hF.v (x_move rfl) fun a hF => ?_
    refine s_grd 25 hF rfl rfl rfl ?_
    refine hF.v (x_move rfl) fun a hF => ?_
    refine s_grd 25 hF rfl rfl rfl ?_
    refine hF.v (lssF (by omega) rfl rfl) fun a hF => ?_
    refine s_grd 25 hF rfl rfl rfl ?_
    refine hF.v (x_move rfl) fun a hF => ?_
    refine s_grd 28 hF rfl rfl rfl ?_
    refine hF.v (x_move rfl) fun a hF => ?_
    refine s_grd 28 hF rfl rfl rfl ?_
    refine hF.v (gtrT (by omega) rfl rfl) fun a hF => ?_
    refine s_grd 25 hF rfl rfl rfl ?_
    refine hF.v (x_pick (b := false) rfl rfl) fun a hF => ?_
    refine s_grd 25 hF rfl rfl rfl ?_
    refine hF.v (x_move rfl) fun a hF => ?_
    refine s_grd 32 hF rfl rfl rfl ?_
    refine hF.v (x_move rfl) fun a hF => ?_
    refine s_grd 32 hF rfl rfl rfl ?_
    refine hF.v (neqT (by omega) rfl rfl) fun a hF => ?_
    refine s_grd 25 hF rfl rfl rfl ?_
    refine hF.v (x_pick (b := true) rfl rfl) fun a hF => ?_
    refine s_grd 25 hF rfl rfl rfl ?_
    refine hF.v (x_move rfl) fun a hF => ?_
    refine s_grd 36 hF rfl rfl rfl ?_
    refine hF.v (x_move rfl) fun a hF => ?_
    refine s_grd 36 hF rfl rfl rfl ?_
    refine hF.v (neqT (by omega) rfl rfl) fun a hF => ?_
    refine s_grd 25 hF rfl rfl rfl ?_
    refine hF.v (x_pick (b := true) rfl rfl) fun a hF => ?_
    refine s_grd 22 hF rfl rfl rfl ?_
    refine hF.v (x_pick (b := false) rfl rfl) fun a hF => ?_
    refine hF.v (x_pick (b := true) rfl rfl) fun a hF => ?_
    refine s_end (hK32 _ _ ?_)
    refine wp_if hF rfl ?_
    refine wp_rs fun K33 hK33 => ?_
    refine hF.v (x_assign rfl) fun a hF => ?_
    refine s_end (hK33 _ _ ?_)
    refine wp_ret (inb_ret (then_ret (then_ret (inb_ret (then_ret (res_slot hF rfl rfl ⟨by rw [hbad], rfl⟩))))))
   ·
    have hoki : okAt s.data.toList i := fun c hc => by rw [hq] at hc; cases hc; unfold letC othC; omega
    refine wp_rs fun K34 hK34 => ?_
    refine hF.v (x_move rfl) fun a hF => ?_
    refine hF.v (x_not rfl) fun a hF => ?_
    refine hF.v (x_move rfl) fun a hF => ?_
    refine s_grd 22 hF rfl rfl rfl ?_
    refine hF.v (x_move rfl) fun a hF => ?_
    refine s_grd 22 hF rfl rfl rfl ?_
    refine hF.v (eqlF (by omega) rfl rfl) fun a hF => ?_
    refine s_grd 22 hF rfl rfl rfl ?_
    refine hF.v (x_move rfl) fun a hF => ?_
    refine s_grd 25 hF rfl rfl rfl ?_
    refine hF.v (x_move rfl) fun a hF => ?_
    refine s_grd 25 hF rfl rfl rfl ?_
    refine hF.v (lssF (by omega) rfl rfl) fun a hF => ?_
    refine s_grd 25 hF rfl rfl rfl ?_
    refine hF.v (x_move rfl) fun a hF => ?_
    refine s_grd 28 hF rfl rfl rfl ?_
    refine hF.v (x_move rfl) fun a hF => ?_
    refine s_grd 28 hF rfl rfl rfl ?_
    refine hF.v (gtrF (by omega) rfl rfl) fun a hF => ?_
    refine s_grd 25 hF rfl rfl rfl ?_
    refine hF.v (x_pick (b := false) rfl rfl) fun a hF => ?_
    refine s_grd 25 hF rfl rfl rfl ?_
    refine hF.v (x_move rfl) fun a hF => ?_
    refine s_grdn 32 hF rfl rfl (by decide) fun a hF => ?_
    refine s_grdn 32 hF rfl rfl (by decide) fun a hF => ?_
    refine s_grd 25 hF rfl rfl rfl ?_
    refine hF.v (x_pick (b := false) rfl rfl) fun a hF => ?_
    refine s_grd 25 hF rfl rfl rfl ?_
    refine hF.v (x_move rfl) fun a hF => ?_
    refine s_grdn 36 hF rfl rfl (by decide) fun a hF => ?_
    refine s_grdn 36 hF rfl rfl (by decide) fun a hF => ?_
    refine s_grd 25 hF rfl rfl rfl ?_
    refine hF.v (x_pick (b := false) rfl rfl) fun a hF => ?_
    refine s_grd 22 hF rfl rfl rfl ?_
    refine hF.v (x_pick (b := false) rfl rfl) fun a hF => ?_
    refine hF.v (x_pick (b := true) rfl rfl) fun a hF => ?_
    refine s_end (hK34 _ _ ?_)
    refine wp_if hF rfl ?_
    refine wp_skip (hK6 _ _ ?_)
    refine wp_region_lit ?_
    refine hF.v (x_addn (i + 1) (by omega) (by omega) rfl rfl) fun a hF => ?_
    refine hF.v (x_move rfl) fun a hF => ?_
    refine s_end (hK' _ _ (by omega) ⟨rfl, (fun j hj => by rcases Nat.lt_or_ge j i with h | h; (· exact hok j h); (· rw [show j = i by omega]; exact hoki)), hF.sub _ rfl⟩)
 ·
  obtain rfl : i = s.size := by omega
  have hall : ∀ j, okAt s.data.toList j := fun j c hc => by have hj := (List.getElem?_eq_some_iff.1 hc).1; rw [size_list] at hj; exact hok j hj c hc
  refine wp_exit (hK2 _ _ ?_)
  rcases (show 1 ≤ (s.size : Int) ∧ (s.size : Int) ≤ 32 ∨ (1 ≤ (s.size : Int) ∧ ¬ (s.size : Int) ≤ 32) ∨ ¬ 1 ≤ (s.size : Int) by omega) with hz | hz | hz
  ·
   have hres : nameB s = true := nameB_of ⟨fun _ => ⟨hall, by rw [size_list]; omega, by rw [size_list]; omega⟩, fun _ => rfl⟩
   refine wp_rs fun K36 hK36 => ?_
   refine hF.v (x_move rfl) fun a hF => ?_
   refine hF.v (x_lenS Try.underlying9 rfl) fun a hF => ?_
   refine hF.v (geqT (by omega) rfl rfl) fun a hF => ?_
   refine hF.v (x_move rfl) fun a hF => ?_
   refine s_grd 46 hF rfl rfl rfl ?_
   refine hF.v (x_move rfl) fun a hF => ?_
   refine s_grd 46 hF rfl rfl rfl ?_
   refine hF.v (x_lenS Try.underlying9 rfl) fun a hF => ?_
   refine s_grd 46 hF rfl rfl rfl ?_
   refine hF.v (leqT (by omega) rfl rfl) fun a hF => ?_
   refine hF.v (x_pick (b := true) rfl rfl) fun a hF => ?_
   refine hF.v (x_assign rfl) fun a hF => ?_
   refine s_end (hK36 _ _ ?_)
   refine wp_ret (res_slot hF rfl rfl ⟨by rw [hres], rfl⟩)
  ·
   have hres : nameB s = false := nameB_of ⟨fun h => absurd h (by decide), fun h => by have h1 := h.2.1; have h2 := h.2.2; rw [size_list] at h1 h2; omega⟩
   refine wp_rs fun K37 hK37 => ?_
   refine hF.v (x_move rfl) fun a hF => ?_
   refine hF.v (x_lenS Try.underlying9 rfl) fun a hF => ?_
   refine hF.v (geqT (by omega) rfl rfl) fun a hF => ?_
   refine hF.v (x_move rfl) fun a hF => ?_
   refine s_grd 46 hF rfl rfl rfl ?_
   refine hF.v (x_move rfl) fun a hF => ?_
   refine s_grd 46 hF rfl rfl rfl ?_
   refine hF.v (x_lenS Try.underlying9 rfl) fun a hF => ?_
   refine s_grd 46 hF rfl rfl rfl ?_
   refine hF.v (leqF (by omega) rfl rfl) fun a hF => ?_
   refine hF.v (x_pick (b := true) rfl rfl) fun a hF => ?_
   refine hF.v (x_assign rfl) fun a hF => ?_
   refine s_end (hK37 _ _ ?_)
   refine wp_ret (res_slot hF rfl rfl ⟨by rw [hres], rfl⟩)
  ·
   have hres : nameB s = false := nameB_of ⟨fun h => absurd h (by decide), fun h => by have h1 := h.2.1; have h2 := h.2.2; rw [size_list] at h1 h2; omega⟩
   refine wp_rs fun K38 hK38 => ?_
   refine hF.v (x_move rfl) fun a hF => ?_
   refine hF.v (x_lenS Try.underlying9 rfl) fun a hF => ?_
   refine hF.v (geqF (by omega) rfl rfl) fun a hF => ?_
   refine hF.v (x_move rfl) fun a hF => ?_
   refine s_grdn 46 hF rfl rfl (by decide) fun a hF => ?_
   refine s_grdn 46 hF rfl rfl (by decide) fun a hF => ?_
   refine s_grdn 46 hF rfl rfl (by decide) fun a hF => ?_
   refine hF.v (x_pick (b := false) rfl rfl) fun a hF => ?_
   refine hF.v (x_assign rfl) fun a hF => ?_
   refine s_end (hK38 _ _ ?_)
   refine wp_ret (res_slot hF rfl rfl ⟨by rw [hres], rfl⟩)
end Go.Proofs.Ytbhhbfdoadecgaa

namespace Go.Proofs.Ytbhhbfdoadecgaa
open Go.RowKit Go.Shelf
set_option linter.unusedVariables false
set_option linter.unusedSimpArgs false

theorem mayK_at {vars d : Int} {ks : List CT} {i n : Nat} {k : CT} (h : ks[i]? = some k) : mayK vars (ks.drop i) d n = if (k.mayT vars d n).1 ≠ 0 then k.mayT vars d n else mayK vars (ks.drop (i + 1)) d (k.mayT vars d n).2 := by
 have hi : i < ks.length := (List.getElem?_eq_some_iff.1 h).1
 have : ks[i] = k := (List.getElem?_eq_some_iff.1 h).2
 rw [← List.getElem_cons_drop hi, this, mayK]
theorem fstErr_at {vars : Int} {ls : List Lv} {i : Nat} {l : Lv} (h : ls[i]? = some l) : fstErr vars (ls.drop i) = if (chk 32 1048576 vars 1 100 l).1 ≠ 0 then (chk 32 1048576 vars 1 100 l).1 else fstErr vars (ls.drop (i + 1)) := by
 have hi : i < ls.length := (List.getElem?_eq_some_iff.1 h).1
 have : ls[i] = l := (List.getElem?_eq_some_iff.1 h).2
 rw [← List.getElem_cons_drop hi, this, fstErr]
theorem CT.kids_arT2 {W : World} {A : Nat → Prop} {c : CT} {x : C8} (h : RC W A c x) (h2 : ¬ (arT c.kd < 0 ∨ (c.len : Int) ≠ arT c.kd)) : c.kids.length = c.len := by
 rcases CT.kids_arT h with h3 | h3 <;> omega

set_option maxRecDepth 100000 in
set_option maxHeartbeats 400000 in
theorem rmay73 (vars : Int) (w0 : World) (g : Nat) (hg : w0.heap.size ≤ g) : ∀ (N : Nat) (c : CT) (x : C8), c.size < N → RC w0 (fun k => k < w0.heap.size) c x → c.fit → ∀ (d : Int) (n : Nat) (w1 : World), 0 ≤ d → d ≤ 65 → n ≤ 400 → Below w0.heap.size w0 w1 → Blk w1 g 3 [.int .i64 (n : Int)] →
  Calls Try.prog 112 #[tv x, .int .i64 vars, .int .i64 d, .pointer (some ⟨g, 0, none⟩)] w1 fun e w' => ∃ u, e = .returned u ∧ (u = .int .i64 (c.mayT vars d n).1 ∧ Blk w' g 3 [.int .i64 (((c.mayT vars d n).2 : Nat) : Int)]) ∧ Ktw g g w1 w' := by
 intro N
 induction N with
 | zero => intro s x h; omega
 | succ N ih =>
 intro c x hN hx hfit d n w1 hd0 hd1 hn hB mg
 have hK := Ktw.refl g g w1
 have sB := hB.size
 have sK := hK.size
 have hgl := mg.lt
 have heq := mayT_eq vars c d n
 have hrg := arT_rng c.kd
 obtain ⟨av, nv, cv, hts, hle9, hlen9, hcap, hkid⟩ := hx.kids
 obtain ⟨xk, xn, xs, xl, xls, xts⟩ := x
 simp only at hts
 subst hts
 have hkd : xk = c.kd := hx.kd
 have hone := hx.one
 obtain ⟨KC, hKC⟩ : ∃ KC, KC = c.kids := ⟨_, rfl⟩
 rw [← hKC] at heq hkid hle9 hcap
 refine calls_fs 108 [(0, tv ⟨xk, xn, xs, xl, xls, .slice av nv cv⟩), (1, .int .i64 vars), (2, .int .i64 d), (3, .pointer (some ⟨g, 0, none⟩))] Try.func112 rfl rfl rfl rfl rfl fun a hF => ?_
 refine wp_rs fun K1 hK1 => ?_
 refine s_box ([.int .i64 xk, .int .i64 xn, .string xs, .int .i64 xl.1, .int .i64 xl.2.1, xl.2.2, xls, .slice av nv cv]) hF (by decide) rfl rfl fun w2 b4 a eb4 m4 B3 zb4 hF => ?_
 have sB3 := B3.size
 have hB := bt hB B3
 have hK := hK.below B3
 have mg := mg.old B3
 refine hF.v (x_assign rfl) fun a hF => ?_
 refine s_end (hK1 _ _ ?_)
 refine wp_rs fun K2 hK2 => ?_
 refine hF.v (x_move rfl) fun a hF => ?_
 refine hF.v (x_nil rfl) fun a hF => ?_
 refine hF.v (x_load rfl (m_load flat3 (mg.cell (j := 0) rfl))) fun a hF => ?_
 refine hF.v (x_addn (n + 1) (by omega) (by omega) rfl rfl) fun a hF => ?_
 refine hF.v (x_nil rfl) fun a hF => ?_
 refine s_put hF rfl rfl flat3 mg (by first | (simp; done) | (simp [tc, lc]; done) | decide) rfl fun w4 mg o5 => ?_
 have so5 := o5.size
 have hB := hB.trans (o5.below (by omega))
 have hK := hK.only o5 (by omega)
 have m4 := m4.only o5 (by omega)
 refine s_end (hK2 _ _ ?_)
 refine wp_seq_k fun K3 hK3 => ?_
 refine wp_block ?_
 rcases (show 64 < d ∨ (¬ 64 < d ∧ 400 < ((n + 1 : Nat) : Int)) ∨ (¬ 64 < d ∧ ¬ 400 < ((n + 1 : Nat) : Int)) by omega) with hz | hz | hz
 ·
  have hpre : nodeErr vars d (n + 1) c = 2 := nodeErr_two (by omega)
  rw [hpre, if_pos (by decide)] at heq
  refine wp_rs fun K5 hK5 => ?_
  refine hF.v (x_move rfl) fun a hF => ?_
  refine hF.v (gtrT (by omega) rfl rfl) fun a hF => ?_
  refine hF.v (x_move rfl) fun a hF => ?_
  refine s_grdn 23 hF rfl rfl (by decide) fun a hF => ?_
  refine s_grdn 23 hF rfl rfl (by decide) fun a hF => ?_
  refine s_grdn 23 hF rfl rfl (by decide) fun a hF => ?_
  refine s_grdn 23 hF rfl rfl (by decide) fun a hF => ?_
  refine hF.v (x_pick (b := true) rfl rfl) fun a hF => ?_
  refine hF.v (x_assign rfl) fun a hF => ?_
  refine s_end (hK5 _ _ ?_)
  refine wp_if hF rfl ?_
  refine wp_rs fun K6 hK6 => ?_
  refine hF.v (x_assign rfl) fun a hF => ?_
  refine s_end (hK6 _ _ ?_)
  refine wp_ret (inb_ret (then_ret (res_slot hF rfl rfl ⟨_, rfl, ⟨by rw [heq], by rw [heq]; exact mg⟩, hK⟩)))
 ·
  have hpre : nodeErr vars d (n + 1) c = 2 := nodeErr_two (by omega)
  rw [hpre, if_pos (by decide)] at heq
  refine wp_rs fun K7 hK7 => ?_
  refine hF.v (x_move rfl) fun a hF => ?_
  refine hF.v (gtrF (by omega) rfl rfl) fun a hF => ?_
  refine hF.v (x_move rfl) fun a hF => ?_
  refine s_grd 23 hF rfl rfl rfl ?_
  refine hF.v (x_move rfl) fun a hF => ?_
  refine s_grd 23 hF rfl rfl rfl ?_
  refine hF.v (x_nil rfl) fun a hF => ?_
  refine s_grd 23 hF rfl rfl rfl ?_
  refine hF.v (x_load rfl (m_load flat3 (mg.cell (j := 0) rfl))) fun a hF => ?_
  refine s_grd 23 hF rfl rfl rfl ?_
  refine hF.v (gtrT (by omega) rfl rfl) fun a hF => ?_
  refine hF.v (x_pick (b := false) rfl rfl) fun a hF => ?_
  refine hF.v (x_assign rfl) fun a hF => ?_
  refine s_end (hK7 _ _ ?_)
  refine wp_if hF rfl ?_
  refine wp_rs fun K8 hK8 => ?_
  refine hF.v (x_assign rfl) fun a hF => ?_
  refine s_end (hK8 _ _ ?_)
  refine wp_ret (inb_ret (then_ret (res_slot hF rfl rfl ⟨_, rfl, ⟨by rw [heq], by rw [heq]; exact mg⟩, hK⟩)))
 ·
  skip
  refine wp_rs fun K9 hK9 => ?_
  refine hF.v (x_move rfl) fun a hF => ?_
  refine hF.v (gtrF (by omega) rfl rfl) fun a hF => ?_
  refine hF.v (x_move rfl) fun a hF => ?_
  refine s_grd 23 hF rfl rfl rfl ?_
  refine hF.v (x_move rfl) fun a hF => ?_
  refine s_grd 23 hF rfl rfl rfl ?_
  refine hF.v (x_nil rfl) fun a hF => ?_
  refine s_grd 23 hF rfl rfl rfl ?_
  refine hF.v (x_load rfl (m_load flat3 (mg.cell (j := 0) rfl))) fun a hF => ?_
  refine s_grd 23 hF rfl rfl rfl ?_
  refine hF.v (gtrF (by omega) rfl rfl) fun a hF => ?_
  refine hF.v (x_pick (b := false) rfl rfl) fun a hF => ?_
  refine hF.v (x_assign rfl) fun a hF => ?_
  refine s_end (hK9 _ _ ?_)
  refine wp_if hF rfl ?_
  rcases (show arT c.kd < 0 ∨ (¬ arT c.kd < 0 ∧ (nv : Int) ≠ arT c.kd) ∨ (¬ arT c.kd < 0 ∧ (nv : Int) = arT c.kd) by omega) with hy | hy | hy
  ·
   have hpre : nodeErr vars d (n + 1) c = 1 := nodeErr_one (by omega) (by omega)
   rw [hpre, if_pos (by decide)] at heq
   refine dk2_seq (w4.heap.size) (w4.heap.size) (ops := regOps Try.f112 4) (N := 14) (by kernel_rfl) wide_orders (by kernel_rfl) fun w6 hw6 B7 hS K11 hK11 => ?_
   have zw6 : w6.heap.size = w4.heap.size := by rw [hw6]
   have sB7 := B7.size
   have hB := bt hB B7
   have hK := hK.below B7
   have mg := mg.old B7
   have m4 := m4.old B7
   have mg_d := mg
   have m4_d := m4
   have hB_d := hB
   have hK_d := hK
   refine hF.d 0 30 (.fieldAddr 27 (.tmp 4) 0) hS (fun W hW => x_fa0 fa27_0 rfl) fun a hF => ?_
   refine hF.d 1 31 (.load 3 (.tmp 30)) hS (fun W hW => x_load rfl (m_load flat3 ((m4_d.k2 hW (by omega)).cell (j := 0) rfl))) fun a hF => ?_
   refine d1 2 (some 32) (.call (.mk (.value (.func 86)) #[(.tmp 31)] #[3])) fun ty pos af => ?_
   refine s_callS [_] hF E86 rfl (by decide) ((kids54 xk w6).mono fun e w' h => ⟨(by rw [h.1, hkd] : e = .returned (.int .i64 (arT c.kd))), h.2⟩) fun a hF => ?_
   refine s_end ⟨hS, ?_⟩
   refine hF.d 3 33 (.binOp .lss 3 (.tmp 32) (.const (.int .i64 0)) 3) hS (fun W hW => lssT (by omega) rfl rfl) fun a hF => ?_
   refine hF.d 4 34 (.move (.tmp 33)) hS (fun W hW => x_move rfl) fun a hF => ?_
   refine d_skip 5 35 34 (j := 4) (want := false) (op := (.fieldAddr 27 (.tmp 4) 5)) hF hS (by kernel_rfl) (by kernel_rfl) rfl (by kernel_rfl) (by decide) fun a hF => ?_
   refine d_skip 6 36 34 (j := 4) (want := false) (op := (.load 25 (.tmp 35))) hF hS (by kernel_rfl) (by kernel_rfl) rfl (by kernel_rfl) (by decide) fun a hF => ?_
   refine d_skip 7 37 34 (j := 4) (want := false) (op := (.call (.mk (.builtin .len) #[(.tmp 36)] #[25]))) hF hS (by kernel_rfl) (by kernel_rfl) rfl (by kernel_rfl) (by decide) fun a hF => ?_
   refine d_skip 8 38 34 (j := 4) (want := false) (op := (.fieldAddr 27 (.tmp 4) 0)) hF hS (by kernel_rfl) (by kernel_rfl) rfl (by kernel_rfl) (by decide) fun a hF => ?_
   refine d_skip 9 39 34 (j := 4) (want := false) (op := (.load 3 (.tmp 38))) hF hS (by kernel_rfl) (by kernel_rfl) rfl (by kernel_rfl) (by decide) fun a hF => ?_
   refine d_skip 10 40 34 (j := 4) (want := false) (op := (.call (.mk (.value (.func 86)) #[(.tmp 39)] #[3]))) hF hS (by kernel_rfl) (by kernel_rfl) rfl (by kernel_rfl) (by decide) fun a hF => ?_
   refine d_skip 11 41 34 (j := 4) (want := false) (op := (.binOp .neq 3 (.tmp 37) (.tmp 40) 3)) hF hS (by kernel_rfl) (by kernel_rfl) rfl (by kernel_rfl) (by decide) fun a hF => ?_
   refine hF.d 12 42 (.pick (.tmp 34) (.const (.bool true)) (.tmp 41)) hS (fun W hW => x_pick (b := true) rfl rfl) fun a hF => ?_
   refine hF.d 13 29 (.assign (.tmp 42)) hS (fun W hW => x_assign rfl) fun a hF => ?_
   refine d_end (by kernel_rfl) (hK11 _ _ ?_)
   refine wp_if hF rfl ?_
   refine wp_rs fun K12 hK12 => ?_
   refine hF.v (x_assign rfl) fun a hF => ?_
   refine s_end (hK12 _ _ ?_)
   refine wp_ret (inb_ret (then_ret (res_slot hF rfl rfl ⟨_, rfl, ⟨by rw [heq], by rw [heq]; exact mg⟩, hK⟩)))
  ·
   have hpre : nodeErr vars d (n + 1) c = 1 := nodeErr_one (by omega) (by omega)
   rw [hpre, if_pos (by decide)] at heq
   refine dk2_seq (w4.heap.size) (w4.heap.size) (ops := regOps Try.f112 4) (N := 14) (by kernel_rfl) wide_orders (by kernel_rfl) fun w8 hw8 B9 hS K13 hK13 => ?_
   have zw8 : w8.heap.size = w4.heap.size := by rw [hw8]
   have sB9 := B9.size
   have hB := bt hB B9
   have hK := hK.below B9
   have mg := mg.old B9
   have m4 := m4.old B9
   have mg_d := mg
   have m4_d := m4
   have hB_d := hB
   have hK_d := hK
   refine hF.d 0 30 (.fieldAddr 27 (.tmp 4) 0) hS (fun W hW => x_fa0 fa27_0 rfl) fun a hF => ?_
   refine hF.d 1 31 (.load 3 (.tmp 30)) hS (fun W hW => x_load rfl (m_load flat3 ((m4_d.k2 hW (by omega)).cell (j := 0) rfl))) fun a hF => ?_
   refine d1 2 (some 32) (.call (.mk (.value (.func 86)) #[(.tmp 31)] #[3])) fun ty pos af => ?_
   refine s_callS [_] hF E86 rfl (by decide) ((kids54 xk w8).mono fun e w' h => ⟨(by rw [h.1, hkd] : e = .returned (.int .i64 (arT c.kd))), h.2⟩) fun a hF => ?_
   refine s_end ⟨hS, ?_⟩
   refine hF.d 3 33 (.binOp .lss 3 (.tmp 32) (.const (.int .i64 0)) 3) hS (fun W hW => lssF (by omega) rfl rfl) fun a hF => ?_
   refine hF.d 4 34 (.move (.tmp 33)) hS (fun W hW => x_move rfl) fun a hF => ?_
   refine hF.g 5 35 34 4 false (.fieldAddr 27 (.tmp 4) 5) hS rfl (fun W hW => x_fa0 fa27_5 rfl) fun a hF => ?_
   refine hF.g 6 36 34 4 false (.load 25 (.tmp 35)) hS rfl (fun W hW => x_load rfl (m_load flat25 ((m4_d.k2 hW (by omega)).cell (j := 7) rfl))) fun a hF => ?_
   refine hF.g 7 37 34 4 false (.call (.mk (.builtin .len) #[(.tmp 36)] #[25])) hS rfl (fun W hW => x_len Try.underlying25 rfl) fun a hF => ?_
   refine hF.g 8 38 34 4 false (.fieldAddr 27 (.tmp 4) 0) hS rfl (fun W hW => x_fa0 fa27_0 rfl) fun a hF => ?_
   refine hF.g 9 39 34 4 false (.load 3 (.tmp 38)) hS rfl (fun W hW => x_load rfl (m_load flat3 ((m4_d.k2 hW (by omega)).cell (j := 0) rfl))) fun a hF => ?_
   refine d_oneg 10 34 (some 40) (.call (.mk (.value (.func 86)) #[(.tmp 39)] #[3])) (j := 4) (want := false) hF (by kernel_rfl) (by kernel_rfl) (by kernel_rfl) rfl fun ty pos af => ?_
   refine s_callS [_] hF E86 rfl (by decide) ((kids54 xk w8).mono fun e w' h => ⟨(by rw [h.1, hkd] : e = .returned (.int .i64 (arT c.kd))), h.2⟩) fun a hF => ?_
   refine s_end ⟨hS, ?_⟩
   refine hF.g 11 41 34 4 false (.binOp .neq 3 (.tmp 37) (.tmp 40) 3) hS rfl (fun W hW => neqT (by omega) rfl rfl) fun a hF => ?_
   refine hF.d 12 42 (.pick (.tmp 34) (.const (.bool true)) (.tmp 41)) hS (fun W hW => x_pick (b := false) rfl rfl) fun a hF => ?_
   refine hF.d 13 29 (.assign (.tmp 42)) hS (fun W hW => x_assign rfl) fun a hF => ?_
   refine d_end (by kernel_rfl) (hK13 _ _ ?_)
   refine wp_if hF rfl ?_
   refine wp_rs fun K14 hK14 => ?_
   refine hF.v (x_assign rfl) fun a hF => ?_
   refine s_end (hK14 _ _ ?_)
   refine wp_ret (inb_ret (then_ret (res_slot hF rfl rfl ⟨_, rfl, ⟨by rw [heq], by rw [heq]; exact mg⟩, hK⟩)))
  ·
   skip
   refine dk2_seq (w4.heap.size) (w4.heap.size) (ops := regOps Try.f112 4) (N := 14) (by kernel_rfl) wide_orders (by kernel_rfl) fun w10 hw10 B11 hS K15 hK15 => ?_
   have zw10 : w10.heap.size = w4.heap.size := by rw [hw10]
   have sB11 := B11.size
   have hB := bt hB B11
   have hK := hK.below B11
   have mg := mg.old B11
   have m4 := m4.old B11
   have mg_d := mg
   have m4_d := m4
   have hB_d := hB
   have hK_d := hK
   refine hF.d 0 30 (.fieldAddr 27 (.tmp 4) 0) hS (fun W hW => x_fa0 fa27_0 rfl) fun a hF => ?_
   refine hF.d 1 31 (.load 3 (.tmp 30)) hS (fun W hW => x_load rfl (m_load flat3 ((m4_d.k2 hW (by omega)).cell (j := 0) rfl))) fun a hF => ?_
   refine d1 2 (some 32) (.call (.mk (.value (.func 86)) #[(.tmp 31)] #[3])) fun ty pos af => ?_
   refine s_callS [_] hF E86 rfl (by decide) ((kids54 xk w10).mono fun e w' h => ⟨(by rw [h.1, hkd] : e = .returned (.int .i64 (arT c.kd))), h.2⟩) fun a hF => ?_
   refine s_end ⟨hS, ?_⟩
   refine hF.d 3 33 (.binOp .lss 3 (.tmp 32) (.const (.int .i64 0)) 3) hS (fun W hW => lssF (by omega) rfl rfl) fun a hF => ?_
   refine hF.d 4 34 (.move (.tmp 33)) hS (fun W hW => x_move rfl) fun a hF => ?_
   refine hF.g 5 35 34 4 false (.fieldAddr 27 (.tmp 4) 5) hS rfl (fun W hW => x_fa0 fa27_5 rfl) fun a hF => ?_
   refine hF.g 6 36 34 4 false (.load 25 (.tmp 35)) hS rfl (fun W hW => x_load rfl (m_load flat25 ((m4_d.k2 hW (by omega)).cell (j := 7) rfl))) fun a hF => ?_
   refine hF.g 7 37 34 4 false (.call (.mk (.builtin .len) #[(.tmp 36)] #[25])) hS rfl (fun W hW => x_len Try.underlying25 rfl) fun a hF => ?_
   refine hF.g 8 38 34 4 false (.fieldAddr 27 (.tmp 4) 0) hS rfl (fun W hW => x_fa0 fa27_0 rfl) fun a hF => ?_
   refine hF.g 9 39 34 4 false (.load 3 (.tmp 38)) hS rfl (fun W hW => x_load rfl (m_load flat3 ((m4_d.k2 hW (by omega)).cell (j := 0) rfl))) fun a hF => ?_
   refine d_oneg 10 34 (some 40) (.call (.mk (.value (.func 86)) #[(.tmp 39)] #[3])) (j := 4) (want := false) hF (by kernel_rfl) (by kernel_rfl) (by kernel_rfl) rfl fun ty pos af => ?_
   refine s_callS [_] hF E86 rfl (by decide) ((kids54 xk w10).mono fun e w' h => ⟨(by rw [h.1, hkd] : e = .returned (.int .i64 (arT c.kd))), h.2⟩) fun a hF => ?_
   refine s_end ⟨hS, ?_⟩
   refine hF.g 11 41 34 4 false (.binOp .neq 3 (.tmp 37) (.tmp 40) 3) hS rfl (fun W hW => neqF (by omega) rfl rfl) fun a hF => ?_
   refine hF.d 12 42 (.pick (.tmp 34) (.const (.bool true)) (.tmp 41)) hS (fun W hW => x_pick (b := false) rfl rfl) fun a hF => ?_
   refine hF.d 13 29 (.assign (.tmp 42)) hS (fun W hW => x_assign rfl) fun a hF => ?_
   refine d_end (by kernel_rfl) (hK15 _ _ ?_)
   refine wp_if hF rfl ?_
   rcases (show (xk = 1 ∧ xn < 0) ∨ (xk = 1 ∧ ¬ xn < 0 ∧ 1048576 < xn) ∨ (xk = 1 ∧ ¬ xn < 0 ∧ ¬ 1048576 < xn) ∨ xk = 2 ∨ xk = 7 ∨ (xk ≠ 1 ∧ xk ≠ 2 ∧ xk ≠ 7) by omega) with hq | hq | hq | hq | hq | hq
   ·
    have hlf := nodeErr_leaf (vars := vars) (n := n + 1) (d := d) (c := c) (by omega) (by omega)
    obtain ⟨z, m, rfl⟩ := hx.var_of hq.1
    have hzn : xn = z := hx.2.1
    have hle : leafErr vars (.var z m) = 1 := by simp only [leafErr]; rw [if_pos (by omega)]
    rw [hle] at hlf
    rw [hlf, if_pos (by decide)] at heq
    refine wp_rs fun K17 hK17 => ?_
    refine hF.v (x_fa0 fa27_0 rfl) fun a hF => ?_
    refine hF.v (x_load rfl (m_load flat3 (m4.cell (j := 0) rfl))) fun a hF => ?_
    refine hF.v (eqlT (by omega) rfl rfl) fun a hF => ?_
    refine hF.v (x_move rfl) fun a hF => ?_
    refine s_grd 47 hF rfl rfl rfl ?_
    refine hF.v (x_fa0 fa27_1 rfl) fun a hF => ?_
    refine s_grd 47 hF rfl rfl rfl ?_
    refine hF.v (x_load rfl (m_load flat3 (m4.cell (j := 1) rfl))) fun a hF => ?_
    refine s_grd 47 hF rfl rfl rfl ?_
    refine hF.v (lssT (by omega) rfl rfl) fun a hF => ?_
    refine s_grd 47 hF rfl rfl rfl ?_
    refine hF.v (x_move rfl) fun a hF => ?_
    refine s_grdn 51 hF rfl rfl (by decide) fun a hF => ?_
    refine s_grdn 51 hF rfl rfl (by decide) fun a hF => ?_
    refine s_grdn 51 hF rfl rfl (by decide) fun a hF => ?_
    refine s_grd 47 hF rfl rfl rfl ?_
    refine hF.v (x_pick (b := true) rfl rfl) fun a hF => ?_
    refine hF.v (x_pick (b := true) rfl rfl) fun a hF => ?_
    refine hF.v (x_assign rfl) fun a hF => ?_
    refine s_end (hK17 _ _ ?_)
    refine wp_if hF rfl ?_
    refine wp_rs fun K18 hK18 => ?_
    refine hF.v (x_assign rfl) fun a hF => ?_
    refine s_end (hK18 _ _ ?_)
    refine wp_ret (inb_ret (then_ret (res_slot hF rfl rfl ⟨_, rfl, ⟨by rw [heq], by rw [heq]; exact mg⟩, hK⟩)))
   ·
    have hlf := nodeErr_leaf (vars := vars) (n := n + 1) (d := d) (c := c) (by omega) (by omega)
    obtain ⟨z, m, rfl⟩ := hx.var_of hq.1
    have hzn : xn = z := hx.2.1
    have hle : leafErr vars (.var z m) = 1 := by simp only [leafErr]; rw [if_pos (by omega)]
    rw [hle] at hlf
    rw [hlf, if_pos (by decide)] at heq
    refine wp_rs fun K19 hK19 => ?_
    refine hF.v (x_fa0 fa27_0 rfl) fun a hF => ?_
    refine hF.v (x_load rfl (m_load flat3 (m4.cell (j := 0) rfl))) fun a hF => ?_
    refine hF.v (eqlT (by omega) rfl rfl) fun a hF => ?_
    refine hF.v (x_move rfl) fun a hF => ?_
    refine s_grd 47 hF rfl rfl rfl ?_
    refine hF.v (x_fa0 fa27_1 rfl) fun a hF => ?_
    refine s_grd 47 hF rfl rfl rfl ?_
    refine hF.v (x_load rfl (m_load flat3 (m4.cell (j := 1) rfl))) fun a hF => ?_
    refine s_grd 47 hF rfl rfl rfl ?_
    refine hF.v (lssF (by omega) rfl rfl) fun a hF => ?_
    refine s_grd 47 hF rfl rfl rfl ?_
    refine hF.v (x_move rfl) fun a hF => ?_
    refine s_grd 51 hF rfl rfl rfl ?_
    refine hF.v (x_fa0 fa27_1 rfl) fun a hF => ?_
    refine s_grd 51 hF rfl rfl rfl ?_
    refine hF.v (x_load rfl (m_load flat3 (m4.cell (j := 1) rfl))) fun a hF => ?_
    refine s_grd 51 hF rfl rfl rfl ?_
    refine hF.v (gtrT (by omega) rfl rfl) fun a hF => ?_
    refine s_grd 47 hF rfl rfl rfl ?_
    refine hF.v (x_pick (b := false) rfl rfl) fun a hF => ?_
    refine hF.v (x_pick (b := true) rfl rfl) fun a hF => ?_
    refine hF.v (x_assign rfl) fun a hF => ?_
    refine s_end (hK19 _ _ ?_)
    refine wp_if hF rfl ?_
    refine wp_rs fun K20 hK20 => ?_
    refine hF.v (x_assign rfl) fun a hF => ?_
    refine s_end (hK20 _ _ ?_)
    refine wp_ret (inb_ret (then_ret (res_slot hF rfl rfl ⟨_, rfl, ⟨by rw [heq], by rw [heq]; exact mg⟩, hK⟩)))
   ·
    have hlf := nodeErr_leaf (vars := vars) (n := n + 1) (d := d) (c := c) (by omega) (by omega)
    obtain ⟨z, m, rfl⟩ := hx.var_of hq.1
    have hzn : xn = z := hx.2.1
    have hle : leafErr vars (.var z m) = 0 := by simp only [leafErr]; rw [if_neg (by omega)]
    rw [hle] at hlf
    rw [hlf, if_neg (by decide)] at heq
    have hk9 := CT.kids_arT2 hx (by omega)
    rw [← hKC] at hk9
    refine wp_rs fun K21 hK21 => ?_
    refine hF.v (x_fa0 fa27_0 rfl) fun a hF => ?_
    refine hF.v (x_load rfl (m_load flat3 (m4.cell (j := 0) rfl))) fun a hF => ?_
    refine hF.v (eqlT (by omega) rfl rfl) fun a hF => ?_
    refine hF.v (x_move rfl) fun a hF => ?_
    refine s_grd 47 hF rfl rfl rfl ?_
    refine hF.v (x_fa0 fa27_1 rfl) fun a hF => ?_
    refine s_grd 47 hF rfl rfl rfl ?_
    refine hF.v (x_load rfl (m_load flat3 (m4.cell (j := 1) rfl))) fun a hF => ?_
    refine s_grd 47 hF rfl rfl rfl ?_
    refine hF.v (lssF (by omega) rfl rfl) fun a hF => ?_
    refine s_grd 47 hF rfl rfl rfl ?_
    refine hF.v (x_move rfl) fun a hF => ?_
    refine s_grd 51 hF rfl rfl rfl ?_
    refine hF.v (x_fa0 fa27_1 rfl) fun a hF => ?_
    refine s_grd 51 hF rfl rfl rfl ?_
    refine hF.v (x_load rfl (m_load flat3 (m4.cell (j := 1) rfl))) fun a hF => ?_
    refine s_grd 51 hF rfl rfl rfl ?_
    refine hF.v (gtrF (by omega) rfl rfl) fun a hF => ?_
    refine s_grd 47 hF rfl rfl rfl ?_
    refine hF.v (x_pick (b := false) rfl rfl) fun a hF => ?_
    refine hF.v (x_pick (b := true) rfl rfl) fun a hF => ?_
    refine hF.v (x_assign rfl) fun a hF => ?_
    refine s_end (hK21 _ _ ?_)
    refine wp_if hF rfl ?_
    refine wp_rs fun K22 hK22 => ?_
    refine hF.v (x_fa0 fa27_0 rfl) fun a hF => ?_
    refine hF.v (x_load rfl (m_load flat3 (m4.cell (j := 0) rfl))) fun a hF => ?_
    refine hF.v (eqlF (by omega) rfl rfl) fun a hF => ?_
    refine hF.v (x_assign rfl) fun a hF => ?_
    refine s_end (hK22 _ _ ?_)
    refine wp_if hF rfl ?_
    refine wp_rs fun K23 hK23 => ?_
    refine hF.v (x_fa0 fa27_0 rfl) fun a hF => ?_
    refine hF.v (x_load rfl (m_load flat3 (m4.cell (j := 0) rfl))) fun a hF => ?_
    refine hF.v (eqlF (by omega) rfl rfl) fun a hF => ?_
    refine hF.v (x_assign rfl) fun a hF => ?_
    refine s_end (hK23 _ _ ?_)
    refine wp_if hF rfl ?_
    refine wp_skip (hK3 _ _ ?_)
    refine wp_seq_k fun K24 hK24 => ?_
    refine wp_rs fun K25 hK25 => ?_
    refine hF.v (x_fa0 fa27_5 rfl) fun a hF => ?_
    refine hF.v (x_load rfl (m_load flat25 (m4.cell (j := 7) rfl))) fun a hF => ?_
    refine hF.v (x_len Try.underlying25 rfl) fun a hF => ?_
    refine hF.v (x_move rfl) fun a hF => ?_
    refine s_end (hK25 _ _ ?_)
    refine wp_block ?_
    refine wp_up nv (fun i a w => ∃ n2 : Nat, mayK vars (KC.drop i) (d + 1) n2 = mayK vars KC (d + 1) (n + 1) ∧ n2 ≤ 400 ∧ Blk w g 3 [.int .i64 (n2 : Int)] ∧ Below w0.heap.size w0 w ∧ Ktw g g w1 w ∧ Fs 108 a [(1, .int .i64 vars), (2, .int .i64 d), (3, .pointer (some ⟨g, 0, none⟩)), (92, .slice av nv cv), (93, .int .i64 (nv : Int)), (94, .int .i64 (i : Int))]) ⟨n + 1, rfl, by omega, mg, hB, hK, hF.sub _ rfl⟩ ?_
    repeat clear hF
    clear hB hK mg m4
    rintro i a w hi ⟨n2, hn2, hn3, mg, hB, hK, hF⟩ K' hK'
    have sB := hB.size
    have sK := hK.size
    have hgl := mg.lt
    refine wp_rs fun K26 hK26 => ?_
    refine hF.v (x_lss (b := decide (i < nv)) (decide_eq_decide.2 (by omega)) rfl rfl) fun a hF => ?_
    refine s_end (hK26 _ _ ?_)
    refine wp_seq_k fun K27 hK27 => ?_
    refine wp_iff hF rfl (fun hc95 => ?_) (fun hc95 => ?_)
    ·
     obtain ⟨b9, off9, c9, y, kd, hve, hyk, hry, hAb, hbl, hrow⟩ := hkid.row (i := i) (by omega)
     cases hve
     have hks := CT.kid_size (hKC ▸ hyk)
     have hkf := CT.fit_kid hfit (hKC ▸ hyk)
     have hma := mayK_at (vars := vars) (d := d + 1) (n := n2) hyk
     rw [hn2] at hma
     refine wp_skip (hK27 _ _ ?_)
     refine wp_seq_k fun K28 hK28 => ?_
     refine wp_block ?_
     refine wp_rs fun K29 hK29 => ?_
     refine hF.v (x_ixa rfl rfl (m_ixsK i Try.underlying25 el25.size rfl (by omega))) fun a hF => ?_
     refine hF.v (x_ldA wide27 (hrow _ (hB.block _ hbl)) rfl rfl) fun a hF => ?_
     refine s_alloc hF (by decide) zero27 fun w12 b13 a eb13 m13 B13 zb13 hF => ?_
     have sB13 := B13.size
     have hB := bt hB B13
     have hK := hK.below B13
     have mg := mg.old B13
     refine s_putW hF rfl rfl (size_wide wide27) m13 rfl hry.one fun w16 m13 o17 => ?_
     have so17 := o17.size
     have hB := hB.trans (o17.below (by omega))
     have hK := hK.only o17 (by omega)
     have mg := mg.only o17 (by omega)
     refine s_end (hK29 _ _ ?_)
     refine wp_rs fun K30 hK30 => ?_
     refine hF.v (x_ldW wide27 m13 rfl rfl) fun a hF => ?_
     refine hF.v (x_move rfl) fun a hF => ?_
     refine hF.v (x_move rfl) fun a hF => ?_
     refine hF.v (x_add (by omega) (by omega) rfl rfl) fun a hF => ?_
     refine hF.v (x_move rfl) fun a hF => ?_
     refine s_call (R := fun u w' => (u = .int .i64 (kd.mayT vars (d + 1) n2).1 ∧ Blk w' g 3 [.int .i64 (((kd.mayT vars (d + 1) n2).2 : Nat) : Int)]) ∧ Ktw g g w16 w') hF [_, _, _, _] E112 rfl (by decide) (ih kd y (by omega) hry hkf (d + 1) n2 w16 (by omega) (by omega) hn3 hB mg) ?_
     rintro _ w18 a ⟨⟨rfl, mg⟩, k19⟩ hF
     have sk19 := k19.size
     have hB := k19.under hB (by omega)
     have hK := hK.trans k19 (by omega)
     refine hF.v (x_assign rfl) fun a hF => ?_
     refine s_end (hK30 _ _ ?_)
     refine wp_rs fun K31 hK31 => ?_
     refine hF.v (x_move rfl) fun a hF => ?_
     refine hF.v (x_neq rfl rfl rfl) fun a hF => ?_
     refine s_end (hK31 _ _ ?_)
     refine wp_iff hF rfl (fun hc105 => ?_) (fun hc105 => ?_)
     ·
      rw [if_pos hc105] at hma
      rw [hma] at heq
      refine wp_rs fun K32 hK32 => ?_
      refine hF.v (x_move rfl) fun a hF => ?_
      refine hF.v (x_assign rfl) fun a hF => ?_
      refine s_end (hK32 _ _ ?_)
      refine wp_ret (inb_ret (then_ret (then_ret (inb_ret (then_ret (res_slot hF rfl rfl ⟨_, rfl, ⟨by rw [heq], by rw [heq]; exact mg⟩, hK⟩))))))
     ·
      rw [if_neg hc105] at hma
      have hmz := may_zero (vars := vars) kd y (d + 1) n2 hry (by omega)
      refine wp_skip (hK28 _ _ ?_)
      refine wp_region_lit ?_
      refine hF.v (x_addn (i + 1) (by omega) (by omega) rfl rfl) fun a hF => ?_
      refine hF.v (x_move rfl) fun a hF => ?_
      refine s_end (hK' _ _ (by omega) ⟨_, hma.symm, by omega, mg, hB, hK, hF.sub _ rfl⟩)
    ·
     obtain rfl : i = nv := by omega
     rw [List.drop_of_length_le (by omega), mayK] at hn2
     rw [← hn2] at heq
     refine wp_exit (hK24 _ _ ?_)
     refine wp_rs fun K33 hK33 => ?_
     refine hF.v (x_assign rfl) fun a hF => ?_
     refine s_end (hK33 _ _ ?_)
     refine wp_ret (res_slot hF rfl rfl ⟨_, rfl, ⟨by rw [heq], by rw [heq]; exact mg⟩, hK⟩)
   ·
    obtain ⟨l, m, rfl⟩ := hx.sort_of hq
    refine wp_rs fun K34 hK34 => ?_
    refine hF.v (x_fa0 fa27_0 rfl) fun a hF => ?_
    refine hF.v (x_load rfl (m_load flat3 (m4.cell (j := 0) rfl))) fun a hF => ?_
    refine hF.v (eqlF (by omega) rfl rfl) fun a hF => ?_
    refine hF.v (x_move rfl) fun a hF => ?_
    refine s_grdn 47 hF rfl rfl (by decide) fun a hF => ?_
    refine s_grdn 47 hF rfl rfl (by decide) fun a hF => ?_
    refine s_grdn 47 hF rfl rfl (by decide) fun a hF => ?_
    refine s_grdn 47 hF rfl rfl (by decide) fun a hF => ?_
    refine s_grdu 51 hF rfl rfl (by decide) fun a hF => ?_
    refine s_grdu 51 hF rfl rfl (by decide) fun a hF => ?_
    refine s_grdu 51 hF rfl rfl (by decide) fun a hF => ?_
    refine s_grdn 47 hF rfl rfl (by decide) fun a hF => ?_
    refine hF.v (x_pick (b := false) rfl rfl) fun a hF => ?_
    refine hF.v (x_assign rfl) fun a hF => ?_
    refine s_end (hK34 _ _ ?_)
    refine wp_if hF rfl ?_
    refine wp_rs fun K35 hK35 => ?_
    refine hF.v (x_fa0 fa27_0 rfl) fun a hF => ?_
    refine hF.v (x_load rfl (m_load flat3 (m4.cell (j := 0) rfl))) fun a hF => ?_
    refine hF.v (eqlT (by omega) rfl rfl) fun a hF => ?_
    refine hF.v (x_assign rfl) fun a hF => ?_
    refine s_end (hK35 _ _ ?_)
    refine wp_if hF rfl ?_
    refine wp_rs fun K36 hK36 => ?_
    refine hF.v (x_fa0 fa27_3 rfl) fun a hF => ?_
    refine hF.v (x_load rfl (m_loadP (vs := [_, _, _]) wide24 m4 rfl)) fun a hF => ?_
    refine hF.v (x_move rfl) fun a hF => ?_
    have hl9 : RLn w0 _ xl l := hx.2.1
    refine s_callB [_, _] hF E28 rfl (by decide) (rmay14 xl l vars w10 ((hl9.keep hB.size (fun k hk _ => hB.block k hk)).rl)) fun w20 a B21 hF => ?_
    have sB21 := B21.size
    have hK := hK.below B21
    have mg := mg.old B21
    refine hF.v (x_assign rfl) fun a hF => ?_
    refine s_end (hK36 _ _ ?_)
    have hcs : (CT.sort l m).mayT vars d n = ((chk 32 1048576 vars 1 100 l).1, n + 1) := by simp only [CT.mayT]; rw [nodeErr_leaf (by omega) (by omega)]; rfl
    refine wp_ret (inb_ret (then_ret (res_slot hF rfl rfl ⟨_, rfl, ⟨by rw [hcs], by rw [hcs]; exact mg⟩, hK⟩)))
   ·
    have hlf := nodeErr_leaf (vars := vars) (n := n + 1) (d := d) (c := c) (by omega) (by omega)
    obtain ⟨s, ls, m, rfl⟩ := hx.cst_of hq
    have hs9 : xs = s := hx.2.1
    have hls9 : RVn w0 _ xls ls := hx.2.2.1
    obtain ⟨la, lcp, hlv, _, _⟩ := hls9.form
    subst hs9 hlv
    refine wp_rs fun K37 hK37 => ?_
    refine hF.v (x_fa0 fa27_0 rfl) fun a hF => ?_
    refine hF.v (x_load rfl (m_load flat3 (m4.cell (j := 0) rfl))) fun a hF => ?_
    refine hF.v (eqlF (by omega) rfl rfl) fun a hF => ?_
    refine hF.v (x_move rfl) fun a hF => ?_
    refine s_grdn 47 hF rfl rfl (by decide) fun a hF => ?_
    refine s_grdn 47 hF rfl rfl (by decide) fun a hF => ?_
    refine s_grdn 47 hF rfl rfl (by decide) fun a hF => ?_
    refine s_grdn 47 hF rfl rfl (by decide) fun a hF => ?_
    refine s_grdu 51 hF rfl rfl (by decide) fun a hF => ?_
    refine s_grdu 51 hF rfl rfl (by decide) fun a hF => ?_
    refine s_grdu 51 hF rfl rfl (by decide) fun a hF => ?_
    refine s_grdn 47 hF rfl rfl (by decide) fun a hF => ?_
    refine hF.v (x_pick (b := false) rfl rfl) fun a hF => ?_
    refine hF.v (x_assign rfl) fun a hF => ?_
    refine s_end (hK37 _ _ ?_)
    refine wp_if hF rfl ?_
    refine wp_rs fun K38 hK38 => ?_
    refine hF.v (x_fa0 fa27_0 rfl) fun a hF => ?_
    refine hF.v (x_load rfl (m_load flat3 (m4.cell (j := 0) rfl))) fun a hF => ?_
    refine hF.v (eqlF (by omega) rfl rfl) fun a hF => ?_
    refine hF.v (x_assign rfl) fun a hF => ?_
    refine s_end (hK38 _ _ ?_)
    refine wp_if hF rfl ?_
    refine wp_rs fun K39 hK39 => ?_
    refine hF.v (x_fa0 fa27_0 rfl) fun a hF => ?_
    refine hF.v (x_load rfl (m_load flat3 (m4.cell (j := 0) rfl))) fun a hF => ?_
    refine hF.v (eqlT (by omega) rfl rfl) fun a hF => ?_
    refine hF.v (x_assign rfl) fun a hF => ?_
    refine s_end (hK39 _ _ ?_)
    refine wp_if hF rfl ?_
    refine wp_seq_k fun K40 hK40 => ?_
    rcases (show nameB xs = false ∨ nameB xs = true by cases nameB xs <;> simp) with hw | hw
    ·
     have hle : leafErr vars (.cst xs ls m) = 8 := by simp only [leafErr]; rw [if_pos hw]
     rw [hle] at hlf
     rw [hlf, if_pos (by decide)] at heq
     refine wp_rs fun K42 hK42 => ?_
     refine hF.v (x_fa0 fa27_2 rfl) fun a hF => ?_
     refine hF.v (x_load rfl (m_load flat9 (m4.cell (j := 2) rfl))) fun a hF => ?_
     refine s_callS [_] hF E81 rfl (by decide) ((rName32 xs w10 hfit.1).mono fun e w' h => ⟨by rw [h.1, hw], h.2⟩) fun a hF => ?_
     refine hF.v (x_not rfl) fun a hF => ?_
     refine s_end (hK42 _ _ ?_)
     refine wp_if hF rfl ?_
     refine wp_rs fun K43 hK43 => ?_
     refine hF.v (x_assign rfl) fun a hF => ?_
     refine s_end (hK43 _ _ ?_)
     refine wp_ret (then_ret (inb_ret (then_ret (res_slot hF rfl rfl ⟨_, rfl, ⟨by rw [heq], by rw [heq]; exact mg⟩, hK⟩))))
    ·
     skip
     refine wp_rs fun K44 hK44 => ?_
     refine hF.v (x_fa0 fa27_2 rfl) fun a hF => ?_
     refine hF.v (x_load rfl (m_load flat9 (m4.cell (j := 2) rfl))) fun a hF => ?_
     refine s_callS [_] hF E81 rfl (by decide) ((rName32 xs w10 hfit.1).mono fun e w' h => ⟨by rw [h.1, hw], h.2⟩) fun a hF => ?_
     refine hF.v (x_not rfl) fun a hF => ?_
     refine s_end (hK44 _ _ ?_)
     refine wp_if hF rfl ?_
     refine wp_skip (hK40 _ _ ?_)
     refine wp_seq_k fun K45 hK45 => ?_
     rcases (show 6 < (ls.length : Int) ∨ ¬ 6 < (ls.length : Int) by omega) with hv | hv
     ·
      have hle : leafErr vars (.cst xs ls m) = 2 := by simp only [leafErr]; rw [if_neg (by rw [hw]; decide), if_pos (by omega)]
      rw [hle] at hlf
      rw [hlf, if_pos (by decide)] at heq
      refine wp_rs fun K47 hK47 => ?_
      refine hF.v (x_fa0 fa27_4 rfl) fun a hF => ?_
      refine hF.v (x_load rfl (m_load flat22 (m4.cell (j := 6) rfl))) fun a hF => ?_
      refine hF.v (x_len Try.underlying22 rfl) fun a hF => ?_
      refine hF.v (gtrT (by omega) rfl rfl) fun a hF => ?_
      refine s_end (hK47 _ _ ?_)
      refine wp_if hF rfl ?_
      refine wp_rs fun K48 hK48 => ?_
      refine hF.v (x_assign rfl) fun a hF => ?_
      refine s_end (hK48 _ _ ?_)
      refine wp_ret (then_ret (inb_ret (then_ret (res_slot hF rfl rfl ⟨_, rfl, ⟨by rw [heq], by rw [heq]; exact mg⟩, hK⟩))))
     ·
      have hle0 : leafErr vars (.cst xs ls m) = fstErr vars ls := by simp only [leafErr]; rw [if_neg (by rw [hw]; decide), if_neg (by omega)]
      refine wp_rs fun K49 hK49 => ?_
      refine hF.v (x_fa0 fa27_4 rfl) fun a hF => ?_
      refine hF.v (x_load rfl (m_load flat22 (m4.cell (j := 6) rfl))) fun a hF => ?_
      refine hF.v (x_len Try.underlying22 rfl) fun a hF => ?_
      refine hF.v (gtrF (by omega) rfl rfl) fun a hF => ?_
      refine s_end (hK49 _ _ ?_)
      refine wp_if hF rfl ?_
      refine wp_skip (hK45 _ _ ?_)
      refine wp_rs fun K50 hK50 => ?_
      refine hF.v (x_fa0 fa27_4 rfl) fun a hF => ?_
      refine hF.v (x_load rfl (m_load flat22 (m4.cell (j := 6) rfl))) fun a hF => ?_
      refine hF.v (x_len Try.underlying22 rfl) fun a hF => ?_
      refine hF.v (x_move rfl) fun a hF => ?_
      refine s_end (hK50 _ _ ?_)
      refine wp_block ?_
      refine wp_up ls.length (fun i a w => leafErr vars (.cst xs ls m) = fstErr vars (ls.drop i) ∧ Blk w g 3 [.int .i64 ((n + 1 : Nat) : Int)] ∧ Blk w b4 27 [.int .i64 xk, .int .i64 xn, .string xs, .int .i64 xl.1, .int .i64 xl.2.1, xl.2.2, .slice la ls.length lcp, .slice av nv cv] ∧ Below w0.heap.size w0 w ∧ Ktw g g w1 w ∧ Fs 108 a [(1, .int .i64 vars), (2, .int .i64 d), (3, .pointer (some ⟨g, 0, none⟩)), (4, .pointer (some ⟨b4, 0, none⟩)), (78, .slice la ls.length lcp), (79, .int .i64 (ls.length : Int)), (80, .int .i64 (i : Int))]) ⟨by simpa using hle0, mg, m4, hB, hK, hF.sub _ rfl⟩ ?_
      have hb4 : b4 ≠ g ∧ w1.heap.size ≤ b4 := by omega
      repeat clear hF
      clear hB hK mg m4
      rintro i a w hi ⟨hlei, mg, m4, hB, hK, hF⟩ K' hK'
      have sB := hB.size
      have sK := hK.size
      have hgl := mg.lt
      have h4l := m4.lt
      refine wp_rs fun K51 hK51 => ?_
      refine hF.v (x_lss (b := decide (i < ls.length)) (decide_eq_decide.2 (by omega)) rfl rfl) fun a hF => ?_
      refine s_end (hK51 _ _ ?_)
      refine wp_seq_k fun K52 hK52 => ?_
      refine wp_iff hF rfl (fun hc81 => ?_) (fun hc81 => ?_)
      ·
       obtain ⟨b9, off9, c9, y, l, hve, hl, hry, hAb, hbl, hrow⟩ := hls9.row (i := i) (by omega)
       cases hve
       have hfe := fstErr_at (vars := vars) hl
       have h1y := hry.rl.one1
       refine wp_skip (hK52 _ _ ?_)
       refine wp_seq_k fun K53 hK53 => ?_
       refine wp_block ?_
       refine wp_rs fun K54 hK54 => ?_
       refine hF.v (x_ixa rfl rfl (m_ixsK i Try.underlying22 el22.size rfl (by omega))) fun a hF => ?_
       refine hF.v (x_ldA wide24 (hrow _ (hB.block _ hbl)) rfl rfl) fun a hF => ?_
       refine s_alloc hF (by decide) zero24 fun w22 b10 a eb10 m10 B23 zb10 hF => ?_
       have sB23 := B23.size
       have hB := bt hB B23
       have hK := hK.below B23
       have mg := mg.old B23
       have m4 := m4.old B23
       refine s_putW hF rfl rfl (size_wide wide24) m10 rfl (one_lc h1y) fun w26 m10 o27 => ?_
       have so27 := o27.size
       have hB := hB.trans (o27.below (by omega))
       have hK := hK.only o27 (by omega)
       have mg := mg.only o27 (by omega)
       have m4 := m4.only o27 (by omega)
       refine s_end (hK54 _ _ ?_)
       refine wp_rs fun K55 hK55 => ?_
       refine hF.v (x_ldW wide24 m10 rfl rfl) fun a hF => ?_
       refine hF.v (x_move rfl) fun a hF => ?_
       refine s_callB [_, _] hF E28 rfl (by decide) (rmay14 y l vars w26 ((hry.keep hB.size (fun k hk _ => hB.block k hk)).rl)) fun w28 a B29 hF => ?_
       have sB29 := B29.size
       have hB := bt hB B29
       have hK := hK.below B29
       have mg := mg.old B29
       have m4 := m4.old B29
       refine hF.v (x_assign rfl) fun a hF => ?_
       refine s_end (hK55 _ _ ?_)
       refine wp_rs fun K56 hK56 => ?_
       refine hF.v (x_move rfl) fun a hF => ?_
       refine hF.v (x_neq rfl rfl rfl) fun a hF => ?_
       refine s_end (hK56 _ _ ?_)
       refine wp_iff hF rfl (fun hc88 => ?_) (fun hc88 => ?_)
       ·
        rw [hfe, if_pos hc88] at hlei
        rw [hlei] at hlf
        rw [hlf, if_pos hc88] at heq
        refine wp_rs fun K57 hK57 => ?_
        refine hF.v (x_move rfl) fun a hF => ?_
        refine hF.v (x_assign rfl) fun a hF => ?_
        refine s_end (hK57 _ _ ?_)
        refine wp_ret (inb_ret (then_ret (then_ret (inb_ret (inb_ret (then_ret (res_slot hF rfl rfl ⟨_, rfl, ⟨by rw [heq], by rw [heq]; exact mg⟩, hK⟩)))))))
       ·
        rw [hfe, if_neg hc88] at hlei
        refine wp_skip (hK53 _ _ ?_)
        refine wp_region_lit ?_
        refine hF.v (x_addn (i + 1) (by omega) (by have := hfit.2; omega) rfl rfl) fun a hF => ?_
        refine hF.v (x_move rfl) fun a hF => ?_
        refine s_end (hK' _ _ (by omega) ⟨hlei, mg, m4, hB, hK, hF.sub _ rfl⟩)
      ·
       obtain rfl : i = ls.length := by omega
       rw [List.drop_length] at hlei
       rw [hlei] at hlf
       have hlf : nodeErr vars d (n + 1) (.cst xs ls m) = 0 := hlf
       rw [hlf, if_neg (by decide)] at heq
       have hk9 := CT.kids_arT2 hx (by omega)
       rw [← hKC] at hk9
       refine wp_exit (hK3 _ _ ?_)
       refine wp_seq_k fun K58 hK58 => ?_
       refine wp_rs fun K59 hK59 => ?_
       refine hF.v (x_fa0 fa27_5 rfl) fun a hF => ?_
       refine hF.v (x_load rfl (m_load flat25 (m4.cell (j := 7) rfl))) fun a hF => ?_
       refine hF.v (x_len Try.underlying25 rfl) fun a hF => ?_
       refine hF.v (x_move rfl) fun a hF => ?_
       refine s_end (hK59 _ _ ?_)
       refine wp_block ?_
       refine wp_up nv (fun i a w => ∃ n2 : Nat, mayK vars (KC.drop i) (d + 1) n2 = mayK vars KC (d + 1) (n + 1) ∧ n2 ≤ 400 ∧ Blk w g 3 [.int .i64 (n2 : Int)] ∧ Below w0.heap.size w0 w ∧ Ktw g g w1 w ∧ Fs 108 a [(1, .int .i64 vars), (2, .int .i64 d), (3, .pointer (some ⟨g, 0, none⟩)), (92, .slice av nv cv), (93, .int .i64 (nv : Int)), (94, .int .i64 (i : Int))]) ⟨n + 1, rfl, by omega, mg, hB, hK, hF.sub _ rfl⟩ ?_
       repeat clear hF
       clear hB hK mg m4
       rintro i a w hi ⟨n2, hn2, hn3, mg, hB, hK, hF⟩ K' hK'
       have sB := hB.size
       have sK := hK.size
       have hgl := mg.lt
       refine wp_rs fun K60 hK60 => ?_
       refine hF.v (x_lss (b := decide (i < nv)) (decide_eq_decide.2 (by omega)) rfl rfl) fun a hF => ?_
       refine s_end (hK60 _ _ ?_)
       refine wp_seq_k fun K61 hK61 => ?_
       refine wp_iff hF rfl (fun hc95 => ?_) (fun hc95 => ?_)
       ·
        obtain ⟨b9, off9, c9, y, kd, hve, hyk, hry, hAb, hbl, hrow⟩ := hkid.row (i := i) (by omega)
        cases hve
        have hks := CT.kid_size (hKC ▸ hyk)
        have hkf := CT.fit_kid hfit (hKC ▸ hyk)
        have hma := mayK_at (vars := vars) (d := d + 1) (n := n2) hyk
        rw [hn2] at hma
        refine wp_skip (hK61 _ _ ?_)
        refine wp_seq_k fun K62 hK62 => ?_
        refine wp_block ?_
        refine wp_rs fun K63 hK63 => ?_
        refine hF.v (x_ixa rfl rfl (m_ixsK i Try.underlying25 el25.size rfl (by omega))) fun a hF => ?_
        refine hF.v (x_ldA wide27 (hrow _ (hB.block _ hbl)) rfl rfl) fun a hF => ?_
        refine s_alloc hF (by decide) zero27 fun w30 b13 a eb13 m13 B31 zb13 hF => ?_
        have sB31 := B31.size
        have hB := bt hB B31
        have hK := hK.below B31
        have mg := mg.old B31
        refine s_putW hF rfl rfl (size_wide wide27) m13 rfl hry.one fun w34 m13 o35 => ?_
        have so35 := o35.size
        have hB := hB.trans (o35.below (by omega))
        have hK := hK.only o35 (by omega)
        have mg := mg.only o35 (by omega)
        refine s_end (hK63 _ _ ?_)
        refine wp_rs fun K64 hK64 => ?_
        refine hF.v (x_ldW wide27 m13 rfl rfl) fun a hF => ?_
        refine hF.v (x_move rfl) fun a hF => ?_
        refine hF.v (x_move rfl) fun a hF => ?_
        refine hF.v (x_add (by omega) (by omega) rfl rfl) fun a hF => ?_
        refine hF.v (x_move rfl) fun a hF => ?_
        refine s_call (R := fun u w' => (u = .int .i64 (kd.mayT vars (d + 1) n2).1 ∧ Blk w' g 3 [.int .i64 (((kd.mayT vars (d + 1) n2).2 : Nat) : Int)]) ∧ Ktw g g w34 w') hF [_, _, _, _] E112 rfl (by decide) (ih kd y (by omega) hry hkf (d + 1) n2 w34 (by omega) (by omega) hn3 hB mg) ?_
        rintro _ w36 a ⟨⟨rfl, mg⟩, k37⟩ hF
        have sk37 := k37.size
        have hB := k37.under hB (by omega)
        have hK := hK.trans k37 (by omega)
        refine hF.v (x_assign rfl) fun a hF => ?_
        refine s_end (hK64 _ _ ?_)
        refine wp_rs fun K65 hK65 => ?_
        refine hF.v (x_move rfl) fun a hF => ?_
        refine hF.v (x_neq rfl rfl rfl) fun a hF => ?_
        refine s_end (hK65 _ _ ?_)
        refine wp_iff hF rfl (fun hc105 => ?_) (fun hc105 => ?_)
        ·
         rw [if_pos hc105] at hma
         rw [hma] at heq
         refine wp_rs fun K66 hK66 => ?_
         refine hF.v (x_move rfl) fun a hF => ?_
         refine hF.v (x_assign rfl) fun a hF => ?_
         refine s_end (hK66 _ _ ?_)
         refine wp_ret (inb_ret (then_ret (then_ret (inb_ret (then_ret (res_slot hF rfl rfl ⟨_, rfl, ⟨by rw [heq], by rw [heq]; exact mg⟩, hK⟩))))))
        ·
         rw [if_neg hc105] at hma
         have hmz := may_zero (vars := vars) kd y (d + 1) n2 hry (by omega)
         refine wp_skip (hK62 _ _ ?_)
         refine wp_region_lit ?_
         refine hF.v (x_addn (i + 1) (by omega) (by omega) rfl rfl) fun a hF => ?_
         refine hF.v (x_move rfl) fun a hF => ?_
         refine s_end (hK' _ _ (by omega) ⟨_, hma.symm, by omega, mg, hB, hK, hF.sub _ rfl⟩)
       ·
        obtain rfl : i = nv := by omega
        rw [List.drop_of_length_le (by omega), mayK] at hn2
        rw [← hn2] at heq
        refine wp_exit (hK58 _ _ ?_)
        refine wp_rs fun K67 hK67 => ?_
        refine hF.v (x_assign rfl) fun a hF => ?_
        refine s_end (hK67 _ _ ?_)
        refine wp_ret (res_slot hF rfl rfl ⟨_, rfl, ⟨by rw [heq], by rw [heq]; exact mg⟩, hK⟩)
   ·
    have hlf := nodeErr_leaf (vars := vars) (n := n + 1) (d := d) (c := c) (by omega) (by omega)
    rw [leafErr_rest hx hq] at hlf
    rw [hlf, if_neg (by decide)] at heq
    have hk9 := CT.kids_arT2 hx (by omega)
    rw [← hKC] at hk9
    refine wp_rs fun K68 hK68 => ?_
    refine hF.v (x_fa0 fa27_0 rfl) fun a hF => ?_
    refine hF.v (x_load rfl (m_load flat3 (m4.cell (j := 0) rfl))) fun a hF => ?_
    refine hF.v (eqlF (by omega) rfl rfl) fun a hF => ?_
    refine hF.v (x_move rfl) fun a hF => ?_
    refine s_grdn 47 hF rfl rfl (by decide) fun a hF => ?_
    refine s_grdn 47 hF rfl rfl (by decide) fun a hF => ?_
    refine s_grdn 47 hF rfl rfl (by decide) fun a hF => ?_
    refine s_grdn 47 hF rfl rfl (by decide) fun a hF => ?_
    refine s_grdu 51 hF rfl rfl (by decide) fun a hF => ?_
    refine s_grdu 51 hF rfl rfl (by decide) fun a hF => ?_
    refine s_grdu 51 hF rfl rfl (by decide) fun a hF => ?_
    refine s_grdn 47 hF rfl rfl (by decide) fun a hF => ?_
    refine hF.v (x_pick (b := false) rfl rfl) fun a hF => ?_
    refine hF.v (x_assign rfl) fun a hF => ?_
    refine s_end (hK68 _ _ ?_)
    refine wp_if hF rfl ?_
    refine wp_rs fun K69 hK69 => ?_
    refine hF.v (x_fa0 fa27_0 rfl) fun a hF => ?_
    refine hF.v (x_load rfl (m_load flat3 (m4.cell (j := 0) rfl))) fun a hF => ?_
    refine hF.v (eqlF (by omega) rfl rfl) fun a hF => ?_
    refine hF.v (x_assign rfl) fun a hF => ?_
    refine s_end (hK69 _ _ ?_)
    refine wp_if hF rfl ?_
    refine wp_rs fun K70 hK70 => ?_
    refine hF.v (x_fa0 fa27_0 rfl) fun a hF => ?_
    refine hF.v (x_load rfl (m_load flat3 (m4.cell (j := 0) rfl))) fun a hF => ?_
    refine hF.v (eqlF (by omega) rfl rfl) fun a hF => ?_
    refine hF.v (x_assign rfl) fun a hF => ?_
    refine s_end (hK70 _ _ ?_)
    refine wp_if hF rfl ?_
    refine wp_skip (hK3 _ _ ?_)
    refine wp_seq_k fun K71 hK71 => ?_
    refine wp_rs fun K72 hK72 => ?_
    refine hF.v (x_fa0 fa27_5 rfl) fun a hF => ?_
    refine hF.v (x_load rfl (m_load flat25 (m4.cell (j := 7) rfl))) fun a hF => ?_
    refine hF.v (x_len Try.underlying25 rfl) fun a hF => ?_
    refine hF.v (x_move rfl) fun a hF => ?_
    refine s_end (hK72 _ _ ?_)
    refine wp_block ?_
    refine wp_up nv (fun i a w => ∃ n2 : Nat, mayK vars (KC.drop i) (d + 1) n2 = mayK vars KC (d + 1) (n + 1) ∧ n2 ≤ 400 ∧ Blk w g 3 [.int .i64 (n2 : Int)] ∧ Below w0.heap.size w0 w ∧ Ktw g g w1 w ∧ Fs 108 a [(1, .int .i64 vars), (2, .int .i64 d), (3, .pointer (some ⟨g, 0, none⟩)), (92, .slice av nv cv), (93, .int .i64 (nv : Int)), (94, .int .i64 (i : Int))]) ⟨n + 1, rfl, by omega, mg, hB, hK, hF.sub _ rfl⟩ ?_
    repeat clear hF
    clear hB hK mg m4
    rintro i a w hi ⟨n2, hn2, hn3, mg, hB, hK, hF⟩ K' hK'
    have sB := hB.size
    have sK := hK.size
    have hgl := mg.lt
    refine wp_rs fun K73 hK73 => ?_
    refine hF.v (x_lss (b := decide (i < nv)) (decide_eq_decide.2 (by omega)) rfl rfl) fun a hF => ?_
    refine s_end (hK73 _ _ ?_)
    refine wp_seq_k fun K74 hK74 => ?_
    refine wp_iff hF rfl (fun hc95 => ?_) (fun hc95 => ?_)
    ·
     obtain ⟨b9, off9, c9, y, kd, hve, hyk, hry, hAb, hbl, hrow⟩ := hkid.row (i := i) (by omega)
     cases hve
     have hks := CT.kid_size (hKC ▸ hyk)
     have hkf := CT.fit_kid hfit (hKC ▸ hyk)
     have hma := mayK_at (vars := vars) (d := d + 1) (n := n2) hyk
     rw [hn2] at hma
     refine wp_skip (hK74 _ _ ?_)
     refine wp_seq_k fun K75 hK75 => ?_
     refine wp_block ?_
     refine wp_rs fun K76 hK76 => ?_
     refine hF.v (x_ixa rfl rfl (m_ixsK i Try.underlying25 el25.size rfl (by omega))) fun a hF => ?_
     refine hF.v (x_ldA wide27 (hrow _ (hB.block _ hbl)) rfl rfl) fun a hF => ?_
     refine s_alloc hF (by decide) zero27 fun w38 b13 a eb13 m13 B39 zb13 hF => ?_
     have sB39 := B39.size
     have hB := bt hB B39
     have hK := hK.below B39
     have mg := mg.old B39
     refine s_putW hF rfl rfl (size_wide wide27) m13 rfl hry.one fun w42 m13 o43 => ?_
     have so43 := o43.size
     have hB := hB.trans (o43.below (by omega))
     have hK := hK.only o43 (by omega)
     have mg := mg.only o43 (by omega)
     refine s_end (hK76 _ _ ?_)
     refine wp_rs fun K77 hK77 => ?_
     refine hF.v (x_ldW wide27 m13 rfl rfl) fun a hF => ?_
     refine hF.v (x_move rfl) fun a hF => ?_
     refine hF.v (x_move rfl) fun a hF => ?_
     refine hF.v (x_add (by omega) (by omega) rfl rfl) fun a hF => ?_
     refine hF.v (x_move rfl) fun a hF => ?_
     refine s_call (R := fun u w' => (u = .int .i64 (kd.mayT vars (d + 1) n2).1 ∧ Blk w' g 3 [.int .i64 (((kd.mayT vars (d + 1) n2).2 : Nat) : Int)]) ∧ Ktw g g w42 w') hF [_, _, _, _] E112 rfl (by decide) (ih kd y (by omega) hry hkf (d + 1) n2 w42 (by omega) (by omega) hn3 hB mg) ?_
     rintro _ w44 a ⟨⟨rfl, mg⟩, k45⟩ hF
     have sk45 := k45.size
     have hB := k45.under hB (by omega)
     have hK := hK.trans k45 (by omega)
     refine hF.v (x_assign rfl) fun a hF => ?_
     refine s_end (hK77 _ _ ?_)
     refine wp_rs fun K78 hK78 => ?_
     refine hF.v (x_move rfl) fun a hF => ?_
     refine hF.v (x_neq rfl rfl rfl) fun a hF => ?_
     refine s_end (hK78 _ _ ?_)
     refine wp_iff hF rfl (fun hc105 => ?_) (fun hc105 => ?_)
     ·
      rw [if_pos hc105] at hma
      rw [hma] at heq
      refine wp_rs fun K79 hK79 => ?_
      refine hF.v (x_move rfl) fun a hF => ?_
      refine hF.v (x_assign rfl) fun a hF => ?_
      refine s_end (hK79 _ _ ?_)
      refine wp_ret (inb_ret (then_ret (then_ret (inb_ret (then_ret (res_slot hF rfl rfl ⟨_, rfl, ⟨by rw [heq], by rw [heq]; exact mg⟩, hK⟩))))))
     ·
      rw [if_neg hc105] at hma
      have hmz := may_zero (vars := vars) kd y (d + 1) n2 hry (by omega)
      refine wp_skip (hK75 _ _ ?_)
      refine wp_region_lit ?_
      refine hF.v (x_addn (i + 1) (by omega) (by omega) rfl rfl) fun a hF => ?_
      refine hF.v (x_move rfl) fun a hF => ?_
      refine s_end (hK' _ _ (by omega) ⟨_, hma.symm, by omega, mg, hB, hK, hF.sub _ rfl⟩)
    ·
     obtain rfl : i = nv := by omega
     rw [List.drop_of_length_le (by omega), mayK] at hn2
     rw [← hn2] at heq
     refine wp_exit (hK71 _ _ ?_)
     refine wp_rs fun K80 hK80 => ?_
     refine hF.v (x_assign rfl) fun a hF => ?_
     refine s_end (hK80 _ _ ?_)
     refine wp_ret (res_slot hF rfl rfl ⟨_, rfl, ⟨by rw [heq], by rw [heq]; exact mg⟩, hK⟩)
end Go.Proofs.Ytbhhbfdoadecgaa

namespace Go.Proofs.Ytbhhbfdoadecgaa
open Go.RowKit Go.Shelf
set_option linter.unusedVariables false
set_option linter.unusedSimpArgs false

/-- What whole lets pass. -/
def CT.wf (c : CT) : Prop := c.okV 6 ∧ c.size ≤ 400 ∧ c.dep ≤ 64
theorem CT.wf.ok {c : CT} (h : c.wf) : c.ok := ⟨by have := h.2.1; omega, by have := h.2.2; omega⟩
def PT.loose : PT → Int → Int
 | .var n, d => if d ≤ n then min (n - d + 1) 9223372036854775807 else 0
 | .two k p q, d => max (p.loose d) (q.loose (d + if k = 3 ∨ k = 4 then 1 else 0))
 | .lt p q r, d => max (p.loose d) (max (q.loose d) (r.loose (d + 1)))
 | .sort _, _ => 0
 | .cst _ _, _ => 0
 | .odd _, _ => 0
def mostL (ps : List Int) : Int := if ps.length = 0 then 0 else mxl ps
def Glo (c : CT) (d : Int) (ps : List Int) : Int := match c with
 | .var n _ => if d ≤ n then min (n - d + 1) 9223372036854775807 else 0
 | _ => mostL ps
set_option maxRecDepth 100000 in
set_option maxHeartbeats 400000 in
theorem rMay30 (vars : Int) (c : CT) (x : C8) (w0 : World) (hx : RC w0 (fun k => k < w0.heap.size) c x) (hfit : c.fit) : Calls Try.prog 67 #[tv x, .int .i64 vars] w0 fun e w' => e = .returned (.int .i64 (c.mayT vars 1 0).1) ∧ Below w0.heap.size w0 w' := by
 have hB := Below.refl w0.heap.size w0
 have sB := hB.size
 refine calls_fs 9 [(0, tv x), (1, .int .i64 vars)] Try.func67 rfl rfl rfl rfl rfl fun a hF => ?_
 refine wp_rs fun K1 hK1 => ?_
 refine s_box (tc x) hF (by decide) rfl rfl fun w2 b2 a eb2 m2 B3 zb2 hF => ?_
 have sB3 := B3.size
 have hB := bt hB B3
 refine hF.v (x_assign rfl) fun a hF => ?_
 refine s_end (hK1 _ _ ?_)
 refine wp_rs fun K2 hK2 => ?_
 refine s_alloc1 hF (by decide) zero3 rfl fun w4 b5 a eb5 m5 B5 zb5 hF => ?_
 have sB5 := B5.size
 have hB := bt hB B5
 have m2 := m2.old B5
 refine s_put hF rfl rfl flat3 m5 (by first | (simp; done) | (simp [tc, lc]; done) | decide) rfl fun w6 m5 o7 => ?_
 have so7 := o7.size
 have hB := hB.trans (o7.below (by omega))
 have m2 := m2.only o7 (by omega)
 refine s_end (hK2 _ _ ?_)
 refine wp_rs fun K3 hK3 => ?_
 refine hF.v (x_ldW wide27 m2 rfl rfl) fun a hF => ?_
 refine hF.v (x_move rfl) fun a hF => ?_
 refine s_call (R := fun u w' => (u = .int .i64 (c.mayT vars 1 0).1 ∧ Blk w' b5 3 [.int .i64 (((c.mayT vars 1 0).2 : Nat) : Int)]) ∧ Ktw b5 b5 w6 w') hF [_, _, _, _] E112 rfl (by decide) (rmay73 vars w0 b5 (by omega) (c.size + 1) c x (by omega) hx hfit 1 0 w6 (by decide) (by decide) (by decide) hB m5) ?_
 rintro _ w8 a ⟨⟨rfl, m5⟩, k9⟩ hF
 have sk9 := k9.size
 have hB := k9.under hB (by omega)
 refine hF.v (x_assign rfl) fun a hF => ?_
 refine s_end (hK3 _ _ ?_)
 refine wp_ret (res_slot hF rfl rfl ⟨rfl, hB⟩)

def CT.looseR (c : CT) : Int := if c.ok then c.ess.loose 0 else 0

end Go.Proofs.Ytbhhbfdoadecgaa

namespace Go.Proofs.Ytbhhbfdoadecgaa
open Go.RowKit Go.Shelf
set_option linter.unusedVariables false
set_option linter.unusedSimpArgs false

def szs (ks : List CT) : Nat := (ks.map CT.size).sum
/-- What count tells: that it goes, and how many there are then; that it doesn't. -/
def cntR (c : CT) (d : Int) (n : Nat) (b : Bool) (m : Nat) : Prop := m ≤ 20001 ∧ (b = true → m = n + c.size ∧ d + c.dep ≤ 2001 ∧ (m ≤ 20000 ∨ c.size = 1)) ∧ (b = false → ¬ (n + c.size ≤ 20000 ∧ d + c.dep ≤ 2001))

end Go.Proofs.Ytbhhbfdoadecgaa

namespace Go.Proofs.Ytbhhbfdoadecgaa
open Go.RowKit Go.Shelf
set_option linter.unusedVariables false
set_option linter.unusedSimpArgs false

def dps (ks : List CT) : Nat := ks.foldl (fun m k => max m k.dep) 0
end Go.Proofs.Ytbhhbfdoadecgaa

namespace Go.Proofs.Ytbhhbfdoadecgaa
open Go.RowKit Go.Shelf
set_option linter.unusedVariables false
set_option linter.unusedSimpArgs false

def CT.leaves : CT → Int → List (CT × Int)
 | .two k a b m, d => a.leaves (d + (CT.two k a b m).bnd 0) ++ b.leaves (d + (CT.two k a b m).bnd 1)
 | .lt a b c m, d => a.leaves (d + (CT.lt a b c m).bnd 0) ++ (b.leaves (d + (CT.lt a b c m).bnd 1) ++ c.leaves (d + (CT.lt a b c m).bnd 2))
 | c, d => [(c, d)]
/-- The leaves of the first i kids. -/
def CT.lvK (c : CT) (d : Int) : Nat → List (CT × Int)
 | 0 => []
 | i + 1 => c.lvK d i ++ (match c.kids[i]? with | some k => k.leaves (d + c.bnd i) | none => [])
def enc9 (e : C8 × Int) : List Value := tc e.1 ++ [.int .i64 e.2]
/-- The elements are these leaves, which lie where w0's own blocks lie. -/
def LTw (w0 : World) (es : List (C8 × Int)) (ls : List (CT × Int)) : Prop := es.length = ls.length ∧ ∀ (j : Nat) e l, es[j]? = some e → ls[j]? = some l → RC w0 (fun k => k < w0.heap.size) l.1 e.1 ∧ e.2 = l.2
theorem LTw.nil (w0 : World) : LTw w0 [] [] := ⟨rfl, fun j e l h => by simp at h⟩
theorem LTw.snoc {w0 : World} {es : List (C8 × Int)} {ls : List (CT × Int)} {c : CT} {x : C8} {d : Int} (h : LTw w0 es ls) (hx : RC w0 (fun k => k < w0.heap.size) c x) : LTw w0 (es ++ [(x, d)]) (ls ++ [(c, d)]) := by
 refine ⟨by simp [h.1], fun j e l e1 e2 => ?_⟩
 rcases Nat.lt_or_ge j es.length with hj | hj
 ·
  rw [List.getElem?_append_left hj] at e1
  rw [List.getElem?_append_left (by have := h.1; omega)] at e2
  exact h.2 j e l e1 e2
 ·
  rw [List.getElem?_append_right hj] at e1
  rw [List.getElem?_append_right (by have := h.1; omega)] at e2
  have h0 : j - es.length = 0 := by have := (List.getElem?_eq_some_iff.1 e1).1; simp at this; omega
  have h1 : j - ls.length = 0 := by have := h.1; omega
  rw [h0] at e1
  rw [h1] at e2
  simp at e1 e2
  subst e1 e2
  exact ⟨hx, rfl⟩
end Go.Proofs.Ytbhhbfdoadecgaa

namespace Go.Proofs.Ytbhhbfdoadecgaa
open Go.RowKit Go.Shelf
set_option linter.unusedVariables false
set_option linter.unusedSimpArgs false

def lstL (n : Int) (l : CT × Int) : Int := max n (match l.1 with | .var k _ => if l.2 ≤ k then min (k - l.2 + 1) 9223372036854775807 else 0 | _ => 0)
def isC (s : ByteArray) : CT → Bool
 | .cst t _ _ => decide (t = s)
 | _ => false
def CT.menR (c : CT) (s : ByteArray) : Bool := decide c.ok && (c.leaves 0).any (fun l => isC s l.1)

end Go.Proofs.Ytbhhbfdoadecgaa

namespace Go.Proofs.Ytbhhbfdoadecgaa
set_option linter.unusedVariables false
set_option linter.unusedSimpArgs false

/-- Lifting without an end: by b what is d or more. -/
def PT.sh (b : Int) : PT → Int → PT
 | .var n, d => .var (if d ≤ n then n + b else n)
 | .two k p q, d => .two k (p.sh b d) (q.sh b (d + if k = 3 ∨ k = 4 then 1 else 0))
 | .lt p q r, d => .lt (p.sh b d) (q.sh b d) (r.sh b (d + 1))
 | .sort o, _ => .sort o
 | .cst s os, _ => .cst s os
 | .odd k, _ => .odd k
def PT.pu (v : PT) : PT → Int → PT
 | .var n, d => if n = d then v.sh d 0 else .var (if d < n then n - 1 else n)
 | .two k p q, d => .two k (PT.pu v p d) (PT.pu v q (d + if k = 3 ∨ k = 4 then 1 else 0))
 | .lt p q r, d => .lt (PT.pu v p d) (PT.pu v q d) (PT.pu v r (d + 1))
 | .sort o, _ => .sort o
 | .cst s os, _ => .cst s os
 | .odd k, _ => .odd k
/-- Its variables are from 0 to M. -/
def PT.bd (M : Int) : PT → Prop
 | .var n => 0 ≤ n ∧ n ≤ M
 | .two _ p q => p.bd M ∧ q.bd M
 | .lt p q r => p.bd M ∧ q.bd M ∧ r.bd M
 | _ => True
theorem PT.bd.mono {M N : Int} (h : M ≤ N) : ∀ {p : PT}, p.bd M → p.bd N
 | .var n, h1 => ⟨h1.1, by have := h1.2; omega⟩
 | .two _ p q, h1 => ⟨PT.bd.mono h h1.1, PT.bd.mono h h1.2⟩
 | .lt p q r, h1 => ⟨PT.bd.mono h h1.1, PT.bd.mono h h1.2.1, PT.bd.mono h h1.2.2⟩
 | .sort _, _ => trivial
 | .cst _ _, _ => trivial
 | .odd _, _ => trivial
/-- How often variable d stands in it, as seen beneath d binders. -/
def PT.occ : PT → Int → Nat
 | .var n, d => if n = d then 1 else 0
 | .two k p q, d => p.occ d + q.occ (d + if k = 3 ∨ k = 4 then 1 else 0)
 | .lt p q r, d => p.occ d + q.occ d + r.occ (d + 1)
 | _, _ => 0
end Go.Proofs.Ytbhhbfdoadecgaa

namespace Go.Proofs.Ytbhhbfdoadecgaa
open Go.RowKit Go.Shelf
set_option linter.unusedVariables false
set_option linter.unusedSimpArgs false

def occL (l : CT × Int) : Nat := match l.1 with | .var n _ => if n = l.2 then 1 else 0 | _ => 0
end Go.Proofs.Ytbhhbfdoadecgaa

namespace Go.Proofs.Ytbhhbfdoadecgaa
open Go.RowKit Go.Shelf
set_option linter.unusedVariables false
set_option linter.unusedSimpArgs false

/-- What formOf tells. -/
def FF (w0 : World) (x : C3) (l : Lv) (w' : World) (c : Int) (vk : Value) (ks : List Int) : Prop := Rd w' vk 1 ks.length (ints ks) ∧ (¬ sndL l → c = 0 ∧ ks = []) ∧ ∀ s, RS w0 s x → s.good → c = nfC s ∧ ks = nfK s

set_option maxRecDepth 100000 in
set_option maxHeartbeats 1600000 in
theorem formOf38 (x : C3) (l : Lv) (w0 : World) (hL : RL w0 x l) : Calls Try.prog 106 #[lv x] w0 fun e w' => ∃ v, e = .returned v ∧ (∃ c vk ks, v = .tuple #[.agg [.int .i64 c, vk].toArray, .bool (decide (sndL l))] ∧ FF w0 x l w' c vk ks) ∧ Below w0.heap.size w0 w' := by
 have hB := Below.refl w0.heap.size w0
 have sB := hB.size
 refine calls_fs 13 [(0, lv x)] Try.func106 rfl rfl rfl rfl rfl fun a hF => ?_
 refine wp_rs fun K1 hK1 => ?_
 refine s_box (lc x) hF (by decide) rfl rfl fun w2 b1 a eb1 m1 B3 zb1 hF => ?_
 have sB3 := B3.size
 have hB := bt hB B3
 refine s_alloc hF (by decide) zero59 fun w4 b2 a eb2 m2 B5 zb2 hF => ?_
 have sB5 := B5.size
 have hB := bt hB B5
 have m1 := m1.old B5
 refine hF.v (x_assign rfl) fun a hF => ?_
 refine s_end (hK1 _ _ ?_)
 refine wp_seq_k fun K2 hK2 => ?_
 rcases (show decide (sndL l) = false ∨ decide (sndL l) = true by cases decide (sndL l) <;> simp) with hd | hd
 ·
  have hn : ¬ sndL l := of_decide_eq_false hd
  refine wp_rs fun K4 hK4 => ?_
  refine hF.v (x_ldW wide24 m1 rfl rfl) fun a hF => ?_
  refine s_callB [_] hF E136 rfl (by decide) (isSound49 x l w4 (hL.old hB)) fun w6 a B7 hF => ?_
  have sB7 := B7.size
  have hB := bt hB B7
  have m2 := m2.old B7
  rw [hd] at hF
  refine hF.v (x_not rfl) fun a hF => ?_
  refine s_end (hK4 _ _ ?_)
  refine wp_if hF rfl ?_
  refine wp_rs fun K5 hK5 => ?_
  refine hF.v (x_build (vs := []) rfl (b59_ _)) fun a hF => ?_
  refine s_putW hF rfl rfl (size_wide wide59) m2 rfl (one2 rfl) fun w8 m2 o9 => ?_
  have so9 := o9.size
  have hB := hB.trans (o9.below (by omega))
  refine hF.v (x_assign rfl) fun a hF => ?_
  refine s_end (hK5 _ _ ?_)
  refine wp_ret (then_ret (res_ct hF rfl rfl m2 wide59 rfl ⟨_, rfl, ⟨_, _, [], by rw [hd], Rd.nil _ _, fun _ => ⟨rfl, rfl⟩, fun s hs hsg => absurd (rs_snd hL hs hsg) hn⟩, hB⟩))
 ·
  have hn : sndL l := of_decide_eq_true hd
  obtain ⟨s, hs, hsg⟩ := sound_sl hL hn
  refine wp_rs fun K6 hK6 => ?_
  refine hF.v (x_ldW wide24 m1 rfl rfl) fun a hF => ?_
  refine s_callB [_] hF E136 rfl (by decide) (isSound49 x l w4 (hL.old hB)) fun w10 a B11 hF => ?_
  have sB11 := B11.size
  have hB := bt hB B11
  have m1 := m1.old B11
  have m2 := m2.old B11
  rw [hd] at hF
  refine hF.v (x_not rfl) fun a hF => ?_
  refine s_end (hK6 _ _ ?_)
  refine wp_if hF rfl ?_
  refine wp_skip (hK2 _ _ ?_)
  refine wp_rs fun K7 hK7 => ?_
  refine s_alloc hF (by decide) zero59 fun w12 b4 a eb4 m4 B13 zb4 hF => ?_
  have sB13 := B13.size
  have hB := bt hB B13
  have m1 := m1.old B13
  have m2 := m2.old B13
  refine s_end (hK7 _ _ ?_)
  refine wp_rs fun K8 hK8 => ?_
  refine hF.v (x_ldW wide24 m1 rfl rfl) fun a hF => ?_
  have hA : FA 126 w0.heap.size w12 b4 b4 (.slice none 0 0) 0 [] := FA.start m4 (by omega)
  refine s_call (R := fun u w' => (u = .tuple #[] ∧ ∃ v' o', FA 126 w0.heap.size w' b4 o' v' (rc s 0 0) (nfK s) ∧ (o' = b4 ∨ w12.heap.size ≤ o')) ∧ Ktw b4 b4 w12 w') hF [_, _, _] E137 rfl (by decide) (raise59 w0 b4 s x hs hsg.2.2 0 b4 _ 0 [] w12 (by decide) (by decide) (by decide) (by decide) (by decide) hB hA) ?_
  rintro _ w14 a ⟨⟨rfl, v2, o2, hA, ho2⟩, k15⟩ hF
  have sk15 := k15.size
  have hB := k15.under hB (by omega)
  have m2 := m2.k2 k15 (by omega)
  have hlo := hA.lo
  refine s_end (hK8 _ _ ?_)
  refine wp_rs fun K9 hK9 => ?_
  refine s_call (R := fun u w' => (u = .tuple #[] ∧ FA 126 w0.heap.size w' b4 o2 v2 (setl (rc s 0 0) (nfK s)) (nfK s)) ∧ Ktw b4 o2 w14 w') hF [_] E109 rfl (by decide) (settle47 w0.heap.size b4 o2 v2 _ (nfK s) w14 hA (by have := nfK_len s hsg; omega) (nfK_lo s) (rc_bd (by decide) (by decide) (by decide) (by decide)).1) ?_
  rintro _ w16 a ⟨⟨rfl, hA⟩, k17⟩ hF
  have sk17 := k17.size
  have hB := k17.under hB (by omega)
  have m2 := m2.k2 k17 (by omega)
  rw [nfC_setl] at hA
  have m4 := hA.blk
  have hlo2 := hA.lo
  have h1v := hA.rd.one
  refine s_end (hK9 _ _ ?_)
  refine wp_rs fun K10 hK10 => ?_
  refine hF.v (x_ldW wide59 m4 rfl rfl) fun a hF => ?_
  refine s_putW hF rfl rfl (size_wide wide59) m2 rfl (one2 h1v) fun w18 m2 o19 => ?_
  have so19 := o19.size
  have hB := hB.trans (o19.below (by omega))
  have hA := hA.only o19 (by omega)
  refine hF.v (x_assign rfl) fun a hF => ?_
  refine s_end (hK10 _ _ ?_)
  refine wp_ret (res_ct hF rfl rfl m2 wide59 rfl ⟨_, rfl, ⟨_, v2, nfK s, by rw [hd], hA.rd, fun h => absurd hn h, fun s' hs' _ => by rw [RS.inj hs hs']; exact ⟨rfl, rfl⟩⟩, hB⟩)

set_option maxRecDepth 100000 in
set_option maxHeartbeats 1600000 in
theorem same44 (c d : Int) (v u : Value) (ks ls : List Int) (w0 : World) (hl : ks.length ≤ 9223372036854775807) (hV : Rd w0 v 1 ks.length (ints ks)) (hU : Rd w0 u 1 ls.length (ints ls)) : Calls Try.prog 145 #[.agg [.int .i64 c, v].toArray, .agg [.int .i64 d, u].toArray] w0 fun e w' => e = .returned (.bool (decide (c = d ∧ ks = ls))) ∧ Below w0.heap.size w0 w' := by
 have hB := Below.refl w0.heap.size w0
 have sB := hB.size
 refine calls_fs 17 [(0, .agg [.int .i64 c, v].toArray), (1, .agg [.int .i64 d, u].toArray)] Try.func145 rfl rfl rfl rfl rfl fun a hF => ?_
 refine wp_rs fun K1 hK1 => ?_
 refine s_box ([.int .i64 c, v]) hF (by decide) rfl rfl fun w2 b2 a eb2 m2 B3 zb2 hF => ?_
 have sB3 := B3.size
 have hB := bt hB B3
 refine s_box ([.int .i64 d, u]) hF (by decide) rfl rfl fun w4 b3 a eb3 m3 B5 zb3 hF => ?_
 have sB5 := B5.size
 have hB := bt hB B5
 have m2 := m2.old B5
 refine hF.v (x_assign rfl) fun a hF => ?_
 refine s_end (hK1 _ _ ?_)
 rcases (show c ≠ d ∨ c = d by omega) with hq | hq
 ·
  skip
  refine wp_rs fun K3 hK3 => ?_
  refine hF.v (x_fa0 fa59_0 rfl) fun a hF => ?_
  refine hF.v (x_load rfl (m_load flat3 (m2.cell (j := 0) rfl))) fun a hF => ?_
  refine hF.v (x_fa0 fa59_0 rfl) fun a hF => ?_
  refine hF.v (x_load rfl (m_load flat3 (m3.cell (j := 0) rfl))) fun a hF => ?_
  refine hF.v (eqlF (by omega) rfl rfl) fun a hF => ?_
  refine hF.v (x_move rfl) fun a hF => ?_
  refine s_grdn 10 hF rfl rfl (by decide) fun a hF => ?_
  refine s_grdn 10 hF rfl rfl (by decide) fun a hF => ?_
  refine s_grdn 10 hF rfl rfl (by decide) fun a hF => ?_
  refine s_grdn 10 hF rfl rfl (by decide) fun a hF => ?_
  refine s_grdn 10 hF rfl rfl (by decide) fun a hF => ?_
  refine hF.v (x_pick (b := false) rfl rfl) fun a hF => ?_
  refine hF.v (x_assign rfl) fun a hF => ?_
  refine s_end (hK3 _ _ ?_)
  refine wp_ret (res_slot hF rfl rfl ⟨by simp [hq], hB⟩)
 ·
  skip
  refine wp_rs fun K4 hK4 => ?_
  refine hF.v (x_fa0 fa59_0 rfl) fun a hF => ?_
  refine hF.v (x_load rfl (m_load flat3 (m2.cell (j := 0) rfl))) fun a hF => ?_
  refine hF.v (x_fa0 fa59_0 rfl) fun a hF => ?_
  refine hF.v (x_load rfl (m_load flat3 (m3.cell (j := 0) rfl))) fun a hF => ?_
  refine hF.v (eqlT (by omega) rfl rfl) fun a hF => ?_
  refine hF.v (x_move rfl) fun a hF => ?_
  refine s_grd 10 hF rfl rfl rfl ?_
  refine hF.v (x_fa0 fa59_1 rfl) fun a hF => ?_
  refine s_grd 10 hF rfl rfl rfl ?_
  refine hF.v (x_load rfl (m_load flat29 (m2.cell (j := 1) rfl))) fun a hF => ?_
  refine s_grd 10 hF rfl rfl rfl ?_
  refine hF.v (x_fa0 fa59_1 rfl) fun a hF => ?_
  refine s_grd 10 hF rfl rfl rfl ?_
  refine hF.v (x_load rfl (m_load flat29 (m3.cell (j := 1) rfl))) fun a hF => ?_
  refine s_grd 10 hF rfl rfl rfl ?_
  refine s_callB [_, _] hF E159 rfl (by decide) (equal62 ks ls v u w4 hl (hV.below hB) (hU.below hB)) fun w6 a B7 hF => ?_
  have sB7 := B7.size
  have hB := bt hB B7
  refine hF.v (x_pick (b := true) rfl rfl) fun a hF => ?_
  refine hF.v (x_assign rfl) fun a hF => ?_
  refine s_end (hK4 _ _ ?_)
  refine wp_ret (res_slot hF rfl rfl ⟨by simp [hq], hB⟩)

/-- Two come to one form. -/
def eqF (a b : SL) : Prop := nfC a = nfC b ∧ nfK a = nfK b
instance (a b : SL) : Decidable (eqF a b) := inferInstanceAs (Decidable (_ ∧ _))
/-- What Equal and Leq tell. -/
def TB (w0 : World) (x y : C3) (la lb : Lv) (P : SL → SL → Prop) [∀ s t, Decidable (P s t)] (b : Bool) : Prop := (¬ (sndL la ∧ sndL lb) → b = false) ∧ ∀ s t, RS w0 s x → RS w0 t y → s.good → t.good → b = decide (P s t)
def leS (s t : SL) : Prop := eqF (.mx s t) t
instance (a b : SL) : Decidable (leS a b) := inferInstanceAs (Decidable (eqF _ _))

set_option maxRecDepth 100000 in
set_option maxHeartbeats 1600000 in
theorem Equal23 (x y : C3) (la lb : Lv) (w0 : World) (hLa : RL w0 x la) (hLb : RL w0 y lb) : Calls Try.prog 114 #[lv x, lv y] w0 fun e w' => ∃ v, e = .returned v ∧ (∃ b, v = .bool b ∧ TB w0 x y la lb eqF b) ∧ Below w0.heap.size w0 w' := by
 have hB := Below.refl w0.heap.size w0
 have sB := hB.size
 refine calls_fs 28 [(0, lv x), (1, lv y)] Try.func114 rfl rfl rfl rfl rfl fun a hF => ?_
 refine wp_rs fun K1 hK1 => ?_
 refine s_box (lc x) hF (by decide) rfl rfl fun w2 b2 a eb2 m2 B3 zb2 hF => ?_
 have sB3 := B3.size
 have hB := bt hB B3
 refine s_box (lc y) hF (by decide) rfl rfl fun w4 b3 a eb3 m3 B5 zb3 hF => ?_
 have sB5 := B5.size
 have hB := bt hB B5
 have m2 := m2.old B5
 refine hF.v (x_assign rfl) fun a hF => ?_
 refine s_end (hK1 _ _ ?_)
 rcases (show (decide (sndL la) = false ∧ decide (sndL lb) = false) ∨ (decide (sndL la) = false ∧ decide (sndL lb) = true) ∨ (decide (sndL la) = true ∧ decide (sndL lb) = false) ∨ (decide (sndL la) = true ∧ decide (sndL lb) = true) by cases decide (sndL la) <;> cases decide (sndL lb) <;> simp) with ⟨hd1, hd2⟩ | ⟨hd1, hd2⟩ | ⟨hd1, hd2⟩ | ⟨hd1, hd2⟩
 ·
  have hn : ¬ (sndL la ∧ sndL lb) := fun h => by exact absurd h.1 (of_decide_eq_false hd1)
  have hB9 := hB
  refine wp_rs fun K3 hK3 => ?_
  refine hF.v (x_ldW wide24 m2 rfl rfl) fun a hF => ?_
  refine s_callR (R := fun v w' => ∃ c vk ks, v = .tuple #[.agg [.int .i64 c, vk].toArray, .bool (decide (sndL la))] ∧ FF w4 x la w' c vk ks) [_] hF E106 rfl (by decide) (formOf38 x la w4 (hLa.old hB)) ?_
  rintro _ w6 a ⟨c1, vk1, ks1, rfl, hf1⟩ B7 hF
  have sB7 := B7.size
  have hB := bt hB B7
  have m3 := m3.old B7
  have h1v1 := hf1.1.one
  have hB1 := Below.refl w6.heap.size w6
  rw [hd1] at hF
  refine hF.v (x_move rfl) fun a hF => ?_
  refine hF.v (x_ext rfl rfl) fun a hF => ?_
  refine hF.v (x_ext rfl rfl) fun a hF => ?_
  refine s_alloc hF (by decide) zero59 fun w8 b5 a eb5 m5 B9 zb5 hF => ?_
  have sB9 := B9.size
  have hB := bt hB B9
  have m3 := m3.old B9
  refine s_putW hF rfl rfl (size_wide wide59) m5 rfl (one2 h1v1) fun w10 m5 o11 => ?_
  have so11 := o11.size
  have hB := hB.trans (o11.below (by omega))
  have m3 := m3.only o11 (by omega)
  refine hF.v (x_assign rfl) fun a hF => ?_
  refine s_end (hK3 _ _ ?_)
  have hB8 := hB
  refine wp_rs fun K4 hK4 => ?_
  refine hF.v (x_ldW wide24 m3 rfl rfl) fun a hF => ?_
  refine s_callR (R := fun v w' => ∃ c vk ks, v = .tuple #[.agg [.int .i64 c, vk].toArray, .bool (decide (sndL lb))] ∧ FF w10 y lb w' c vk ks) [_] hF E106 rfl (by decide) (formOf38 y lb w10 (hLb.old hB)) ?_
  rintro _ w12 a ⟨c2, vk2, ks2, rfl, hf2⟩ B13 hF
  have sB13 := B13.size
  have hB := bt hB B13
  have h1v2 := hf2.1.one
  have hB2 := Below.refl w12.heap.size w12
  rw [hd2] at hF
  refine hF.v (x_move rfl) fun a hF => ?_
  refine hF.v (x_ext rfl rfl) fun a hF => ?_
  refine hF.v (x_ext rfl rfl) fun a hF => ?_
  refine s_alloc hF (by decide) zero59 fun w14 b7 a eb7 m7 B15 zb7 hF => ?_
  have sB15 := B15.size
  have hB := bt hB B15
  refine s_putW hF rfl rfl (size_wide wide59) m7 rfl (one2 h1v2) fun w16 m7 o17 => ?_
  have so17 := o17.size
  have hB := hB.trans (o17.below (by omega))
  refine hF.v (x_assign rfl) fun a hF => ?_
  refine s_end (hK4 _ _ ?_)
  refine wp_rs fun K5 hK5 => ?_
  refine hF.v (x_move rfl) fun a hF => ?_
  refine hF.v (x_move rfl) fun a hF => ?_
  refine s_grdn 20 hF rfl rfl (by decide) fun a hF => ?_
  refine hF.v (x_pick (b := false) rfl rfl) fun a hF => ?_
  refine hF.v (x_move rfl) fun a hF => ?_
  refine s_grdn 23 hF rfl rfl (by decide) fun a hF => ?_
  refine s_grdn 23 hF rfl rfl (by decide) fun a hF => ?_
  refine s_grdn 23 hF rfl rfl (by decide) fun a hF => ?_
  refine hF.v (x_pick (b := false) rfl rfl) fun a hF => ?_
  refine hF.v (x_assign rfl) fun a hF => ?_
  refine s_end (hK5 _ _ ?_)
  refine wp_ret (res_slot hF rfl rfl ⟨_, rfl, ⟨_, rfl, fun _ => rfl, fun s t hs ht g1 g2 => absurd ⟨rs_snd hLa hs g1, rs_snd hLb ht g2⟩ hn⟩, hB⟩)
 ·
  have hn : ¬ (sndL la ∧ sndL lb) := fun h => by exact absurd h.1 (of_decide_eq_false hd1)
  have hB9 := hB
  refine wp_rs fun K6 hK6 => ?_
  refine hF.v (x_ldW wide24 m2 rfl rfl) fun a hF => ?_
  refine s_callR (R := fun v w' => ∃ c vk ks, v = .tuple #[.agg [.int .i64 c, vk].toArray, .bool (decide (sndL la))] ∧ FF w4 x la w' c vk ks) [_] hF E106 rfl (by decide) (formOf38 x la w4 (hLa.old hB)) ?_
  rintro _ w18 a ⟨c1, vk1, ks1, rfl, hf1⟩ B19 hF
  have sB19 := B19.size
  have hB := bt hB B19
  have m3 := m3.old B19
  have h1v1 := hf1.1.one
  have hB1 := Below.refl w18.heap.size w18
  rw [hd1] at hF
  refine hF.v (x_move rfl) fun a hF => ?_
  refine hF.v (x_ext rfl rfl) fun a hF => ?_
  refine hF.v (x_ext rfl rfl) fun a hF => ?_
  refine s_alloc hF (by decide) zero59 fun w20 b5 a eb5 m5 B21 zb5 hF => ?_
  have sB21 := B21.size
  have hB := bt hB B21
  have m3 := m3.old B21
  refine s_putW hF rfl rfl (size_wide wide59) m5 rfl (one2 h1v1) fun w22 m5 o23 => ?_
  have so23 := o23.size
  have hB := hB.trans (o23.below (by omega))
  have m3 := m3.only o23 (by omega)
  refine hF.v (x_assign rfl) fun a hF => ?_
  refine s_end (hK6 _ _ ?_)
  have hB8 := hB
  refine wp_rs fun K7 hK7 => ?_
  refine hF.v (x_ldW wide24 m3 rfl rfl) fun a hF => ?_
  refine s_callR (R := fun v w' => ∃ c vk ks, v = .tuple #[.agg [.int .i64 c, vk].toArray, .bool (decide (sndL lb))] ∧ FF w22 y lb w' c vk ks) [_] hF E106 rfl (by decide) (formOf38 y lb w22 (hLb.old hB)) ?_
  rintro _ w24 a ⟨c2, vk2, ks2, rfl, hf2⟩ B25 hF
  have sB25 := B25.size
  have hB := bt hB B25
  have h1v2 := hf2.1.one
  have hB2 := Below.refl w24.heap.size w24
  rw [hd2] at hF
  refine hF.v (x_move rfl) fun a hF => ?_
  refine hF.v (x_ext rfl rfl) fun a hF => ?_
  refine hF.v (x_ext rfl rfl) fun a hF => ?_
  refine s_alloc hF (by decide) zero59 fun w26 b7 a eb7 m7 B27 zb7 hF => ?_
  have sB27 := B27.size
  have hB := bt hB B27
  refine s_putW hF rfl rfl (size_wide wide59) m7 rfl (one2 h1v2) fun w28 m7 o29 => ?_
  have so29 := o29.size
  have hB := hB.trans (o29.below (by omega))
  refine hF.v (x_assign rfl) fun a hF => ?_
  refine s_end (hK7 _ _ ?_)
  refine wp_rs fun K8 hK8 => ?_
  refine hF.v (x_move rfl) fun a hF => ?_
  refine hF.v (x_move rfl) fun a hF => ?_
  refine s_grdn 20 hF rfl rfl (by decide) fun a hF => ?_
  refine hF.v (x_pick (b := false) rfl rfl) fun a hF => ?_
  refine hF.v (x_move rfl) fun a hF => ?_
  refine s_grdn 23 hF rfl rfl (by decide) fun a hF => ?_
  refine s_grdn 23 hF rfl rfl (by decide) fun a hF => ?_
  refine s_grdn 23 hF rfl rfl (by decide) fun a hF => ?_
  refine hF.v (x_pick (b := false) rfl rfl) fun a hF => ?_
  refine hF.v (x_assign rfl) fun a hF => ?_
  refine s_end (hK8 _ _ ?_)
  refine wp_ret (res_slot hF rfl rfl ⟨_, rfl, ⟨_, rfl, fun _ => rfl, fun s t hs ht g1 g2 => absurd ⟨rs_snd hLa hs g1, rs_snd hLb ht g2⟩ hn⟩, hB⟩)
 ·
  have hn : ¬ (sndL la ∧ sndL lb) := fun h => by exact absurd h.2 (of_decide_eq_false hd2)
  have hB9 := hB
  refine wp_rs fun K9 hK9 => ?_
  refine hF.v (x_ldW wide24 m2 rfl rfl) fun a hF => ?_
  refine s_callR (R := fun v w' => ∃ c vk ks, v = .tuple #[.agg [.int .i64 c, vk].toArray, .bool (decide (sndL la))] ∧ FF w4 x la w' c vk ks) [_] hF E106 rfl (by decide) (formOf38 x la w4 (hLa.old hB)) ?_
  rintro _ w30 a ⟨c1, vk1, ks1, rfl, hf1⟩ B31 hF
  have sB31 := B31.size
  have hB := bt hB B31
  have m3 := m3.old B31
  have h1v1 := hf1.1.one
  have hB1 := Below.refl w30.heap.size w30
  rw [hd1] at hF
  refine hF.v (x_move rfl) fun a hF => ?_
  refine hF.v (x_ext rfl rfl) fun a hF => ?_
  refine hF.v (x_ext rfl rfl) fun a hF => ?_
  refine s_alloc hF (by decide) zero59 fun w32 b5 a eb5 m5 B33 zb5 hF => ?_
  have sB33 := B33.size
  have hB := bt hB B33
  have m3 := m3.old B33
  refine s_putW hF rfl rfl (size_wide wide59) m5 rfl (one2 h1v1) fun w34 m5 o35 => ?_
  have so35 := o35.size
  have hB := hB.trans (o35.below (by omega))
  have m3 := m3.only o35 (by omega)
  refine hF.v (x_assign rfl) fun a hF => ?_
  refine s_end (hK9 _ _ ?_)
  have hB8 := hB
  refine wp_rs fun K10 hK10 => ?_
  refine hF.v (x_ldW wide24 m3 rfl rfl) fun a hF => ?_
  refine s_callR (R := fun v w' => ∃ c vk ks, v = .tuple #[.agg [.int .i64 c, vk].toArray, .bool (decide (sndL lb))] ∧ FF w34 y lb w' c vk ks) [_] hF E106 rfl (by decide) (formOf38 y lb w34 (hLb.old hB)) ?_
  rintro _ w36 a ⟨c2, vk2, ks2, rfl, hf2⟩ B37 hF
  have sB37 := B37.size
  have hB := bt hB B37
  have h1v2 := hf2.1.one
  have hB2 := Below.refl w36.heap.size w36
  rw [hd2] at hF
  refine hF.v (x_move rfl) fun a hF => ?_
  refine hF.v (x_ext rfl rfl) fun a hF => ?_
  refine hF.v (x_ext rfl rfl) fun a hF => ?_
  refine s_alloc hF (by decide) zero59 fun w38 b7 a eb7 m7 B39 zb7 hF => ?_
  have sB39 := B39.size
  have hB := bt hB B39
  refine s_putW hF rfl rfl (size_wide wide59) m7 rfl (one2 h1v2) fun w40 m7 o41 => ?_
  have so41 := o41.size
  have hB := hB.trans (o41.below (by omega))
  refine hF.v (x_assign rfl) fun a hF => ?_
  refine s_end (hK10 _ _ ?_)
  refine wp_rs fun K11 hK11 => ?_
  refine hF.v (x_move rfl) fun a hF => ?_
  refine hF.v (x_move rfl) fun a hF => ?_
  refine s_grd 20 hF rfl rfl rfl ?_
  refine hF.v (x_move rfl) fun a hF => ?_
  refine hF.v (x_pick (b := true) rfl rfl) fun a hF => ?_
  refine hF.v (x_move rfl) fun a hF => ?_
  refine s_grdn 23 hF rfl rfl (by decide) fun a hF => ?_
  refine s_grdn 23 hF rfl rfl (by decide) fun a hF => ?_
  refine s_grdn 23 hF rfl rfl (by decide) fun a hF => ?_
  refine hF.v (x_pick (b := false) rfl rfl) fun a hF => ?_
  refine hF.v (x_assign rfl) fun a hF => ?_
  refine s_end (hK11 _ _ ?_)
  refine wp_ret (res_slot hF rfl rfl ⟨_, rfl, ⟨_, rfl, fun _ => rfl, fun s t hs ht g1 g2 => absurd ⟨rs_snd hLa hs g1, rs_snd hLb ht g2⟩ hn⟩, hB⟩)
 ·
  have hsa : sndL la := of_decide_eq_true hd1
  have hsb : sndL lb := of_decide_eq_true hd2
  obtain ⟨s, hs, hsg⟩ := sound_sl hLa hsa
  obtain ⟨t, ht, htg⟩ := sound_sl hLb hsb
  have hns := nfK_len s hsg
  have hnt := nfK_len t htg
  have hB9 := hB
  refine wp_rs fun K12 hK12 => ?_
  refine hF.v (x_ldW wide24 m2 rfl rfl) fun a hF => ?_
  refine s_callR (R := fun v w' => ∃ c vk ks, v = .tuple #[.agg [.int .i64 c, vk].toArray, .bool (decide (sndL la))] ∧ FF w4 x la w' c vk ks) [_] hF E106 rfl (by decide) (formOf38 x la w4 (hLa.old hB)) ?_
  rintro _ w42 a ⟨c1, vk1, ks1, rfl, hf1⟩ B43 hF
  have sB43 := B43.size
  have hB := bt hB B43
  have m3 := m3.old B43
  have h1v1 := hf1.1.one
  have hB1 := Below.refl w42.heap.size w42
  rw [hd1] at hF
  obtain ⟨rfl, rfl⟩ := hf1.2.2 s (RS.below hB9 hs) hsg
  refine hF.v (x_move rfl) fun a hF => ?_
  refine hF.v (x_ext rfl rfl) fun a hF => ?_
  refine hF.v (x_ext rfl rfl) fun a hF => ?_
  refine s_alloc hF (by decide) zero59 fun w44 b5 a eb5 m5 B45 zb5 hF => ?_
  have sB45 := B45.size
  have hB := bt hB B45
  have hB1 := bt hB1 B45
  have m3 := m3.old B45
  refine s_putW hF rfl rfl (size_wide wide59) m5 rfl (one2 h1v1) fun w46 m5 o47 => ?_
  have so47 := o47.size
  have hB := hB.trans (o47.below (by omega))
  have hB1 := hB1.trans (o47.below (by omega))
  have m3 := m3.only o47 (by omega)
  refine hF.v (x_assign rfl) fun a hF => ?_
  refine s_end (hK12 _ _ ?_)
  have hB8 := hB
  refine wp_rs fun K13 hK13 => ?_
  refine hF.v (x_ldW wide24 m3 rfl rfl) fun a hF => ?_
  refine s_callR (R := fun v w' => ∃ c vk ks, v = .tuple #[.agg [.int .i64 c, vk].toArray, .bool (decide (sndL lb))] ∧ FF w46 y lb w' c vk ks) [_] hF E106 rfl (by decide) (formOf38 y lb w46 (hLb.old hB)) ?_
  rintro _ w48 a ⟨c2, vk2, ks2, rfl, hf2⟩ B49 hF
  have sB49 := B49.size
  have hB := bt hB B49
  have hB1 := bt hB1 B49
  have m5 := m5.old B49
  have h1v2 := hf2.1.one
  have hB2 := Below.refl w48.heap.size w48
  rw [hd2] at hF
  obtain ⟨rfl, rfl⟩ := hf2.2.2 t (RS.below hB8 ht) htg
  refine hF.v (x_move rfl) fun a hF => ?_
  refine hF.v (x_ext rfl rfl) fun a hF => ?_
  refine hF.v (x_ext rfl rfl) fun a hF => ?_
  refine s_alloc hF (by decide) zero59 fun w50 b7 a eb7 m7 B51 zb7 hF => ?_
  have sB51 := B51.size
  have hB := bt hB B51
  have hB1 := bt hB1 B51
  have hB2 := bt hB2 B51
  have m5 := m5.old B51
  refine s_putW hF rfl rfl (size_wide wide59) m7 rfl (one2 h1v2) fun w52 m7 o53 => ?_
  have so53 := o53.size
  have hB := hB.trans (o53.below (by omega))
  have hB1 := hB1.trans (o53.below (by omega))
  have hB2 := hB2.trans (o53.below (by omega))
  have m5 := m5.only o53 (by omega)
  refine hF.v (x_assign rfl) fun a hF => ?_
  refine s_end (hK13 _ _ ?_)
  refine wp_rs fun K14 hK14 => ?_
  refine hF.v (x_move rfl) fun a hF => ?_
  refine hF.v (x_move rfl) fun a hF => ?_
  refine s_grd 20 hF rfl rfl rfl ?_
  refine hF.v (x_move rfl) fun a hF => ?_
  refine hF.v (x_pick (b := true) rfl rfl) fun a hF => ?_
  refine hF.v (x_move rfl) fun a hF => ?_
  refine s_grd 23 hF rfl rfl rfl ?_
  refine hF.v (x_ldW wide59 m5 rfl rfl) fun a hF => ?_
  refine s_grd 23 hF rfl rfl rfl ?_
  refine hF.v (x_ldW wide59 m7 rfl rfl) fun a hF => ?_
  refine s_grd 23 hF rfl rfl rfl ?_
  refine s_callB [_, _] hF E145 rfl (by decide) (same44 _ _ _ _ (nfK s) (nfK t) w52 (by omega) (hf1.1.below hB1) (hf2.1.below hB2)) fun w54 a B55 hF => ?_
  have sB55 := B55.size
  have hB := bt hB B55
  refine hF.v (x_pick (b := true) rfl rfl) fun a hF => ?_
  refine hF.v (x_assign rfl) fun a hF => ?_
  refine s_end (hK14 _ _ ?_)
  refine wp_ret (res_slot hF rfl rfl ⟨_, rfl, ⟨_, rfl, fun h => absurd ⟨hsa, hsb⟩ h, fun s' t' hs' ht' _ _ => by rw [RS.inj hs' hs, RS.inj ht' ht]; rfl⟩, hB⟩)

end Go.Proofs.Ytbhhbfdoadecgaa

namespace Go.Proofs.Ytbhhbfdoadecgaa
open Go.RowKit Go.Shelf
set_option linter.unusedVariables false
set_option linter.unusedSimpArgs false

def eqO : Option SL → Option SL → Prop
 | some s, some t => eqF s t
 | _, _ => False
def eqOs (os ps : List (Option SL)) : Prop := os.length = ps.length ∧ ∀ (i : Nat) o p, os[i]? = some o → ps[i]? = some p → eqO o p
def sameP : PT → PT → Prop
 | .var n, .var m => n = m
 | .sort o, .sort p => eqO o p
 | .cst s os, .cst t ps => s = t ∧ eqOs os ps
 | .odd k, .odd j => k = j
 | .two k a b, .two j c d => k = j ∧ sameP a c ∧ sameP b d
 | .lt a b c, .lt d e f => sameP a d ∧ sameP b e ∧ sameP c f
 | _, _ => False
def PT.fit : PT → Prop
 | .cst _ os => os.length ≤ 9223372036854775807
 | .two _ a b => a.fit ∧ b.fit
 | .lt a b c => a.fit ∧ b.fit ∧ c.fit
 | _ => True
theorem CT.fit_ess : ∀ {c : CT}, c.fit → c.ess.fit
 | .two _ a b _, h => ⟨CT.fit_ess h.1, CT.fit_ess h.2⟩
 | .lt a b c _, h => ⟨CT.fit_ess h.1, CT.fit_ess h.2.1, CT.fit_ess h.2.2⟩
 | .cst s ls _, h => by simp only [CT.ess, PT.fit, List.length_map]; exact h.2
 | .var .., _ => trivial
 | .sort .., _ => trivial
 | .odd .., _ => trivial
theorem PT.fit_kid {c k : CT} {i : Nat} (h : c.ess.fit) (hk : c.kids[i]? = some k) : k.ess.fit := by
 cases c with
 | two _ a b _ =>
  rcases i with _ | _ | i
  ·
   simp [CT.kids] at hk; subst hk; exact h.1
  ·
   simp [CT.kids] at hk; subst hk; exact h.2
  ·
   simp [CT.kids] at hk
 | lt a b c _ =>
  rcases i with _ | _ | _ | i
  ·
   simp [CT.kids] at hk; subst hk; exact h.1
  ·
   simp [CT.kids] at hk; subst hk; exact h.2.1
  ·
   simp [CT.kids] at hk; subst hk; exact h.2.2
  ·
   simp [CT.kids] at hk
 | _ => simp [CT.kids] at hk
theorem TB.iff {w0 : World} {x y : C3} {la lb : Lv} {b : Bool} (h : TB w0 x y la lb eqF b) (hx : RL w0 x la) (hy : RL w0 y lb) : b = true ↔ eqO (slO la) (slO lb) := by
 by_cases ha : sndL la
 ·
  by_cases hb : sndL lb
  ·
   obtain ⟨s, h1, h2⟩ := sound_sl hx ha
   obtain ⟨t, h3, h4⟩ := sound_sl hy hb
   rw [h.2 s t h1 h3 h2 h4, slO_of hx h1 h2, slO_of hy h3 h4, decide_eq_true_iff]
   rfl
  ·
   rw [h.1 (fun h' => hb h'.2), (slO_none hy).2 hb]
   cases slO la <;> simp [eqO]
 ·
  rw [h.1 (fun h' => ha h'.1), (slO_none hx).2 ha]
  simp [eqO]
theorem same_rest {W : World} {A : Nat → Prop} : ∀ {c d : CT} {x y : C8}, RC W A c x → RC W A d y → x.k = y.k → (x.k ≠ 1 ∧ x.k ≠ 2 ∧ x.k ≠ 7) → (sameP c.ess d.ess ↔ c.kids.length = d.kids.length ∧ ∀ (i : Nat) a b, c.kids[i]? = some a → d.kids[i]? = some b → sameP a.ess b.ess)
 | .var .., _, x, y, h, h2, hk, h3 => by have := h.1; omega
 | .sort .., _, x, y, h, h2, hk, h3 => by have := h.1; omega
 | .cst .., _, x, y, h, h2, hk, h3 => by have := h.1; omega
 | _, .var .., x, y, h, h2, hk, h3 => by have := h2.1; omega
 | _, .sort .., x, y, h, h2, hk, h3 => by have := h2.1; omega
 | _, .cst .., x, y, h, h2, hk, h3 => by have := h2.1; omega
 | .odd k m, .odd j n, x, y, h, h2, hk, h3 => by
  have := h.1
  have := h2.1
  simp [CT.ess, sameP, CT.kids]
  omega
 | .odd k m, .two .., x, y, h, h2, hk, h3 => by simp [CT.ess, sameP, CT.kids]
 | .odd k m, .lt .., x, y, h, h2, hk, h3 => by simp [CT.ess, sameP, CT.kids]
 | .two .., .odd .., x, y, h, h2, hk, h3 => by simp [CT.ess, sameP, CT.kids]
 | .lt .., .odd .., x, y, h, h2, hk, h3 => by simp [CT.ess, sameP, CT.kids]
 | .two .., .lt .., x, y, h, h2, hk, h3 => by simp [CT.ess, sameP, CT.kids]
 | .lt .., .two .., x, y, h, h2, hk, h3 => by simp [CT.ess, sameP, CT.kids]
 | .two k a b m, .two j c d n, x, y, h, h2, hk, h3 => by
  have e1 := h.1
  have e2 := h2.1
  simp only [CT.ess, sameP, CT.kids]
  constructor
  ·
   rintro ⟨_, g1, g2⟩
   refine ⟨rfl, fun i p q e3 e4 => ?_⟩
   rcases i with _ | _ | i
   ·
    simp at e3 e4; subst e3 e4; exact g1
   ·
    simp at e3 e4; subst e3 e4; exact g2
   ·
    simp at e3
  ·
   rintro ⟨_, g⟩
   exact ⟨by omega, g 0 a c rfl rfl, g 1 b d rfl rfl⟩
 | .lt a b c m, .lt d e f n, x, y, h, h2, hk, h3 => by
  simp only [CT.ess, sameP, CT.kids]
  constructor
  ·
   rintro ⟨g1, g2, g3⟩
   refine ⟨rfl, fun i p q e3 e4 => ?_⟩
   rcases i with _ | _ | _ | i
   ·
    simp at e3 e4; subst e3 e4; exact g1
   ·
    simp at e3 e4; subst e3 e4; exact g2
   ·
    simp at e3 e4; subst e3 e4; exact g3
   ·
    simp at e3
  ·
   rintro ⟨_, g⟩
   exact ⟨g 0 a d rfl rfl, g 1 b e rfl rfl, g 2 c f rfl rfl⟩

set_option maxRecDepth 100000 in
set_option maxHeartbeats 400000 in
theorem eqL116 (cs ds : List Lv) (v u : Value) (w0 : World) (hV : RVn w0 (fun k => k < w0.heap.size) v cs) (hU : RVn w0 (fun k => k < w0.heap.size) u ds) (hlen : cs.length ≤ 9223372036854775807) : Calls Try.prog 115 #[v, u, .func (.func 114) #[] #[]] w0 fun e w' => ∃ z, e = .returned z ∧ (∃ b, z = .bool b ∧ (b = true ↔ cs.length = ds.length ∧ ∀ (i : Nat) p q, cs[i]? = some p → ds[i]? = some q → eqO (slO p) (slO q))) ∧ Below w0.heap.size w0 w' := by
 obtain ⟨av, cv, hve, _⟩ := hV.form
 subst hve
 obtain ⟨au, cu, hue, _⟩ := hU.form
 subst hue
 have hB := Below.refl w0.heap.size w0
 have sB := hB.size
 refine calls_fs 32 [(0, .slice av cs.length cv), (1, .slice au ds.length cu), (2, .func (.func 114) #[] #[])] Try.func115 rfl rfl rfl rfl rfl fun a hF => ?_
 refine wp_rs fun K1 hK1 => ?_
 refine hF.v (x_assign rfl) fun a hF => ?_
 refine s_end (hK1 _ _ ?_)
 refine wp_seq_k fun K2 hK2 => ?_
 rcases (show cs.length ≠ ds.length ∨ cs.length = ds.length by omega) with hk1 | hk1
 ·
  skip
  refine wp_rs fun K4 hK4 => ?_
  refine hF.v (x_move rfl) fun a hF => ?_
  refine hF.v (x_len Try.underlying22 rfl) fun a hF => ?_
  refine hF.v (x_move rfl) fun a hF => ?_
  refine hF.v (x_len Try.underlying22 rfl) fun a hF => ?_
  refine hF.v (neqT (by omega) rfl rfl) fun a hF => ?_
  refine s_end (hK4 _ _ ?_)
  refine wp_if hF rfl ?_
  refine wp_rs fun K5 hK5 => ?_
  refine hF.v (x_assign rfl) fun a hF => ?_
  refine s_end (hK5 _ _ ?_)
  refine wp_ret (then_ret (res_slot hF rfl rfl ⟨_, rfl, ⟨false, rfl, fun h => absurd h (by decide), fun h => absurd h.1 hk1⟩, hB⟩))
 ·
  skip
  refine wp_rs fun K6 hK6 => ?_
  refine hF.v (x_move rfl) fun a hF => ?_
  refine hF.v (x_len Try.underlying22 rfl) fun a hF => ?_
  refine hF.v (x_move rfl) fun a hF => ?_
  refine hF.v (x_len Try.underlying22 rfl) fun a hF => ?_
  refine hF.v (neqF (by omega) rfl rfl) fun a hF => ?_
  refine s_end (hK6 _ _ ?_)
  refine wp_if hF rfl ?_
  refine wp_skip (hK2 _ _ ?_)
  refine wp_seq_k fun K7 hK7 => ?_
  refine wp_rs fun K8 hK8 => ?_
  refine hF.v (x_move rfl) fun a hF => ?_
  refine hF.v (x_len Try.underlying22 rfl) fun a hF => ?_
  refine hF.v (x_move rfl) fun a hF => ?_
  refine s_end (hK8 _ _ ?_)
  refine wp_block ?_
  refine wp_up cs.length (fun i a w => (∀ (j : Nat) p q, j < i → cs[j]? = some p → ds[j]? = some q → eqO (slO p) (slO q)) ∧ Below w0.heap.size w0 w ∧ Fs 32 a [(1, .slice au ds.length cu), (2, .func (.func 114) #[] #[]), (15, .slice av cs.length cv), (16, .int .i64 (cs.length : Int)), (17, .int .i64 (i : Int))]) ⟨(fun j p q h => absurd h (by omega)), hB, hF.sub _ rfl⟩ ?_
  clear hF hB
  rintro i a w hi ⟨hok, hB, hF⟩ K' hK'
  have sB := hB.size
  refine wp_rs fun K9 hK9 => ?_
  refine hF.v (x_lss (b := decide (i < cs.length)) (decide_eq_decide.2 (by omega)) rfl rfl) fun a hF => ?_
  refine s_end (hK9 _ _ ?_)
  refine wp_seq_k fun K10 hK10 => ?_
  refine wp_iff hF rfl (fun hc18 => ?_) (fun hc18 => ?_)
  ·
   obtain ⟨b9, off9, c9, x, p, hve, hp, hrx, hAb, hbl, hrow⟩ := hV.row (i := i) (by omega)
   obtain ⟨b8, off8, c8, y, q, hue, hq, hry, hAb8, hbl8, hrow8⟩ := hU.row (i := i) (by omega)
   cases hve
   cases hue
   refine wp_skip (hK10 _ _ ?_)
   refine wp_seq_k fun K11 hK11 => ?_
   refine wp_block ?_
   refine wp_rs fun K12 hK12 => ?_
   refine hF.v (x_move rfl) fun a hF => ?_
   refine hF.v (x_ixa rfl rfl (m_ixsK i Try.underlying22 el22.size rfl (by omega))) fun a hF => ?_
   refine hF.v (x_ldA wide24 (hrow _ (hB.block _ hbl)) rfl rfl) fun a hF => ?_
   refine s_alloc hF (by decide) zero24 fun w2 b8 a eb8 m8 B3 zb8 hF => ?_
   have sB3 := B3.size
   have hB := bt hB B3
   refine hF.v (x_assign rfl) fun a hF => ?_
   refine s_putW hF rfl rfl (size_wide wide24) m8 rfl (one_lc (RLn.rl hrx).one1) fun w6 m8 o7 => ?_
   have so7 := o7.size
   have hB := hB.trans (o7.below (by omega))
   refine s_end (hK12 _ _ ?_)
   refine wp_rs fun K13 hK13 => ?_
   refine hF.v (x_move rfl) fun a hF => ?_
   refine hF.v (x_move rfl) fun a hF => ?_
   refine hF.v (x_ixa rfl rfl (m_ixsK i Try.underlying22 el22.size rfl (by omega))) fun a hF => ?_
   refine hF.v (x_ldA wide24 (hrow8 _ (hB.block _ hbl8)) rfl rfl) fun a hF => ?_
   refine s_alloc hF (by decide) zero24 fun w8 b9 a eb9 m9 B9 zb9 hF => ?_
   have sB9 := B9.size
   have hB := bt hB B9
   have m8 := m8.old B9
   refine s_putW hF rfl rfl (size_wide wide24) m9 rfl (one_lc (RLn.rl hry).one1) fun w12 m9 o13 => ?_
   have so13 := o13.size
   have hB := hB.trans (o13.below (by omega))
   have m8 := m8.only o13 (by omega)
   refine s_end (hK13 _ _ ?_)
   refine wp_rs fun K14 hK14 => ?_
   refine hF.v (x_move rfl) fun a hF => ?_
   refine hF.v (x_ldW wide24 m8 rfl rfl) fun a hF => ?_
   refine hF.v (x_ldW wide24 m9 rfl rfl) fun a hF => ?_
   refine s_callC (R := fun v w' => (∃ b, v = .bool b ∧ (b = true ↔ eqO (slO p) (slO q))) ∧ Below w12.heap.size w12 w') (lb := []) hF [_, _] rfl E114 rfl (by decide) ((Equal23 x y p q w12 (hrx.keep hB.size (fun k hk _ => hB.block k hk)).rl (hry.keep hB.size (fun k hk _ => hB.block k hk)).rl).mono fun e w' ⟨v, h1, ⟨b, h2, h3⟩, h4⟩ => ⟨v, h1, ⟨b, h2, h3.iff (hrx.keep hB.size (fun k hk _ => hB.block k hk)).rl (hry.keep hB.size (fun k hk _ => hB.block k hk)).rl⟩, h4⟩) ?_
   rintro _ w14 a ⟨⟨b29, rfl, h29⟩, B15⟩ hF
   have sB15 := B15.size
   have hB := bt hB B15
   refine hF.v (x_not rfl) fun a hF => ?_
   refine s_end (hK14 _ _ ?_)
   refine wp_ifb hF rfl (fun hc30 => ?_) (fun hc30 => ?_)
   ·
    have hn29 : ¬ (eqO (slO p) (slO q)) := fun h => by have := h29.2 h; subst this; simp at hc30
    refine wp_rs fun K15 hK15 => ?_
    refine hF.v (x_assign rfl) fun a hF => ?_
    refine s_end (hK15 _ _ ?_)
    refine wp_ret (inb_ret (then_ret (then_ret (inb_ret (then_ret (res_slot hF rfl rfl ⟨_, rfl, ⟨false, rfl, fun h => absurd h (by decide), fun h => (hn29 (h.2 i p q hp hq)).elim⟩, hB⟩))))))
   ·
    obtain rfl : b29 = true := by simpa using hc30
    have h30 := h29.1 rfl
    refine wp_skip (hK11 _ _ ?_)
    refine wp_region_lit ?_
    refine hF.v (x_addn (i + 1) (by omega) (by omega) rfl rfl) fun a hF => ?_
    refine hF.v (x_move rfl) fun a hF => ?_
    refine s_end (hK' _ _ (by omega) ⟨(fun j p' q' hj e1 e2 => by rcases Nat.lt_or_ge j i with h | h; (· exact hok j p' q' h e1 e2); (· obtain rfl : j = i := (by omega); rw [hp] at e1; rw [hq] at e2; cases e1; cases e2; exact h30)), hB, hF.sub _ rfl⟩)
  ·
   obtain rfl : i = cs.length := by omega
   refine wp_exit (hK7 _ _ ?_)
   refine wp_rs fun K16 hK16 => ?_
   refine hF.v (x_assign rfl) fun a hF => ?_
   refine s_end (hK16 _ _ ?_)
   refine wp_ret (res_slot hF rfl rfl ⟨_, rfl, ⟨true, rfl, fun _ => ⟨hk1, fun j p q e1 e2 => hok j p q (List.getElem?_eq_some_iff.1 e1).1 e1 e2⟩, fun _ => rfl⟩, hB⟩)

set_option maxRecDepth 100000 in
set_option maxHeartbeats 400000 in
theorem eqT117 (cs ds : List CT) (v u : Value) (w0 : World) (hV : RK w0 (fun k => k < w0.heap.size) v cs) (hU : RK w0 (fun k => k < w0.heap.size) u ds) (hlen : cs.length ≤ 9223372036854775807) (HS : ∀ (p q : CT) (x y : C8) (w : World) (i : Nat), cs[i]? = some p → ds[i]? = some q → RC w (fun k => k < w.heap.size) p x → RC w (fun k => k < w.heap.size) q y → Calls Try.prog 69 #[tv x, tv y] w fun e w' => ∃ z, e = .returned z ∧ (∃ b, z = .bool b ∧ (b = true ↔ sameP p.ess q.ess)) ∧ Below w.heap.size w w') : Calls Try.prog 116 #[v, u, .func (.func 69) #[] #[]] w0 fun e w' => ∃ z, e = .returned z ∧ (∃ b, z = .bool b ∧ (b = true ↔ cs.length = ds.length ∧ ∀ (i : Nat) p q, cs[i]? = some p → ds[i]? = some q → sameP p.ess q.ess)) ∧ Below w0.heap.size w0 w' := by
 obtain ⟨av, cv, hve, _⟩ := hV.form
 subst hve
 obtain ⟨au, cu, hue, _⟩ := hU.form
 subst hue
 have hB := Below.refl w0.heap.size w0
 have sB := hB.size
 refine calls_fs 32 [(0, .slice av cs.length cv), (1, .slice au ds.length cu), (2, .func (.func 69) #[] #[])] Try.func116 rfl rfl rfl rfl rfl fun a hF => ?_
 refine wp_rs fun K1 hK1 => ?_
 refine hF.v (x_assign rfl) fun a hF => ?_
 refine s_end (hK1 _ _ ?_)
 refine wp_seq_k fun K2 hK2 => ?_
 rcases (show cs.length ≠ ds.length ∨ cs.length = ds.length by omega) with hk1 | hk1
 ·
  skip
  refine wp_rs fun K4 hK4 => ?_
  refine hF.v (x_move rfl) fun a hF => ?_
  refine hF.v (x_len Try.underlying25 rfl) fun a hF => ?_
  refine hF.v (x_move rfl) fun a hF => ?_
  refine hF.v (x_len Try.underlying25 rfl) fun a hF => ?_
  refine hF.v (neqT (by omega) rfl rfl) fun a hF => ?_
  refine s_end (hK4 _ _ ?_)
  refine wp_if hF rfl ?_
  refine wp_rs fun K5 hK5 => ?_
  refine hF.v (x_assign rfl) fun a hF => ?_
  refine s_end (hK5 _ _ ?_)
  refine wp_ret (then_ret (res_slot hF rfl rfl ⟨_, rfl, ⟨false, rfl, fun h => absurd h (by decide), fun h => absurd h.1 hk1⟩, hB⟩))
 ·
  skip
  refine wp_rs fun K6 hK6 => ?_
  refine hF.v (x_move rfl) fun a hF => ?_
  refine hF.v (x_len Try.underlying25 rfl) fun a hF => ?_
  refine hF.v (x_move rfl) fun a hF => ?_
  refine hF.v (x_len Try.underlying25 rfl) fun a hF => ?_
  refine hF.v (neqF (by omega) rfl rfl) fun a hF => ?_
  refine s_end (hK6 _ _ ?_)
  refine wp_if hF rfl ?_
  refine wp_skip (hK2 _ _ ?_)
  refine wp_seq_k fun K7 hK7 => ?_
  refine wp_rs fun K8 hK8 => ?_
  refine hF.v (x_move rfl) fun a hF => ?_
  refine hF.v (x_len Try.underlying25 rfl) fun a hF => ?_
  refine hF.v (x_move rfl) fun a hF => ?_
  refine s_end (hK8 _ _ ?_)
  refine wp_block ?_
  refine wp_up cs.length (fun i a w => (∀ (j : Nat) p q, j < i → cs[j]? = some p → ds[j]? = some q → sameP p.ess q.ess) ∧ Below w0.heap.size w0 w ∧ Fs 32 a [(1, .slice au ds.length cu), (2, .func (.func 69) #[] #[]), (15, .slice av cs.length cv), (16, .int .i64 (cs.length : Int)), (17, .int .i64 (i : Int))]) ⟨(fun j p q h => absurd h (by omega)), hB, hF.sub _ rfl⟩ ?_
  clear hF hB
  rintro i a w hi ⟨hok, hB, hF⟩ K' hK'
  have sB := hB.size
  refine wp_rs fun K9 hK9 => ?_
  refine hF.v (x_lss (b := decide (i < cs.length)) (decide_eq_decide.2 (by omega)) rfl rfl) fun a hF => ?_
  refine s_end (hK9 _ _ ?_)
  refine wp_seq_k fun K10 hK10 => ?_
  refine wp_iff hF rfl (fun hc18 => ?_) (fun hc18 => ?_)
  ·
   obtain ⟨b9, off9, c9, x, p, hve, hp, hrx, hAb, hbl, hrow⟩ := hV.row (i := i) (by omega)
   obtain ⟨b8, off8, c8, y, q, hue, hq, hry, hAb8, hbl8, hrow8⟩ := hU.row (i := i) (by omega)
   cases hve
   cases hue
   refine wp_skip (hK10 _ _ ?_)
   refine wp_seq_k fun K11 hK11 => ?_
   refine wp_block ?_
   refine wp_rs fun K12 hK12 => ?_
   refine hF.v (x_move rfl) fun a hF => ?_
   refine hF.v (x_ixa rfl rfl (m_ixsK i Try.underlying25 el25.size rfl (by omega))) fun a hF => ?_
   refine hF.v (x_ldA wide27 (hrow _ (hB.block _ hbl)) rfl rfl) fun a hF => ?_
   refine s_alloc hF (by decide) zero27 fun w2 b8 a eb8 m8 B3 zb8 hF => ?_
   have sB3 := B3.size
   have hB := bt hB B3
   refine hF.v (x_assign rfl) fun a hF => ?_
   refine s_putW hF rfl rfl (size_wide wide27) m8 rfl hrx.one fun w6 m8 o7 => ?_
   have so7 := o7.size
   have hB := hB.trans (o7.below (by omega))
   refine s_end (hK12 _ _ ?_)
   refine wp_rs fun K13 hK13 => ?_
   refine hF.v (x_move rfl) fun a hF => ?_
   refine hF.v (x_move rfl) fun a hF => ?_
   refine hF.v (x_ixa rfl rfl (m_ixsK i Try.underlying25 el25.size rfl (by omega))) fun a hF => ?_
   refine hF.v (x_ldA wide27 (hrow8 _ (hB.block _ hbl8)) rfl rfl) fun a hF => ?_
   refine s_alloc hF (by decide) zero27 fun w8 b9 a eb9 m9 B9 zb9 hF => ?_
   have sB9 := B9.size
   have hB := bt hB B9
   have m8 := m8.old B9
   refine s_putW hF rfl rfl (size_wide wide27) m9 rfl hry.one fun w12 m9 o13 => ?_
   have so13 := o13.size
   have hB := hB.trans (o13.below (by omega))
   have m8 := m8.only o13 (by omega)
   refine s_end (hK13 _ _ ?_)
   refine wp_rs fun K14 hK14 => ?_
   refine hF.v (x_move rfl) fun a hF => ?_
   refine hF.v (x_ldW wide27 m8 rfl rfl) fun a hF => ?_
   refine hF.v (x_ldW wide27 m9 rfl rfl) fun a hF => ?_
   refine s_callC (R := fun v w' => (∃ b, v = .bool b ∧ (b = true ↔ sameP p.ess q.ess)) ∧ Below w12.heap.size w12 w') (lb := []) hF [_, _] rfl E69 rfl (by decide) (HS p q x y w12 i hp hq (hrx.bel hB) (hry.bel hB)) ?_
   rintro _ w14 a ⟨⟨b29, rfl, h29⟩, B15⟩ hF
   have sB15 := B15.size
   have hB := bt hB B15
   refine hF.v (x_not rfl) fun a hF => ?_
   refine s_end (hK14 _ _ ?_)
   refine wp_ifb hF rfl (fun hc30 => ?_) (fun hc30 => ?_)
   ·
    have hn29 : ¬ (sameP p.ess q.ess) := fun h => by have := h29.2 h; subst this; simp at hc30
    refine wp_rs fun K15 hK15 => ?_
    refine hF.v (x_assign rfl) fun a hF => ?_
    refine s_end (hK15 _ _ ?_)
    refine wp_ret (inb_ret (then_ret (then_ret (inb_ret (then_ret (res_slot hF rfl rfl ⟨_, rfl, ⟨false, rfl, fun h => absurd h (by decide), fun h => (hn29 (h.2 i p q hp hq)).elim⟩, hB⟩))))))
   ·
    obtain rfl : b29 = true := by simpa using hc30
    have h30 := h29.1 rfl
    refine wp_skip (hK11 _ _ ?_)
    refine wp_region_lit ?_
    refine hF.v (x_addn (i + 1) (by omega) (by omega) rfl rfl) fun a hF => ?_
    refine hF.v (x_move rfl) fun a hF => ?_
    refine s_end (hK' _ _ (by omega) ⟨(fun j p' q' hj e1 e2 => by rcases Nat.lt_or_ge j i with h | h; (· exact hok j p' q' h e1 e2); (· obtain rfl : j = i := (by omega); rw [hp] at e1; rw [hq] at e2; cases e1; cases e2; exact h30)), hB, hF.sub _ rfl⟩)
  ·
   obtain rfl : i = cs.length := by omega
   refine wp_exit (hK7 _ _ ?_)
   refine wp_rs fun K16 hK16 => ?_
   refine hF.v (x_assign rfl) fun a hF => ?_
   refine s_end (hK16 _ _ ?_)
   refine wp_ret (res_slot hF rfl rfl ⟨_, rfl, ⟨true, rfl, fun _ => ⟨hk1, fun j p q e1 e2 => hok j p q (List.getElem?_eq_some_iff.1 e1).1 e1 e2⟩, fun _ => rfl⟩, hB⟩)

theorem kd_same {W : World} {A : Nat → Prop} {c d : CT} {x y : C8} (hx : RC W A c x) (hy : RC W A d y) (h : sameP c.ess d.ess) : x.k = y.k := by
 rw [hx.kd, hy.kd]
 cases c <;> cases d <;> simp only [CT.ess, sameP, CT.kd] at h ⊢ <;> first | exact h.elim | exact h.1 | exact h

set_option maxRecDepth 100000 in
set_option maxHeartbeats 400000 in
theorem same81 : ∀ (N : Nat) (c d : CT) (x y : C8) (w0 : World), c.size < N → RC w0 (fun k => k < w0.heap.size) c x → RC w0 (fun k => k < w0.heap.size) d y → c.ess.fit → Calls Try.prog 69 #[tv x, tv y] w0 fun e w' => ∃ z, e = .returned z ∧ (∃ b, z = .bool b ∧ (b = true ↔ sameP c.ess d.ess)) ∧ Below w0.heap.size w0 w' := by
 intro N
 induction N with
 | zero => intro c d x y w0 h; omega
 | succ N ih =>
 intro c d x y w0 hN hx hy hfit
 have h3 := c.kids_le
 have hB := Below.refl w0.heap.size w0
 have sB := hB.size
 refine calls_fs 45 [(0, tv x), (1, tv y)] Try.func69 rfl rfl rfl rfl rfl fun a hF => ?_
 refine wp_rs fun K1 hK1 => ?_
 refine s_box (tc x) hF (by decide) rfl rfl fun w2 b2 a eb2 m2 B3 zb2 hF => ?_
 have sB3 := B3.size
 have hB := bt hB B3
 refine s_box (tc y) hF (by decide) rfl rfl fun w4 b3 a eb3 m3 B5 zb3 hF => ?_
 have sB5 := B5.size
 have hB := bt hB B5
 have m2 := m2.old B5
 refine hF.v (x_assign rfl) fun a hF => ?_
 refine s_end (hK1 _ _ ?_)
 refine wp_seq_k fun K2 hK2 => ?_
 rcases (show x.k ≠ y.k ∨ (x.k = 1 ∧ x.k = y.k) ∨ (x.k = 2 ∧ x.k = y.k) ∨ (x.k = 7 ∧ x.k = y.k) ∨ ((x.k ≠ 1 ∧ x.k ≠ 2 ∧ x.k ≠ 7) ∧ x.k = y.k) by omega) with hk | hk | hk | hk | hk
 ·
  skip
  refine wp_rs fun K4 hK4 => ?_
  refine hF.v (x_fa0 fa27_0 rfl) fun a hF => ?_
  refine hF.v (x_load rfl (m_load flat3 (m2.cell (j := 0) rfl))) fun a hF => ?_
  refine hF.v (x_fa0 fa27_0 rfl) fun a hF => ?_
  refine hF.v (x_load rfl (m_load flat3 (m3.cell (j := 0) rfl))) fun a hF => ?_
  refine hF.v (neqT (by omega) rfl rfl) fun a hF => ?_
  refine s_end (hK4 _ _ ?_)
  refine wp_if hF rfl ?_
  refine wp_rs fun K5 hK5 => ?_
  refine hF.v (x_assign rfl) fun a hF => ?_
  refine s_end (hK5 _ _ ?_)
  refine wp_ret (then_ret (res_slot hF rfl rfl ⟨_, rfl, ⟨false, rfl, fun h => absurd h (by decide), fun h => (hk (kd_same hx hy h)).elim⟩, hB⟩))
 ·
  skip
  refine wp_rs fun K6 hK6 => ?_
  refine hF.v (x_fa0 fa27_0 rfl) fun a hF => ?_
  refine hF.v (x_load rfl (m_load flat3 (m2.cell (j := 0) rfl))) fun a hF => ?_
  refine hF.v (x_fa0 fa27_0 rfl) fun a hF => ?_
  refine hF.v (x_load rfl (m_load flat3 (m3.cell (j := 0) rfl))) fun a hF => ?_
  refine hF.v (neqF (by omega) rfl rfl) fun a hF => ?_
  refine s_end (hK6 _ _ ?_)
  refine wp_if hF rfl ?_
  refine wp_skip (hK2 _ _ ?_)
  refine wp_seq_k fun K7 hK7 => ?_
  refine wp_rs fun K8 hK8 => ?_
  refine hF.v (x_fa0 fa27_0 rfl) fun a hF => ?_
  refine hF.v (x_load rfl (m_load flat3 (m2.cell (j := 0) rfl))) fun a hF => ?_
  refine s_end (hK8 _ _ ?_)
  refine wp_block ?_
  refine wp_rs fun K9 hK9 => ?_
  refine hF.v (eqlT (by omega) rfl rfl) fun a hF => ?_
  refine hF.v (x_assign rfl) fun a hF => ?_
  refine s_end (hK9 _ _ ?_)
  refine wp_if hF rfl ?_
  refine wp_rs fun K10 hK10 => ?_
  refine hF.v (x_fa0 fa27_1 rfl) fun a hF => ?_
  refine hF.v (x_load rfl (m_load flat3 (m2.cell (j := 1) rfl))) fun a hF => ?_
  refine hF.v (x_fa0 fa27_1 rfl) fun a hF => ?_
  refine hF.v (x_load rfl (m_load flat3 (m3.cell (j := 1) rfl))) fun a hF => ?_
  refine hF.v (x_eql rfl rfl rfl) fun a hF => ?_
  refine hF.v (x_assign rfl) fun a hF => ?_
  refine s_end (hK10 _ _ ?_)
  obtain ⟨n1, m1_, rfl⟩ := hx.var_of hk.1
  obtain ⟨n2, m2_, rfl⟩ := hy.var_of (by omega)
  have hn1 : x.n = n1 := hx.2.1
  have hn2 : y.n = n2 := hy.2.1
  refine wp_ret (inb_ret (then_ret (res_slot hF rfl rfl ⟨_, rfl, ⟨_, rfl, by rw [decide_eq_true_iff, hn1, hn2]; rfl⟩, hB⟩)))
 ·
  skip
  refine wp_rs fun K11 hK11 => ?_
  refine hF.v (x_fa0 fa27_0 rfl) fun a hF => ?_
  refine hF.v (x_load rfl (m_load flat3 (m2.cell (j := 0) rfl))) fun a hF => ?_
  refine hF.v (x_fa0 fa27_0 rfl) fun a hF => ?_
  refine hF.v (x_load rfl (m_load flat3 (m3.cell (j := 0) rfl))) fun a hF => ?_
  refine hF.v (neqF (by omega) rfl rfl) fun a hF => ?_
  refine s_end (hK11 _ _ ?_)
  refine wp_if hF rfl ?_
  refine wp_skip (hK2 _ _ ?_)
  refine wp_seq_k fun K12 hK12 => ?_
  refine wp_rs fun K13 hK13 => ?_
  refine hF.v (x_fa0 fa27_0 rfl) fun a hF => ?_
  refine hF.v (x_load rfl (m_load flat3 (m2.cell (j := 0) rfl))) fun a hF => ?_
  refine s_end (hK13 _ _ ?_)
  refine wp_block ?_
  refine wp_rs fun K14 hK14 => ?_
  refine hF.v (eqlF (by omega) rfl rfl) fun a hF => ?_
  refine hF.v (x_assign rfl) fun a hF => ?_
  refine s_end (hK14 _ _ ?_)
  refine wp_if hF rfl ?_
  refine wp_rs fun K15 hK15 => ?_
  refine hF.v (eqlT (by omega) rfl rfl) fun a hF => ?_
  refine hF.v (x_assign rfl) fun a hF => ?_
  refine s_end (hK15 _ _ ?_)
  refine wp_if hF rfl ?_
  refine wp_rs fun K16 hK16 => ?_
  refine hF.v (x_fa0 fa27_3 rfl) fun a hF => ?_
  refine hF.v (x_load rfl (m_loadP (vs := [_, _, _]) wide24 m2 rfl)) fun a hF => ?_
  refine hF.v (x_fa0 fa27_3 rfl) fun a hF => ?_
  refine hF.v (x_load rfl (m_loadP (vs := [_, _, _]) wide24 m3 rfl)) fun a hF => ?_
  obtain ⟨l, q1, rfl⟩ := hx.sort_of hk.1
  obtain ⟨l2, q2, rfl⟩ := hy.sort_of (by omega)
  have hl1 : RLn w0 _ x.l l := hx.2.1
  have hl2 : RLn w0 _ y.l l2 := hy.2.1
  refine s_callR (R := fun v w' => ∃ b, v = .bool b ∧ (b = true ↔ eqO (slO l) (slO l2))) [_, _] hF E114 rfl (by decide) ((Equal23 x.l y.l l l2 w4 (hl1.keep hB.size (fun k hk _ => hB.block k hk)).rl (hl2.keep hB.size (fun k hk _ => hB.block k hk)).rl).mono fun e w' ⟨v, h1, ⟨b, h2, h4⟩, h5⟩ => ⟨v, h1, ⟨b, h2, h4.iff (hl1.keep hB.size (fun k hk _ => hB.block k hk)).rl (hl2.keep hB.size (fun k hk _ => hB.block k hk)).rl⟩, h5⟩) ?_
  rintro _ w6 a ⟨b25, rfl, h25⟩ B7 hF
  have sB7 := B7.size
  have hB := bt hB B7
  refine hF.v (x_assign rfl) fun a hF => ?_
  refine s_end (hK16 _ _ ?_)
  refine wp_ret (inb_ret (then_ret (res_slot hF rfl rfl ⟨_, rfl, ⟨_, rfl, h25⟩, hB⟩)))
 ·
  skip
  refine wp_rs fun K17 hK17 => ?_
  refine hF.v (x_fa0 fa27_0 rfl) fun a hF => ?_
  refine hF.v (x_load rfl (m_load flat3 (m2.cell (j := 0) rfl))) fun a hF => ?_
  refine hF.v (x_fa0 fa27_0 rfl) fun a hF => ?_
  refine hF.v (x_load rfl (m_load flat3 (m3.cell (j := 0) rfl))) fun a hF => ?_
  refine hF.v (neqF (by omega) rfl rfl) fun a hF => ?_
  refine s_end (hK17 _ _ ?_)
  refine wp_if hF rfl ?_
  refine wp_skip (hK2 _ _ ?_)
  refine wp_seq_k fun K18 hK18 => ?_
  refine wp_rs fun K19 hK19 => ?_
  refine hF.v (x_fa0 fa27_0 rfl) fun a hF => ?_
  refine hF.v (x_load rfl (m_load flat3 (m2.cell (j := 0) rfl))) fun a hF => ?_
  refine s_end (hK19 _ _ ?_)
  refine wp_block ?_
  refine wp_rs fun K20 hK20 => ?_
  refine hF.v (eqlF (by omega) rfl rfl) fun a hF => ?_
  refine hF.v (x_assign rfl) fun a hF => ?_
  refine s_end (hK20 _ _ ?_)
  refine wp_if hF rfl ?_
  refine wp_rs fun K21 hK21 => ?_
  refine hF.v (eqlF (by omega) rfl rfl) fun a hF => ?_
  refine hF.v (x_assign rfl) fun a hF => ?_
  refine s_end (hK21 _ _ ?_)
  refine wp_if hF rfl ?_
  refine wp_rs fun K22 hK22 => ?_
  refine hF.v (eqlT (by omega) rfl rfl) fun a hF => ?_
  refine hF.v (x_assign rfl) fun a hF => ?_
  refine s_end (hK22 _ _ ?_)
  refine wp_if hF rfl ?_
  by_cases hst : x.s = y.s
  ·
   obtain ⟨s1, ls1, m1_, rfl⟩ := hx.cst_of hk.1
   obtain ⟨s2, ls2, m2_, rfl⟩ := hy.cst_of (by omega)
   have hs1 : x.s = s1 := hx.2.1
   have hs2 : y.s = s2 := hy.2.1
   have hv1 : RVn w0 _ x.ls ls1 := hx.2.2.1
   have hv2 : RVn w0 _ y.ls ls2 := hy.2.2.1
   have hfl : ls1.length ≤ 9223372036854775807 := by have := hfit; simp only [CT.ess, PT.fit, List.length_map] at this; exact this
   refine wp_rs fun K24 hK24 => ?_
   refine hF.v (x_fa0 fa27_2 rfl) fun a hF => ?_
   refine hF.v (x_load rfl (m_load flat9 (m2.cell (j := 2) rfl))) fun a hF => ?_
   refine hF.v (x_fa0 fa27_2 rfl) fun a hF => ?_
   refine hF.v (x_load rfl (m_load flat9 (m3.cell (j := 2) rfl))) fun a hF => ?_
   refine hF.v (x_eqS (b := true) (decide_eq_true hst) rfl rfl) fun a hF => ?_
   refine hF.v (x_move rfl) fun a hF => ?_
   refine s_grd 33 hF rfl rfl rfl ?_
   refine hF.v (x_fa0 fa27_4 rfl) fun a hF => ?_
   refine s_grd 33 hF rfl rfl rfl ?_
   refine hF.v (x_load rfl (m_load flat22 (m2.cell (j := 6) rfl))) fun a hF => ?_
   refine s_grd 33 hF rfl rfl rfl ?_
   refine hF.v (x_fa0 fa27_4 rfl) fun a hF => ?_
   refine s_grd 33 hF rfl rfl rfl ?_
   refine hF.v (x_load rfl (m_load flat22 (m3.cell (j := 6) rfl))) fun a hF => ?_
   refine s_grd 33 hF rfl rfl rfl ?_
   refine s_callR (R := fun v w' => ∃ b, v = .bool b ∧ (b = true ↔ ls1.length = ls2.length ∧ ∀ (i : Nat) p q, ls1[i]? = some p → ls2[i]? = some q → eqO (slO p) (slO q))) [_, _, _] hF E115 rfl (by decide) (eqL116 ls1 ls2 _ _ w4 ((hv1.keep hB.size (fun k hk _ => hB.block k hk)).mono (fun k hk => by omega)) ((hv2.keep hB.size (fun k hk _ => hB.block k hk)).mono (fun k hk => by omega)) hfl) ?_
   rintro _ w8 a ⟨b38, rfl, h38⟩ B9 hF
   have sB9 := B9.size
   have hB := bt hB B9
   refine hF.v (x_pick (b := true) rfl rfl) fun a hF => ?_
   refine hF.v (x_assign rfl) fun a hF => ?_
   refine s_end (hK24 _ _ ?_)
   refine wp_ret (inb_ret (then_ret (res_slot hF rfl rfl ⟨_, rfl, ⟨_, rfl, by rw [h38]; simp only [CT.ess, sameP, eqOs, List.length_map]; exact ⟨fun h => ⟨by rw [← hs1, ← hs2]; exact hst, h.1, fun i o p e1 e2 => (by rw [List.getElem?_map] at e1 e2; obtain ⟨q1, e3, rfl⟩ := Option.map_eq_some_iff.1 e1; obtain ⟨q2, e4, rfl⟩ := Option.map_eq_some_iff.1 e2; exact h.2 i q1 q2 e3 e4)⟩, fun h => ⟨h.2.1, fun i p q e1 e2 => h.2.2 i (slO p) (slO q) (by rw [List.getElem?_map, e1]; rfl) (by rw [List.getElem?_map, e2]; rfl)⟩⟩⟩, hB⟩)))
  ·
   obtain ⟨s1, ls1, m1_, rfl⟩ := hx.cst_of hk.1
   obtain ⟨s2, ls2, m2_, rfl⟩ := hy.cst_of (by omega)
   have hs1 : x.s = s1 := hx.2.1
   have hs2 : y.s = s2 := hy.2.1
   have hv1 : RVn w0 _ x.ls ls1 := hx.2.2.1
   have hv2 : RVn w0 _ y.ls ls2 := hy.2.2.1
   have hfl : ls1.length ≤ 9223372036854775807 := by have := hfit; simp only [CT.ess, PT.fit, List.length_map] at this; exact this
   refine wp_rs fun K25 hK25 => ?_
   refine hF.v (x_fa0 fa27_2 rfl) fun a hF => ?_
   refine hF.v (x_load rfl (m_load flat9 (m2.cell (j := 2) rfl))) fun a hF => ?_
   refine hF.v (x_fa0 fa27_2 rfl) fun a hF => ?_
   refine hF.v (x_load rfl (m_load flat9 (m3.cell (j := 2) rfl))) fun a hF => ?_
   refine hF.v (x_eqS (b := false) (decide_eq_false hst) rfl rfl) fun a hF => ?_
   refine hF.v (x_move rfl) fun a hF => ?_
   refine s_grdn 33 hF rfl rfl (by decide) fun a hF => ?_
   refine s_grdn 33 hF rfl rfl (by decide) fun a hF => ?_
   refine s_grdn 33 hF rfl rfl (by decide) fun a hF => ?_
   refine s_grdn 33 hF rfl rfl (by decide) fun a hF => ?_
   refine s_grdn 33 hF rfl rfl (by decide) fun a hF => ?_
   refine hF.v (x_pick (b := false) rfl rfl) fun a hF => ?_
   refine hF.v (x_assign rfl) fun a hF => ?_
   refine s_end (hK25 _ _ ?_)
   refine wp_ret (inb_ret (then_ret (res_slot hF rfl rfl ⟨_, rfl, ⟨false, rfl, fun h => absurd h (by decide), fun h => (hst (by rw [hs1, hs2]; exact h.1)).elim⟩, hB⟩)))
 ·
  have hk : (x.k ≠ 1 ∧ x.k ≠ 2 ∧ x.k ≠ 7) ∧ x.k = y.k := hk
  refine wp_rs fun K26 hK26 => ?_
  refine hF.v (x_fa0 fa27_0 rfl) fun a hF => ?_
  refine hF.v (x_load rfl (m_load flat3 (m2.cell (j := 0) rfl))) fun a hF => ?_
  refine hF.v (x_fa0 fa27_0 rfl) fun a hF => ?_
  refine hF.v (x_load rfl (m_load flat3 (m3.cell (j := 0) rfl))) fun a hF => ?_
  refine hF.v (neqF (by omega) rfl rfl) fun a hF => ?_
  refine s_end (hK26 _ _ ?_)
  refine wp_if hF rfl ?_
  refine wp_skip (hK2 _ _ ?_)
  refine wp_seq_k fun K27 hK27 => ?_
  refine wp_rs fun K28 hK28 => ?_
  refine hF.v (x_fa0 fa27_0 rfl) fun a hF => ?_
  refine hF.v (x_load rfl (m_load flat3 (m2.cell (j := 0) rfl))) fun a hF => ?_
  refine s_end (hK28 _ _ ?_)
  refine wp_block ?_
  refine wp_rs fun K29 hK29 => ?_
  refine hF.v (eqlF (by omega) rfl rfl) fun a hF => ?_
  refine hF.v (x_assign rfl) fun a hF => ?_
  refine s_end (hK29 _ _ ?_)
  refine wp_if hF rfl ?_
  refine wp_rs fun K30 hK30 => ?_
  refine hF.v (eqlF (by omega) rfl rfl) fun a hF => ?_
  refine hF.v (x_assign rfl) fun a hF => ?_
  refine s_end (hK30 _ _ ?_)
  refine wp_if hF rfl ?_
  refine wp_rs fun K31 hK31 => ?_
  refine hF.v (eqlF (by omega) rfl rfl) fun a hF => ?_
  refine hF.v (x_assign rfl) fun a hF => ?_
  refine s_end (hK31 _ _ ?_)
  refine wp_if hF rfl ?_
  refine wp_skip (hK27 _ _ ?_)
  refine dk2_seq (w4.heap.size) (w4.heap.size) (ops := regOps Try.f69 10) (N := 6) (by kernel_rfl) wide_orders (by kernel_rfl) fun w10 hw10 B11 hS K32 hK32 => ?_
  have zw10 : w10.heap.size = w4.heap.size := by rw [hw10]
  have sB11 := B11.size
  have hB := bt hB B11
  have m2 := m2.old B11
  have m3 := m3.old B11
  have m2_d := m2
  have m3_d := m3
  have hB_d := hB
  refine hF.d 0 40 (.load 27 (.tmp 2)) hS (fun W hW => x_ldW wide27 (m2_d.k2 hW (by omega)) rfl rfl) fun a hF => ?_
  refine hF.d 2 42 (.load 27 (.tmp 3)) hS (fun W hW => x_ldW wide27 (m3_d.k2 hW (by omega)) rfl rfl) fun a hF => ?_
  refine d1 1 (some 41) (.call (.mk (.value (.func 88)) #[(.tmp 40)] #[27])) fun ty pos af => ?_
  refine s_callR (R := fun v w' => RK w0 (fun k => k < w0.heap.size) v c.kids) [_] hF E88 rfl (by decide) (kidsOf101 c x (fun k => k < w0.heap.size) w0 w10 hx) ?_
  rintro v41 w12 a hv41 B13 hF
  have sB13 := B13.size
  have hB := bt hB B13
  have hS := hS.below B13
  refine s_end ⟨hS, ?_⟩
  refine d1 3 (some 43) (.call (.mk (.value (.func 88)) #[(.tmp 42)] #[27])) fun ty pos af => ?_
  refine s_callR (R := fun v w' => RK w0 (fun k => k < w0.heap.size) v d.kids) [_] hF E88 rfl (by decide) (kidsOf101 d y (fun k => k < w0.heap.size) w0 w12 hy) ?_
  rintro v43 w14 a hv43 B15 hF
  have sB15 := B15.size
  have hB := bt hB B15
  have hS := hS.below B15
  refine s_end ⟨hS, ?_⟩
  refine d1 4 (some 44) (.call (.mk (.value (.func 116)) #[(.tmp 41), (.tmp 43), (.func 69)] #[25, 25, 36])) fun ty pos af => ?_
  refine s_callR (R := fun v w' => ∃ b, v = .bool b ∧ (b = true ↔ c.kids.length = d.kids.length ∧ ∀ (i : Nat) p q, c.kids[i]? = some p → d.kids[i]? = some q → sameP p.ess q.ess)) [_, _, _] hF E116 rfl (by decide) (eqT117 c.kids d.kids _ _ w14 ((hv41.keep hB.size (fun k hk _ => hB.block k hk)).mono (fun k hk => by omega)) ((hv43.keep hB.size (fun k hk _ => hB.block k hk)).mono (fun k hk => by omega)) (by omega) (fun p q x y w i hp hq hx2 hy2 => ih p q x y w (by have := CT.kid_size hp; omega) hx2 hy2 (PT.fit_kid hfit hp))) ?_
  rintro _ w16 a ⟨b44, rfl, h44⟩ B17 hF
  have sB17 := B17.size
  have hB := bt hB B17
  have hS := hS.below B17
  refine s_end ⟨hS, ?_⟩
  refine hF.d 5 4 (.assign (.tmp 44)) hS (fun W hW => x_assign rfl) fun a hF => ?_
  refine d_end (by kernel_rfl) (hK32 _ _ ?_)
  refine wp_ret (res_slot hF rfl rfl ⟨_, rfl, ⟨_, rfl, by rw [h44, same_rest hx hy hk.2 hk.1]⟩, hB⟩)

set_option maxRecDepth 100000 in
set_option maxHeartbeats 400000 in
theorem Same40 (c d : CT) (x y : C8) (w0 : World) (hx : RC w0 (fun k => k < w0.heap.size) c x) (hy : RC w0 (fun k => k < w0.heap.size) d y) (hfit : c.ess.fit) : Calls Try.prog 29 #[tv x, tv y] w0 fun e w' => ∃ z, e = .returned z ∧ (∃ b, z = .bool b ∧ (b = true ↔ c.ok ∧ d.ok ∧ sameP c.ess d.ess)) ∧ Below w0.heap.size w0 w' := by
 have hB := Below.refl w0.heap.size w0
 have sB := hB.size
 refine calls_fs 18 [(0, tv x), (1, tv y)] Try.func29 rfl rfl rfl rfl rfl fun a hF => ?_
 refine wp_rs fun K1 hK1 => ?_
 refine s_box (tc x) hF (by decide) rfl rfl fun w2 b2 a eb2 m2 B3 zb2 hF => ?_
 have sB3 := B3.size
 have hB := bt hB B3
 refine s_box (tc y) hF (by decide) rfl rfl fun w4 b3 a eb3 m3 B5 zb3 hF => ?_
 have sB5 := B5.size
 have hB := bt hB B5
 have m2 := m2.old B5
 refine hF.v (x_assign rfl) fun a hF => ?_
 refine s_end (hK1 _ _ ?_)
 rcases (show ¬ c.ok ∨ (c.ok ∧ ¬ d.ok) ∨ (c.ok ∧ d.ok) by by_cases h : c.ok <;> by_cases h2 : d.ok <;> simp [h, h2]) with hk1 | ⟨hk1, hk2⟩ | ⟨hk1, hk2⟩
 ·
  skip
  refine wp_rs fun K3 hK3 => ?_
  refine hF.v (x_ldW wide27 m2 rfl rfl) fun a hF => ?_
  refine s_callB [_] hF E52 rfl (by decide) ((isGreat66 c x w4 (hx.bel hB)).mono fun e w' h => ⟨by rw [h.1, decide_eq_true hk1], h.2⟩) fun w6 a B7 hF => ?_
  have sB7 := B7.size
  have hB := bt hB B7
  refine hF.v (x_not rfl) fun a hF => ?_
  refine hF.v (x_move rfl) fun a hF => ?_
  refine s_grdn 8 hF rfl rfl (by decide) fun a hF => ?_
  refine s_grdn 8 hF rfl rfl (by decide) fun a hF => ?_
  refine s_grdn 8 hF rfl rfl (by decide) fun a hF => ?_
  refine hF.v (x_pick (b := false) rfl rfl) fun a hF => ?_
  refine hF.v (x_move rfl) fun a hF => ?_
  refine s_grdn 13 hF rfl rfl (by decide) fun a hF => ?_
  refine s_grdn 13 hF rfl rfl (by decide) fun a hF => ?_
  refine s_grdn 13 hF rfl rfl (by decide) fun a hF => ?_
  refine hF.v (x_pick (b := false) rfl rfl) fun a hF => ?_
  refine hF.v (x_assign rfl) fun a hF => ?_
  refine s_end (hK3 _ _ ?_)
  refine wp_ret (res_slot hF rfl rfl ⟨_, rfl, ⟨false, rfl, fun h => absurd h (by decide), fun h => (hk1 h.1).elim⟩, hB⟩)
 ·
  skip
  refine wp_rs fun K4 hK4 => ?_
  refine hF.v (x_ldW wide27 m2 rfl rfl) fun a hF => ?_
  refine s_callB [_] hF E52 rfl (by decide) ((isGreat66 c x w4 (hx.bel hB)).mono fun e w' h => ⟨by rw [h.1, decide_eq_false (fun h => h hk1)], h.2⟩) fun w8 a B9 hF => ?_
  have sB9 := B9.size
  have hB := bt hB B9
  have m3 := m3.old B9
  refine hF.v (x_not rfl) fun a hF => ?_
  refine hF.v (x_move rfl) fun a hF => ?_
  refine s_grd 8 hF rfl rfl rfl ?_
  refine hF.v (x_ldW wide27 m3 rfl rfl) fun a hF => ?_
  refine s_grd 8 hF rfl rfl rfl ?_
  refine s_callB [_] hF E52 rfl (by decide) ((isGreat66 d y w8 (hy.bel hB)).mono fun e w' h => ⟨by rw [h.1, decide_eq_true hk2], h.2⟩) fun w10 a B11 hF => ?_
  have sB11 := B11.size
  have hB := bt hB B11
  refine s_grd 8 hF rfl rfl rfl ?_
  refine hF.v (x_not rfl) fun a hF => ?_
  refine hF.v (x_pick (b := true) rfl rfl) fun a hF => ?_
  refine hF.v (x_move rfl) fun a hF => ?_
  refine s_grdn 13 hF rfl rfl (by decide) fun a hF => ?_
  refine s_grdn 13 hF rfl rfl (by decide) fun a hF => ?_
  refine s_grdn 13 hF rfl rfl (by decide) fun a hF => ?_
  refine hF.v (x_pick (b := false) rfl rfl) fun a hF => ?_
  refine hF.v (x_assign rfl) fun a hF => ?_
  refine s_end (hK4 _ _ ?_)
  refine wp_ret (res_slot hF rfl rfl ⟨_, rfl, ⟨false, rfl, fun h => absurd h (by decide), fun h => (hk2 h.2.1).elim⟩, hB⟩)
 ·
  skip
  refine wp_rs fun K5 hK5 => ?_
  refine hF.v (x_ldW wide27 m2 rfl rfl) fun a hF => ?_
  refine s_callB [_] hF E52 rfl (by decide) ((isGreat66 c x w4 (hx.bel hB)).mono fun e w' h => ⟨by rw [h.1, decide_eq_false (fun h => h hk1)], h.2⟩) fun w12 a B13 hF => ?_
  have sB13 := B13.size
  have hB := bt hB B13
  have m2 := m2.old B13
  have m3 := m3.old B13
  refine hF.v (x_not rfl) fun a hF => ?_
  refine hF.v (x_move rfl) fun a hF => ?_
  refine s_grd 8 hF rfl rfl rfl ?_
  refine hF.v (x_ldW wide27 m3 rfl rfl) fun a hF => ?_
  refine s_grd 8 hF rfl rfl rfl ?_
  refine s_callB [_] hF E52 rfl (by decide) ((isGreat66 d y w12 (hy.bel hB)).mono fun e w' h => ⟨by rw [h.1, decide_eq_false (fun h => h hk2)], h.2⟩) fun w14 a B15 hF => ?_
  have sB15 := B15.size
  have hB := bt hB B15
  have m2 := m2.old B15
  have m3 := m3.old B15
  refine s_grd 8 hF rfl rfl rfl ?_
  refine hF.v (x_not rfl) fun a hF => ?_
  refine hF.v (x_pick (b := true) rfl rfl) fun a hF => ?_
  refine hF.v (x_move rfl) fun a hF => ?_
  refine s_grd 13 hF rfl rfl rfl ?_
  refine hF.v (x_ldW wide27 m2 rfl rfl) fun a hF => ?_
  refine s_grd 13 hF rfl rfl rfl ?_
  refine hF.v (x_ldW wide27 m3 rfl rfl) fun a hF => ?_
  refine s_grd 13 hF rfl rfl rfl ?_
  refine s_callR (R := fun v w' => ∃ b, v = .bool b ∧ (b = true ↔ sameP c.ess d.ess)) [_, _] hF E69 rfl (by decide) (same81 (c.size + 1) c d x y w14 (by omega) (hx.bel hB) (hy.bel hB) hfit) ?_
  rintro _ w16 a ⟨b16, rfl, h16⟩ B17 hF
  have sB17 := B17.size
  have hB := bt hB B17
  refine hF.v (x_pick (b := true) rfl rfl) fun a hF => ?_
  refine hF.v (x_assign rfl) fun a hF => ?_
  refine s_end (hK5 _ _ ?_)
  refine wp_ret (res_slot hF rfl rfl ⟨_, rfl, ⟨_, rfl, by rw [h16]; exact ⟨fun h => ⟨hk1, hk2, h⟩, fun h => h.2.2⟩⟩, hB⟩)
end Go.Proofs.Ytbhhbfdoadecgaa

namespace Go.Proofs.Ytbhhbfdoadecgaa
open Go.RowKit Go.Shelf
set_option linter.unusedVariables false
set_option linter.unusedSimpArgs false
theorem okL_snd {W : World} {x : C3} {l : Lv} (h : RL W x l) (hc : (chk 32 1048576 6 1 100 l).1 = 0) : sndL l := by
 obtain ⟨s, h1, h2, h3, h4⟩ := chk_sl (D := 32) (top := 1048576) (vars := 6) h 1 100 hc
 refine rs_snd h h1 ⟨by omega, by omega, ?_⟩
 have key : ∀ s : SL, s.nums 1048576 6 → s.nums 1099511627776 1001 := by
  intro s
  induction s with
  | num n => simp only [SL.nums]; omega
  | var n => simp only [SL.nums]; omega
  | succ n a ih => simp only [SL.nums]; exact fun ⟨a1, a2, a3⟩ => ⟨a1, by omega, ih a3⟩
  | mx a b ha hb => simp only [SL.nums]; exact fun ⟨a1, a2⟩ => ⟨ha a1, hb a2⟩
 exact key s h2
theorem eqO_self {W : World} {x : C3} {l : Lv} (h : RL W x l) (hc : (chk 32 1048576 6 1 100 l).1 = 0) : eqO (slO l) (slO l) := by
 obtain ⟨s, h1, h2⟩ := sound_sl h (okL_snd h hc)
 rw [slO_of h h1 h2]
 exact ⟨rfl, rfl⟩
theorem same_self {W : World} {A : Nat → Prop} : ∀ {c : CT} {x : C8}, RC W A c x → c.okV 6 → sameP c.ess c.ess
 | .var n m, x, h, ho => rfl
 | .sort l m, x, h, ho => eqO_self h.2.1.rl ho
 | .cst s ls m, x, h, ho => by
  obtain ⟨xs, g1, g2, g3⟩ := h.2.2.1
  refine ⟨rfl, rfl, fun i o p e1 e2 => ?_⟩
  rw [e1] at e2
  cases e2
  rw [List.getElem?_map] at e1
  obtain ⟨l, e3, rfl⟩ := Option.map_eq_some_iff.1 e1
  have hi := (List.getElem?_eq_some_iff.1 e3).1
  exact eqO_self (g3 i (xs[i]'(by omega)) l (List.getElem?_eq_getElem (by omega)) e3).rl (ho.2 l (List.mem_of_getElem? e3))
 | .odd k m, x, h, ho => ho.elim
 | .two k a b m, x, ⟨_, _, ⟨y, z, cs, _, ha, hb⟩, _⟩, ho => ⟨rfl, same_self ha ho.1, same_self hb ho.2⟩
 | .lt a b c m, x, ⟨_, ⟨y, z, u, cs, _, ha, hb, hc⟩, _⟩, ho => ⟨same_self ha ho.1, same_self hb ho.2.1, same_self hc ho.2.2⟩
section
variable {P : Program} {n : Nat} {l : List (Nat × Value)} {w : World}
end
end Go.Proofs.Ytbhhbfdoadecgaa

namespace Go.Proofs.Ytbhhbfdoadecgaa
open Go.RowKit Go.Shelf
set_option linter.unusedVariables false
set_option linter.unusedSimpArgs false

end Go.Proofs.Ytbhhbfdoadecgaa

namespace Go.Proofs.Ytbhhbfdoadecgaa
open Go.RowKit Go.Shelf
set_option linter.unusedVariables false
set_option linter.unusedSimpArgs false

noncomputable def allW (cs : List CT) : Bool := cs.all fun c => decide ((c.mayT 6 1 0).1 = 0)
theorem allW_at {cs : List CT} {i : Nat} {p : CT} (h : cs[i]? = some p) : allW (cs.drop i) = (decide ((p.mayT 6 1 0).1 = 0) && allW (cs.drop (i + 1))) := by
 have hi : i < cs.length := (List.getElem?_eq_some_iff.1 h).1
 have : cs[i] = p := (List.getElem?_eq_some_iff.1 h).2
 rw [← List.getElem_cons_drop hi, this]; rfl
theorem allW_mem {cs : List CT} (h : allW cs = true) : ∀ c ∈ cs, (c.mayT 6 1 0).1 = 0 := fun c hc => of_decide_eq_true (List.all_eq_true.1 h c hc)
theorem wf_of {W : World} {A : Nat → Prop} {c : CT} {x : C8} (hx : RC W A c x) (h : (c.mayT 6 1 0).1 = 0) : c.wf := by
 have hm := may_zero (vars := 6) c x 1 0 hx h
 exact ⟨hm.1, by have := hm.2.2.1; omega, by have := hm.2.2.2; omega⟩
set_option maxRecDepth 100000 in
set_option maxHeartbeats 1600000 in
theorem whole50e (cs : List CT) (v : Value) (w0 : World) (hV : RK w0 (fun k => k < w0.heap.size) v cs) (hlen : cs.length ≤ 1000000) (hfit : ∀ c ∈ cs, c.fit) : Calls Try.prog 27 #[v] w0 fun e w' => e = .returned (.bool (allW cs)) ∧ Below w0.heap.size w0 w' := by
 obtain ⟨av, cv, hve, _⟩ := hV.form
 subst hve
 have hB := Below.refl w0.heap.size w0
 have sB := hB.size
 refine calls_fs 15 [(0, .slice av cs.length cv)] Try.func27 rfl rfl rfl rfl rfl fun a hF => ?_
 refine wp_rs fun K1 hK1 => ?_
 refine hF.v (x_assign rfl) fun a hF => ?_
 refine s_end (hK1 _ _ ?_)
 refine wp_seq_k fun K2 hK2 => ?_
 refine wp_rs fun K3 hK3 => ?_
 refine hF.v (x_move rfl) fun a hF => ?_
 refine hF.v (x_len Try.underlying25 rfl) fun a hF => ?_
 refine hF.v (x_move rfl) fun a hF => ?_
 refine s_end (hK3 _ _ ?_)
 refine wp_block ?_
 refine wp_up cs.length (fun i a w => allW cs = allW (cs.drop i) ∧ Below w0.heap.size w0 w ∧ Fs 15 a [(5, .slice av cs.length cv), (6, .int .i64 (cs.length : Int)), (7, .int .i64 (i : Int))]) ⟨rfl, hB, hF.sub _ rfl⟩ ?_
 clear hF hB
 rintro i a w hi ⟨hok, hB, hF⟩ K' hK'
 have sB := hB.size
 refine wp_rs fun K4 hK4 => ?_
 refine hF.v (x_lss (b := decide (i < cs.length)) (decide_eq_decide.2 (by omega)) rfl rfl) fun a hF => ?_
 refine s_end (hK4 _ _ ?_)
 refine wp_seq_k fun K5 hK5 => ?_
 refine wp_iff hF rfl (fun hc8 => ?_) (fun hc8 => ?_)
 ·
  obtain ⟨b9, off9, c9, y, p, hve, hp, hry, hAb, hbl, hrow⟩ := hV.row (i := i) (by omega)
  cases hve
  have hdr := allW_at hp
  refine wp_skip (hK5 _ _ ?_)
  refine wp_seq_k fun K6 hK6 => ?_
  refine wp_block ?_
  refine wp_rs fun K7 hK7 => ?_
  refine hF.v (x_ixa rfl rfl (m_ixsK i Try.underlying25 el25.size rfl (by omega))) fun a hF => ?_
  refine hF.v (x_ldA wide27 (hrow _ (hB.block _ hbl)) rfl rfl) fun a hF => ?_
  refine s_alloc hF (by decide) zero27 fun w2 b4 a eb4 m4 B3 zb4 hF => ?_
  have sB3 := B3.size
  have hB := bt hB B3
  refine s_putW hF rfl rfl (size_wide wide27) m4 rfl hry.one fun w6 m4 o7 => ?_
  have so7 := o7.size
  have hB := hB.trans (o7.below (by omega))
  refine s_end (hK7 _ _ ?_)
  refine wp_rs fun K8 hK8 => ?_
  refine hF.v (x_ldW wide27 m4 rfl rfl) fun a hF => ?_
  refine s_callB [_, _] hF E67 rfl (by decide) (rMay30 6 p y w6 (hry.bel hB) (hfit p (List.mem_of_getElem? hp))) fun w8 a B9 hF => ?_
  have sB9 := B9.size
  have hB := bt hB B9
  refine hF.v (x_neq rfl rfl rfl) fun a hF => ?_
  refine s_end (hK8 _ _ ?_)
  refine wp_iff hF rfl (fun hc13 => ?_) (fun hc13 => ?_)
  ·
   rw [hdr, decide_eq_false hc13, Bool.false_and] at hok
   refine wp_rs fun K9 hK9 => ?_
   refine hF.v (x_assign rfl) fun a hF => ?_
   refine s_end (hK9 _ _ ?_)
   refine wp_ret (inb_ret (then_ret (then_ret (inb_ret (then_ret (res_slot hF rfl rfl ⟨by rw [hok]; try rfl, hB⟩))))))
  ·
   have hz : (p.mayT 6 1 0).1 = 0 := by omega
   rw [hdr, decide_eq_true hz, Bool.true_and] at hok
   refine wp_skip (hK6 _ _ ?_)
   refine wp_region_lit ?_
   refine hF.v (x_addn (i + 1) (by omega) (by omega) rfl rfl) fun a hF => ?_
   refine hF.v (x_move rfl) fun a hF => ?_
   refine s_end (hK' _ _ (by omega) ⟨hok, hB, hF.sub _ rfl⟩)
 ·
  obtain rfl : i = cs.length := by omega
  rw [List.drop_length] at hok
  refine wp_exit (hK2 _ _ ?_)
  refine wp_rs fun K10 hK10 => ?_
  refine hF.v (x_assign rfl) fun a hF => ?_
  refine s_end (hK10 _ _ ?_)
  refine wp_ret (res_slot hF rfl rfl ⟨by rw [hok]; try rfl, hB⟩)

end Go.Proofs.Ytbhhbfdoadecgaa

namespace Go.Proofs.Ytbhhbfdoadecgaa
open Go.RowKit Go.Shelf
set_option linter.unusedVariables false
set_option linter.unusedSimpArgs false

/-- No universe and no constant. -/
def PT.plain : PT → Prop
 | .var _ => True
 | .two _ p q => p.plain ∧ q.plain
 | .lt p q r => p.plain ∧ q.plain ∧ r.plain
 | .odd _ => True
 | _ => False
/-- What near goes by. -/
structure Nr (c d : CT) (k : Int) : Prop where
 kc : c.kd = k
 kd : d.kd = k
 ar : arT k = c.kids.length
 ln : c.kids.length = d.kids.length
 lc : ¬ (arT c.kd < 0 ∨ (c.len : Int) < arT c.kd)
 ld : ¬ (arT d.kd < 0 ∨ (d.len : Int) < arT d.kd)
 kids : ∀ (i : Nat) p q, c.kids[i]? = some p → d.kids[i]? = some q → p.ess = q.ess ∧ p.ess.plain
section
variable {P : Program} {n : Nat} {l : List (Nat × Value)} {w : World}
end

end Go.Proofs.Ytbhhbfdoadecgaa

namespace Go.Proofs.Ytbhhbfdoadecgaa
open Go.RowKit Go.Shelf
set_option linter.unusedVariables false
set_option linter.unusedSimpArgs false

/-- A node with its kind and its number alone. -/
def bareC : CT → C8
 | .var n _ => ⟨1, n, emptyB, (0, 0, nilS), nilS, nilS⟩
 | c => ⟨c.kd, 0, emptyB, (0, 0, nilS), nilS, nilS⟩
def chv (dO f b : Int) (z : C8) (vl : Value) : List Value := [.int .i64 dO, .int .i64 f, .int .i64 b, .int .i64 z.k, .int .i64 z.n, .string z.s, .int .i64 z.l.1, .int .i64 z.l.2.1, z.l.2.2, z.ls, z.ts, vl]
def liftR (f b d n : Int) : Int := liftN f b d n
end Go.Proofs.Ytbhhbfdoadecgaa

namespace Go.Proofs.Ytbhhbfdoadecgaa
open Go.RowKit Go.Shelf
set_option linter.unusedVariables false
set_option linter.unusedSimpArgs false

def Z0 : C8 := ⟨0, 0, emptyB, (0, 0, nilS), nilS, nilS⟩
/-- How great Inst's outcome would be. -/
def iszP (c v : CT) : Int := if c.ok ∧ v.ok then min 20001 ((c.size : Int) + (c.ess.occ 0 : Int) * ((v.size : Int) - 1)) else 0

def fitC (c : CT) (x : C8) : C8 := if c.ok then x else Z0

end Go.Proofs.Ytbhhbfdoadecgaa

namespace Go.Proofs.Ytbhhbfdoadecgaa
open Go.RowKit Go.Shelf
set_option linter.unusedVariables false
set_option linter.unusedSimpArgs false

end Go.Proofs.Ytbhhbfdoadecgaa

namespace Go.Proofs.Ytbhhbfdoadecgaa
open Go.RowKit Go.Shelf
set_option linter.unusedVariables false
set_option linter.unusedSimpArgs false

/-- How a function that keeps a state hands things on: J s: the state is s, between two of its steps; K: what it knows by that; St: the steps that it takes by itself; Rl: what a round makes of the state; enc: what it hands on; Dn: where it ends. -/
def HandsG (P : Program) (g : FuncId) (lb : Array Value) (lo hi : Nat) (w0 : World) {σ : Type} (S : σ → Prop) (K : σ → World → Prop) (St : σ → World → σ → World → Prop) (Rl : σ → σ → Prop) (enc : σ → List Value → Prop) (Dn : σ → Prop) : Prop :=
 ∀ (L : Nat) (J : σ → World → Prop) (Jx : World → Prop), (∀ s W, J s W → K s W) → (∀ s W s' W', J s W → St s W s' W' → J s' W') → (∀ W W', Jx W → Below hi W W' → Jx W') →
  (∀ s W vs, J s W → enc s vs → hi ≤ W.heap.size → Below lo w0 W → YieldAt Fence.wide 0 P L vs.toArray W fun en W' => Mid lo hi W W' ∧ ((en = .returned (.bool true) ∧ ∃ s', Rl s s' ∧ J s' W') ∨ (en = .returned (.bool false) ∧ Jx W'))) →
  ∀ s W, S s → J s W → hi ≤ W.heap.size → Below lo w0 W → Calls P g (#[.func (.yield L) #[] #[]] ++ lb) W fun en W' => (∃ v, en = .returned v) ∧ Mid lo hi W W' ∧ ((∃ s', Dn s' ∧ J s' W') ∨ Jx W')

/-- How a round's body may be left. -/
def rndPostG {σ : Type} (lo hi : Nat) (I : σ → World → Prop) (Ix : Code → World → Prop) (Rl : σ → σ → Prop) (s : σ) (W : World) : Exit → Act → World → Prop
 | .normal, _, W' => Mid lo hi W W' ∧ ∃ s', Rl s s' ∧ I s' W'
 | .ret, _, W' => Mid lo hi W W' ∧ Ix .ret W'
 | .exit id, _, W' => Mid lo hi W W' ∧ Ix (.exit id) W'
 | .goto t, _, W' => Mid lo hi W W' ∧ Ix (.goto t) W'
 | .panic _, _, _ => False
 | .outgrown, _, _ => False
theorem rndPostG.calm {σ : Type} {lo hi : Nat} {I : σ → World → Prop} {Ix : Code → World → Prop} {Rl : σ → σ → Prop} {s : σ} {W : World} : Calm (rndPostG lo hi I Ix Rl s W) := ⟨fun _ _ _ h => h, fun _ _ h => h⟩

/-! ### Steps behind a yield, within the fence -/
section
variable {P : Program} {n d : Nat} {l : List (Nat × Value)} {w : World} {a : Act} {ops : Array Oper} {Q : Exit → Act → World → Prop} {rest : List Oper} {ty : TypeId} {pos : String} {af : Array Edge} {ds : List Deferred} {op : Op} {v : Value} {r : Option Nat} {m : Nat}
theorem i_grd {o : Oper} {j : Nat} {want : Bool} (dj : Nat) (hF : Fs n a l (ds := ds)) (hg : o.guard = some (j, want)) (hj : (ops[j]?).bind (·.dst) = some dj) (hb : lk l dj = some (.bool want))
  (h : wpListIn (Fw r) m P ops Q ({ o with guard := none } :: rest) a w) : wpListIn (Fw r) m P ops Q (o :: rest) a w := by
 unfold wpListIn at h ⊢
 rw [if_pos (wanted_none _ rfl _)] at h
 rw [if_pos (by rw [wanted_some hF hg hj hb]; simp)]
 exact h
theorem i_grdn {j : Nat} {want : Bool} (dj : Nat) (hF : Fs n a l (ds := ds)) (hj : (ops[j]?).bind (·.dst) = some dj) (hb : lk l dj = some (.bool (!want))) (hd : d < n)
  (h : ∀ a', Fs n a' ((d, undef) :: l) (ds := ds) → wpListIn (Fw r) m P ops Q rest a' w) : wpListIn (Fw r) m P ops Q (⟨some d, op, ty, pos, af, some (j, want)⟩ :: rest) a w := by
 unfold wpListIn
 rw [if_neg (by rw [wanted_some hF rfl hj hb]; simp)]
 exact ⟨fun _ _ => trivial, h _ (hF.put d hd _)⟩
theorem i_call {f : FuncId} {xs : List Operand} {ts : Array TypeId} (vals : List Value) {R : Value → World → Prop} (hF : Fs n a l (ds := ds)) (hent : Enters P f) (hargs : xs.map (ov l) = vals.map some) (hd : d < n)
  (hC : Calls P f vals.toArray w fun e w' => ∃ v, e = .returned v ∧ R v w')
  (h : ∀ v w' a', R v w' → Fs n a' ((d, v) :: l) (ds := ds) → wpListIn (Fw r) m P ops Q rest a' w') : wpListIn (Fw r) m P ops Q (⟨some d, .call { callee := .value (.func f), args := xs.toArray, argTypes := ts }, ty, pos, af, none⟩ :: rest) a w := by
 unfold wpListIn
 rw [if_pos (wanted_none _ rfl _)]
 refine ⟨fun _ _ => trivial, ?_⟩
 rw [Oper.semAt_eq _ _ _ (by intro c; simp), run_call hF hent hargs _ rfl]
 refine ⟨fun h => absurd h (by simp [Fw]), callsIn_Fw (hC.mono ?_)⟩
 rintro e w' ⟨v, rfl, hR⟩
 exact h v w' _ hR (hF.put d hd v)
theorem i_callB {f : FuncId} {xs : List Operand} {ts : Array TypeId} (vals : List Value) (hF : Fs n a l (ds := ds)) (hent : Enters P f) (hargs : xs.map (ov l) = vals.map some) (hd : d < n) (hC : Calls P f vals.toArray w fun e w' => e = .returned v ∧ Below w.heap.size w w')
  (h : ∀ w' a', Below w.heap.size w w' → Fs n a' ((d, v) :: l) (ds := ds) → wpListIn (Fw r) m P ops Q rest a' w') : wpListIn (Fw r) m P ops Q (⟨some d, .call { callee := .value (.func f), args := xs.toArray, argTypes := ts }, ty, pos, af, none⟩ :: rest) a w :=
 i_call (R := fun u w' => u = v ∧ Below w.heap.size w w') vals hF hent hargs hd (hC.mono fun e w' he => ⟨v, he.1, rfl, he.2⟩) (by rintro _ w' a' ⟨rfl, B⟩ hF'; exact h w' a' B hF')
end
end Go.Proofs.Ytbhhbfdoadecgaa

namespace Go.Proofs.Ytbhhbfdoadecgaa
open Go.RowKit Go.Shelf
set_option linter.unusedVariables false
set_option linter.unusedSimpArgs false

def CT.spL : CT → List CT
 | .two k a b m => .two k a b m :: (if k = 6 then a.spL else [])
 | c => [c]
theorem CT.spL_zero : ∀ (c : CT), c.spL[0]? = some c
 | .two .. => rfl
 | .lt .. => rfl
 | .var .. => rfl
 | .sort .. => rfl
 | .cst .. => rfl
 | .odd .. => rfl
theorem CT.spL_next : ∀ (c ci : CT) (i : Nat), c.spL[i]? = some ci → ((ci.kd = 6 ∧ 0 < ci.kids.length) → ∃ k, ci.kids[0]? = some k ∧ c.spL[i + 1]? = some k) ∧ (¬ (ci.kd = 6 ∧ 0 < ci.kids.length) → i + 1 = c.spL.length)
 | .two k a b m, ci, 0, h => by
  simp [CT.spL] at h
  subst h
  by_cases hk : k = 6
  ·
   subst hk
   refine ⟨fun _ => ⟨a, rfl, ?_⟩, fun h => absurd ⟨rfl, by simp [CT.kids]⟩ h⟩
   simp [CT.spL, a.spL_zero]
  ·
   refine ⟨fun h => absurd h.1 hk, fun _ => ?_⟩
   simp [CT.spL, hk]
 | .two k a b m, ci, i + 1, h => by
  by_cases hk : k = 6
  ·
   subst hk
   simp [CT.spL] at h
   obtain ⟨h1, h2⟩ := CT.spL_next a ci i h
   refine ⟨fun h3 => ?_, fun h3 => ?_⟩
   ·
    obtain ⟨q, h4, h5⟩ := h1 h3
    exact ⟨q, h4, by simpa [CT.spL] using h5⟩
   ·
    have := h2 h3
    simp [CT.spL]
    omega
  ·
   simp [CT.spL, hk] at h
 | .lt a b c m, ci, i, h => by
  rcases i with _ | i
  ·
   simp [CT.spL] at h; subst h; exact ⟨fun h => by simp [CT.kd] at h, fun _ => rfl⟩
  ·
   simp [CT.spL] at h
 | .var n m, ci, i, h => by
  rcases i with _ | i
  ·
   simp [CT.spL] at h; subst h; exact ⟨fun h => by simp [CT.kd] at h, fun _ => rfl⟩
  ·
   simp [CT.spL] at h
 | .sort n m, ci, i, h => by
  rcases i with _ | i
  ·
   simp [CT.spL] at h; subst h; exact ⟨fun h => by simp [CT.kd] at h, fun _ => rfl⟩
  ·
   simp [CT.spL] at h
 | .cst s n m, ci, i, h => by
  rcases i with _ | i
  ·
   simp [CT.spL] at h; subst h; exact ⟨fun h => by simp [CT.kd] at h, fun _ => rfl⟩
  ·
   simp [CT.spL] at h
 | .odd n m, ci, i, h => by
  rcases i with _ | i
  ·
   simp [CT.spL] at h; subst h; exact ⟨fun h => by simp [CT.kids] at h, fun _ => rfl⟩
  ·
   simp [CT.spL] at h
def spK (w0 : World) (c : CT) (b1 : Nat) (s : Nat × Bool) (W : World) : Prop := ∃ ci yi, c.spL[s.1]? = some ci ∧ Blk W b1 27 (tc yi) ∧ RC w0 (fun k => k < w0.heap.size) ci yi
def spSt (w0 : World) (c : CT) (b1 : Nat) (s : Nat × Bool) (W : World) (s' : Nat × Bool) (W' : World) : Prop :=
 (s' = s ∧ Below W.heap.size W W') ∨ (s.2 = true ∧ s' = (s.1 + 1, false) ∧ Only b1 W W' ∧ spK w0 c b1 s' W')
def spRl (s s' : Nat × Bool) : Prop := s' = (s.1, true)
def spEnc (w0 : World) (c : CT) (s : Nat × Bool) (vs : List Value) : Prop := s.2 = false ∧ ∃ ci yi, c.spL[s.1]? = some ci ∧ vs = [tv yi] ∧ RC w0 (fun k => k < w0.heap.size) ci yi
def spDn (c : CT) (s : Nat × Bool) : Prop := s.2 = true ∧ s.1 + 1 = c.spL.length

theorem exit_at {K1 K2 : Act → World → Prop} {Q : Exit → Act → World → Prop} {id : Nat} {a : Act} {w : World} (h : Q .normal a w) : Exit.then K1 (Exit.then K2 (Exit.inBlock id Q)) (.exit id) a w := by
 show (if id = id then Q .normal a w else Q (.exit id) a w)
 rw [if_pos rfl]
 exact h

end Go.Proofs.Ytbhhbfdoadecgaa
