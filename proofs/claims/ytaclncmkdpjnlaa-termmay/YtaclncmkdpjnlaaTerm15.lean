/- The reference's Name and May; whole. -/
import Derived.Test.YtaclncmkdpjnlaaTerm14
namespace Go.Proofs.Ytaclncmkdpjnlaa
open Go.RowKit Go.Shelf
set_option linter.unusedVariables false
set_option linter.unusedSimpArgs false

def letC (c : UInt8) : Prop := 97 ≤ c.toNat ∧ c.toNat ≤ 122
def othC (c : UInt8) : Prop := (48 ≤ c.toNat ∧ c.toNat ≤ 57) ∨ c.toNat = 95 ∨ c.toNat = 46
def okAt (l : List UInt8) (i : Nat) : Prop := ∀ c, l[i]? = some c → letC c ∨ (i ≠ 0 ∧ othC c)
def nameP (l : List UInt8) : Prop := (∀ i, okAt l i) ∧ 1 ≤ l.length ∧ l.length ≤ 32
noncomputable def nameB (s : ByteArray) : Bool := @decide (nameP s.data.toList) (Classical.propDecidable _)
theorem nameB_true {s : ByteArray} : nameB s = true ↔ nameP s.data.toList := by unfold nameB; exact @decide_eq_true_iff _ (Classical.propDecidable _)
theorem nameB_of {s : ByteArray} {b : Bool} (h : b = true ↔ nameP s.data.toList) : nameB s = b := by
  rw [Bool.eq_iff_iff, nameB_true, h]
theorem size_list (s : ByteArray) : s.data.toList.length = s.size := by simp
/-- No name and no list of levels is longer than may be. -/
def CT.fit : CT → Prop
  | .cst s ls _ => s.size ≤ 9223372036854775807 ∧ ls.length ≤ 9223372036854775807
  | .two _ a b _ => a.fit ∧ b.fit
  | .lt a b c _ => a.fit ∧ b.fit ∧ c.fit
  | _ => True
theorem CT.fit_kid : ∀ {c k : CT} {i : Nat}, c.fit → c.kids[i]? = some k → k.fit
  | .two _ a b _, k, i, h, hk => by
    rcases i with _ | _ | i
    · simp [CT.kids] at hk; subst hk; exact h.1
    · simp [CT.kids] at hk; subst hk; exact h.2
    · simp [CT.kids] at hk
  | .lt a b c _, k, i, h, hk => by
    rcases i with _ | _ | _ | i
    · simp [CT.kids] at hk; subst hk; exact h.1
    · simp [CT.kids] at hk; subst hk; exact h.2.1
    · simp [CT.kids] at hk; subst hk; exact h.2.2
    · simp [CT.kids] at hk
  | .var .., k, i, h, hk => by simp [CT.kids] at hk
  | .sort .., k, i, h, hk => by simp [CT.kids] at hk
  | .cst .., k, i, h, hk => by simp [CT.kids] at hk
  | .odd .., k, i, h, hk => by simp [CT.kids] at hk
def fstErr (vars : Int) : List Lv → Int
  | [] => 0
  | l :: ls => if (chk 32 1048576 vars 1 100 l).1 ≠ 0 then (chk 32 1048576 vars 1 100 l).1 else fstErr vars ls
noncomputable def leafErr (vars : Int) : CT → Int
  | .var n _ => if n < 0 ∨ 1048576 < n then 1 else 0
  | .sort l _ => (chk 32 1048576 vars 1 100 l).1
  | .cst s ls _ => if nameB s = false then 8 else if 6 < ls.length then 2 else fstErr vars ls
  | _ => 0
noncomputable def nodeErr (vars d : Int) (n : Nat) (c : CT) : Int := if 64 < d ∨ 400 < n then 2 else if arT c.kd < 0 ∨ (c.len : Int) ≠ arT c.kd then 1 else leafErr vars c
noncomputable def CT.mayT (vars : Int) : CT → Int → Nat → Int × Nat
  | .two k a b m, d, n => if nodeErr vars d (n + 1) (.two k a b m) ≠ 0 then (nodeErr vars d (n + 1) (.two k a b m), n + 1) else
    if (a.mayT vars (d + 1) (n + 1)).1 ≠ 0 then a.mayT vars (d + 1) (n + 1) else b.mayT vars (d + 1) (a.mayT vars (d + 1) (n + 1)).2
  | .lt a b c m, d, n => if nodeErr vars d (n + 1) (.lt a b c m) ≠ 0 then (nodeErr vars d (n + 1) (.lt a b c m), n + 1) else
    if (a.mayT vars (d + 1) (n + 1)).1 ≠ 0 then a.mayT vars (d + 1) (n + 1) else
    if (b.mayT vars (d + 1) (a.mayT vars (d + 1) (n + 1)).2).1 ≠ 0 then b.mayT vars (d + 1) (a.mayT vars (d + 1) (n + 1)).2 else c.mayT vars (d + 1) (b.mayT vars (d + 1) (a.mayT vars (d + 1) (n + 1)).2).2
  | .var z m, d, n => (nodeErr vars d (n + 1) (.var z m), n + 1)
  | .sort l m, d, n => (nodeErr vars d (n + 1) (.sort l m), n + 1)
  | .cst s ls m, d, n => (nodeErr vars d (n + 1) (.cst s ls m), n + 1)
  | .odd k m, d, n => (nodeErr vars d (n + 1) (.odd k m), n + 1)
noncomputable def mayK (vars : Int) : List CT → Int → Nat → Int × Nat
  | [], _, n => (0, n)
  | k :: ks, d, n => if (k.mayT vars d n).1 ≠ 0 then k.mayT vars d n else mayK vars ks d (k.mayT vars d n).2
theorem may_last (p : Int × Nat) : (if p.1 ≠ 0 then p else (0, p.2)) = p := by
  split
  · rfl
  · next h => have : p.1 = 0 := by omega
              rw [← this]
theorem mayT_eq (vars : Int) (c : CT) (d : Int) (n : Nat) : c.mayT vars d n = if nodeErr vars d (n + 1) c ≠ 0 then (nodeErr vars d (n + 1) c, n + 1) else mayK vars c.kids (d + 1) (n + 1) := by
  cases c <;> simp only [CT.mayT, CT.kids, mayK, may_last]
  all_goals (split <;> first | rfl | (rename_i h; rw [show nodeErr vars d (n + 1) _ = 0 by omega]))
theorem nodeErr_two {vars d : Int} {n : Nat} {c : CT} (h : 64 < d ∨ 400 < n) : nodeErr vars d n c = 2 := if_pos h
theorem nodeErr_one {vars d : Int} {n : Nat} {c : CT} (h : ¬ (64 < d ∨ 400 < n)) (h2 : arT c.kd < 0 ∨ (c.len : Int) ≠ arT c.kd) : nodeErr vars d n c = 1 := by unfold nodeErr; rw [if_neg h, if_pos h2]
theorem nodeErr_leaf {vars d : Int} {n : Nat} {c : CT} (h : ¬ (64 < d ∨ 400 < n)) (h2 : ¬ (arT c.kd < 0 ∨ (c.len : Int) ≠ arT c.kd)) : nodeErr vars d n c = leafErr vars c := by unfold nodeErr; rw [if_neg h, if_neg h2]
theorem leafErr_rest {W : World} {A : Nat → Prop} {vars : Int} : ∀ {c : CT} {x : C8}, RC W A c x → (x.k ≠ 1 ∧ x.k ≠ 2 ∧ x.k ≠ 7) → leafErr vars c = 0
  | .var .., x, h, hk => by have := h.1; omega
  | .sort .., x, h, hk => by have := h.1; omega
  | .cst .., x, h, hk => by have := h.1; omega
  | .odd .., x, h, hk => rfl
  | .two .., x, h, hk => rfl
  | .lt .., x, h, hk => rfl
/-- What passes. -/
def CT.okV (vars : Int) : CT → Prop
  | .var n _ => 0 ≤ n ∧ n ≤ 1048576
  | .sort l _ => (chk 32 1048576 vars 1 100 l).1 = 0
  | .cst _ ls _ => ls.length ≤ 6 ∧ ∀ l ∈ ls, (chk 32 1048576 vars 1 100 l).1 = 0
  | .odd .. => False
  | .two _ a b _ => a.okV vars ∧ b.okV vars
  | .lt a b c _ => a.okV vars ∧ b.okV vars ∧ c.okV vars
theorem fstErr_zero {vars : Int} : ∀ {ls : List Lv}, fstErr vars ls = 0 → ∀ l ∈ ls, (chk 32 1048576 vars 1 100 l).1 = 0
  | [], _, l, h => by cases h
  | l' :: ls, h, l, hl => by
    unfold fstErr at h
    split at h
    · next h2 => exact absurd h h2
    · next h2 =>
      rcases List.mem_cons.1 hl with rfl | hl
      · omega
      · exact fstErr_zero h l hl
theorem nodeErr_zero {vars d : Int} {n : Nat} {c : CT} (h : nodeErr vars d n c = 0) : d ≤ 64 ∧ n ≤ 400 ∧ ¬ (arT c.kd < 0 ∨ (c.len : Int) ≠ arT c.kd) ∧ leafErr vars c = 0 := by
  unfold nodeErr at h
  split at h
  · omega
  · split at h
    · omega
    · exact ⟨by omega, by omega, by assumption, h⟩
theorem may_zero {W : World} {A : Nat → Prop} {vars : Int} : ∀ (c : CT) (x : C8) (d : Int) (n : Nat), RC W A c x → (c.mayT vars d n).1 = 0 → c.okV vars ∧ (c.mayT vars d n).2 = n + c.size ∧ n + c.size ≤ 400 ∧ d + c.dep ≤ 65
  | .two k a b m, x, d, n, hx, h => by
    obtain ⟨_, _, ⟨y, z, cs, _, ha, hb⟩, _⟩ := hx
    simp only [CT.mayT] at h ⊢
    split at h
    · next h1 => exact absurd h h1
    · next h1 =>
      rw [if_neg h1]
      have h0 := nodeErr_zero (show nodeErr vars d (n + 1) (.two k a b m) = 0 by omega)
      split at h
      · next h2 => exact absurd h h2
      · next h2 =>
        rw [if_neg h2]
        obtain ⟨a1, a2, a3, a4⟩ := may_zero (vars := vars) a y (d + 1) (n + 1) ha (by omega)
        obtain ⟨b1, b2, b3, b4⟩ := may_zero (vars := vars) b z (d + 1) (a.mayT vars (d + 1) (n + 1)).2 hb h
        refine ⟨⟨a1, b1⟩, ?_, ?_, ?_⟩
        · rw [b2, a2]; simp only [CT.size]; omega
        · rw [a2] at b3; simp only [CT.size]; omega
        · simp only [CT.dep]; omega
  | .lt a b c m, x, d, n, hx, h => by
    obtain ⟨_, ⟨y, z, u, cs, _, ha, hb, hc⟩, _⟩ := hx
    simp only [CT.mayT] at h ⊢
    split at h
    · next h1 => exact absurd h h1
    · next h1 =>
      rw [if_neg h1]
      have h0 := nodeErr_zero (show nodeErr vars d (n + 1) (.lt a b c m) = 0 by omega)
      split at h
      · next h2 => exact absurd h h2
      · next h2 =>
        rw [if_neg h2]
        split at h
        · next h3 => exact absurd h h3
        · next h3 =>
          rw [if_neg h3]
          obtain ⟨a1, a2, a3, a4⟩ := may_zero (vars := vars) a y (d + 1) (n + 1) ha (by omega)
          obtain ⟨b1, b2, b3, b4⟩ := may_zero (vars := vars) b z (d + 1) (a.mayT vars (d + 1) (n + 1)).2 hb (by omega)
          obtain ⟨c1, c2, c3, c4⟩ := may_zero (vars := vars) c u (d + 1) (b.mayT vars (d + 1) (a.mayT vars (d + 1) (n + 1)).2).2 hc h
          refine ⟨⟨a1, b1, c1⟩, ?_, ?_, ?_⟩
          · rw [c2, b2, a2]; simp only [CT.size]; omega
          · rw [b2, a2] at c3; simp only [CT.size]; omega
          · simp only [CT.dep]; omega
  | .var z m, x, d, n, hx, h => by
    obtain ⟨h1, h2, h3, h4⟩ := nodeErr_zero h
    refine ⟨?_, rfl, h2, by simp only [CT.dep]; omega⟩
    simp only [leafErr] at h4
    simp only [CT.okV]
    split at h4 <;> omega
  | .sort l m, x, d, n, hx, h => by
    obtain ⟨h1, h2, h3, h4⟩ := nodeErr_zero h
    exact ⟨h4, rfl, h2, by simp only [CT.dep]; omega⟩
  | .cst s ls m, x, d, n, hx, h => by
    obtain ⟨h1, h2, h3, h4⟩ := nodeErr_zero h
    refine ⟨?_, rfl, h2, by simp only [CT.dep]; omega⟩
    simp only [leafErr] at h4
    split at h4
    · omega
    · split at h4
      · omega
      · exact ⟨by omega, fstErr_zero h4⟩
  | .odd k m, x, d, n, hx, h => by
    obtain ⟨h1, h2, h3, h4⟩ := nodeErr_zero h
    have := hx.2.1
    simp only [CT.kd, CT.len] at h3
    omega

set_option maxRecDepth 100000 in
set_option maxHeartbeats 400000 in
theorem rName32 (s : ByteArray) (w0 : World) (hs : s.size ≤ 9223372036854775807) : Calls Try.prog 28 #[.string s] w0 fun e w' => e = .returned (.bool (nameB s)) ∧ w' = w0 := by
  refine calls_fs 51 [(0, .string s)] Try.func28 rfl rfl rfl rfl rfl fun a hF => ?_
  refine wp_rs fun K1 hK1 => ?_
  refine s_val hF (x_assign rfl) (by decide) fun a hF => ?_
  refine s_end (hK1 _ _ ?_)
  refine wp_seq_k fun K2 hK2 => ?_
  refine wp_rs fun K3 hK3 => ?_
  refine s_val hF (x_move rfl) (by decide) fun a hF => ?_
  refine s_val hF (x_lenS Try.underlying9 rfl) (by decide) fun a hF => ?_
  refine s_val hF (x_move rfl) (by decide) fun a hF => ?_
  refine s_end (hK3 _ _ ?_)
  refine wp_block ?_
  refine wp_up s.size (fun i a w => w = w0 ∧ (∀ j, j < i → okAt s.data.toList j) ∧ Fs 51 a [(0, .string s), (7, .int .i64 (s.size : Int)), (8, .int .i64 (i : Int))]) ⟨rfl, (fun j h => absurd h (by omega)), hF.sub _ rfl⟩ ?_
  clear hF
  rintro i a w hi ⟨hw, hok, hF⟩ K' hK'
  subst hw
  refine wp_rs fun K4 hK4 => ?_
  refine s_val hF (x_lss (b := decide (i < s.size)) (decide_eq_decide.2 (by omega)) rfl rfl) (by decide) fun a hF => ?_
  refine s_end (hK4 _ _ ?_)
  refine wp_seq_k fun K5 hK5 => ?_
  refine wp_iff hF rfl (fun hc9 => ?_) (fun hc9 => ?_)
  · obtain ⟨q, hq⟩ : ∃ q, s.data.toList[i]? = some q := ⟨_, List.getElem?_eq_getElem (by rw [size_list]; omega)⟩
    refine wp_skip (hK5 _ _ ?_)
    refine wp_seq_k fun K6 hK6 => ?_
    refine wp_block ?_
    refine wp_rs fun K7 hK7 => ?_
    refine s_val hF (x_move rfl) (by decide) fun a hF => ?_
    refine s_val hF (x_assign rfl) (by decide) fun a hF => ?_
    refine s_end (hK7 _ _ ?_)
    refine wp_rs fun K8 hK8 => ?_
    refine s_val hF (x_move rfl) (by decide) fun a hF => ?_
    refine s_val hF (x_move rfl) (by decide) fun a hF => ?_
    refine s_val hF (x_ix rfl rfl (m_ixstr i Try.underlying9 rfl hq)) (by decide) fun a hF => ?_
    refine s_val hF (x_assign rfl) (by decide) fun a hF => ?_
    refine s_end (hK8 _ _ ?_)
    rcases (show (97 ≤ (q.toNat : Int) ∧ (q.toNat : Int) ≤ 122) ∨ (97 ≤ (q.toNat : Int) ∧ 122 < (q.toNat : Int)) ∨ (q.toNat : Int) < 97 by omega) with hq1 | hq1 | hq1
    · skip
      refine wp_rs fun K10 hK10 => ?_
      refine s_val hF (x_move rfl) (by decide) fun a hF => ?_
      refine s_val hF (x_geq (b := true) (decide_eq_true (by omega)) rfl rfl) (by decide) fun a hF => ?_
      refine s_val hF (x_move rfl) (by decide) fun a hF => ?_
      refine s_grd 16 hF rfl rfl rfl ?_
      refine s_val hF (x_move rfl) (by decide) fun a hF => ?_
      refine s_grd 16 hF rfl rfl rfl ?_
      refine s_val hF (x_leq (b := true) (decide_eq_true (by omega)) rfl rfl) (by decide) fun a hF => ?_
      refine s_val hF (x_pick (b := true) rfl rfl) (by decide) fun a hF => ?_
      refine s_val hF (x_assign rfl) (by decide) fun a hF => ?_
      refine s_end (hK10 _ _ ?_)
      rcases (show (97 ≤ (q.toNat : Int) ∧ (q.toNat : Int) ≤ 122) ∨ (¬ (97 ≤ (q.toNat : Int) ∧ (q.toNat : Int) ≤ 122) ∧ (i : Int) = 0) ∨ (¬ (97 ≤ (q.toNat : Int) ∧ (q.toNat : Int) ≤ 122) ∧ (i : Int) ≠ 0 ∧ (q.toNat : Int) < 48 ∧ (q.toNat : Int) ≠ 46) ∨ (¬ (97 ≤ (q.toNat : Int) ∧ (q.toNat : Int) ≤ 122) ∧ (i : Int) ≠ 0 ∧ (q.toNat : Int) = 46) ∨ (¬ (97 ≤ (q.toNat : Int) ∧ (q.toNat : Int) ≤ 122) ∧ (i : Int) ≠ 0 ∧ 57 < (q.toNat : Int) ∧ (q.toNat : Int) = 95) ∨ (¬ (97 ≤ (q.toNat : Int) ∧ (q.toNat : Int) ≤ 122) ∧ (i : Int) ≠ 0 ∧ 57 < (q.toNat : Int) ∧ (q.toNat : Int) ≠ 95) ∨ (¬ (97 ≤ (q.toNat : Int) ∧ (q.toNat : Int) ≤ 122) ∧ (i : Int) ≠ 0 ∧ 48 ≤ (q.toNat : Int) ∧ (q.toNat : Int) ≤ 57) by omega) with hz | hz | hz | hz | hz | hz | hz
      · have hoki : okAt s.data.toList i := fun c hc => by rw [hq] at hc; cases hc; unfold letC othC; omega
        refine wp_rs fun K12 hK12 => ?_
        refine s_val hF (x_move rfl) (by decide) fun a hF => ?_
        refine s_val hF (x_not rfl) (by decide) fun a hF => ?_
        refine s_val hF (x_move rfl) (by decide) fun a hF => ?_
        refine s_grdn 22 hF rfl rfl (by decide) fun a hF => ?_
        refine s_grdn 22 hF rfl rfl (by decide) fun a hF => ?_
        refine s_grdn 22 hF rfl rfl (by decide) fun a hF => ?_
        refine s_grdu 25 hF rfl rfl (by decide) fun a hF => ?_
        refine s_grdu 25 hF rfl rfl (by decide) fun a hF => ?_
        refine s_grdu 25 hF rfl rfl (by decide) fun a hF => ?_
        refine s_grdu 28 hF rfl rfl (by decide) fun a hF => ?_
        refine s_grdu 28 hF rfl rfl (by decide) fun a hF => ?_
        refine s_grdu 25 hF rfl rfl (by decide) fun a hF => ?_
        refine s_grdu 25 hF rfl rfl (by decide) fun a hF => ?_
        refine s_grdu 32 hF rfl rfl (by decide) fun a hF => ?_
        refine s_grdu 32 hF rfl rfl (by decide) fun a hF => ?_
        refine s_grdu 25 hF rfl rfl (by decide) fun a hF => ?_
        refine s_grdu 25 hF rfl rfl (by decide) fun a hF => ?_
        refine s_grdu 36 hF rfl rfl (by decide) fun a hF => ?_
        refine s_grdu 36 hF rfl rfl (by decide) fun a hF => ?_
        refine s_grdu 25 hF rfl rfl (by decide) fun a hF => ?_
        refine s_grdn 22 hF rfl rfl (by decide) fun a hF => ?_
        refine s_val hF (x_pick (b := false) rfl rfl) (by decide) fun a hF => ?_
        refine s_end (hK12 _ _ ?_)
        refine wp_if hF rfl ?_
        refine wp_skip (hK6 _ _ ?_)
        refine wp_region_lit ?_
        refine s_val hF (x_addn (i + 1) (by omega) (by omega) rfl rfl) (by decide) fun a hF => ?_
        refine s_val hF (x_move rfl) (by decide) fun a hF => ?_
        refine s_end (hK' _ _ (by omega) ⟨rfl, (fun j hj => by rcases Nat.lt_or_ge j i with h | h; (· exact hok j h); (· rw [show j = i by omega]; exact hoki)), hF.sub _ rfl⟩)
      · exfalso; omega
      · exfalso; omega
      · exfalso; omega
      · exfalso; omega
      · exfalso; omega
      · exfalso; omega
    · skip
      refine wp_rs fun K13 hK13 => ?_
      refine s_val hF (x_move rfl) (by decide) fun a hF => ?_
      refine s_val hF (x_geq (b := true) (decide_eq_true (by omega)) rfl rfl) (by decide) fun a hF => ?_
      refine s_val hF (x_move rfl) (by decide) fun a hF => ?_
      refine s_grd 16 hF rfl rfl rfl ?_
      refine s_val hF (x_move rfl) (by decide) fun a hF => ?_
      refine s_grd 16 hF rfl rfl rfl ?_
      refine s_val hF (x_leq (b := false) (decide_eq_false (by omega)) rfl rfl) (by decide) fun a hF => ?_
      refine s_val hF (x_pick (b := true) rfl rfl) (by decide) fun a hF => ?_
      refine s_val hF (x_assign rfl) (by decide) fun a hF => ?_
      refine s_end (hK13 _ _ ?_)
      rcases (show (97 ≤ (q.toNat : Int) ∧ (q.toNat : Int) ≤ 122) ∨ (¬ (97 ≤ (q.toNat : Int) ∧ (q.toNat : Int) ≤ 122) ∧ (i : Int) = 0) ∨ (¬ (97 ≤ (q.toNat : Int) ∧ (q.toNat : Int) ≤ 122) ∧ (i : Int) ≠ 0 ∧ (q.toNat : Int) < 48 ∧ (q.toNat : Int) ≠ 46) ∨ (¬ (97 ≤ (q.toNat : Int) ∧ (q.toNat : Int) ≤ 122) ∧ (i : Int) ≠ 0 ∧ (q.toNat : Int) = 46) ∨ (¬ (97 ≤ (q.toNat : Int) ∧ (q.toNat : Int) ≤ 122) ∧ (i : Int) ≠ 0 ∧ 57 < (q.toNat : Int) ∧ (q.toNat : Int) = 95) ∨ (¬ (97 ≤ (q.toNat : Int) ∧ (q.toNat : Int) ≤ 122) ∧ (i : Int) ≠ 0 ∧ 57 < (q.toNat : Int) ∧ (q.toNat : Int) ≠ 95) ∨ (¬ (97 ≤ (q.toNat : Int) ∧ (q.toNat : Int) ≤ 122) ∧ (i : Int) ≠ 0 ∧ 48 ≤ (q.toNat : Int) ∧ (q.toNat : Int) ≤ 57) by omega) with hz | hz | hz | hz | hz | hz | hz
      · exfalso; omega
      · have hbad : nameB s = false := nameB_of ⟨fun h => absurd h (by decide), fun h => by have := h.1 i q hq; unfold letC othC at this; omega⟩
        refine wp_rs fun K15 hK15 => ?_
        refine s_val hF (x_move rfl) (by decide) fun a hF => ?_
        refine s_val hF (x_not rfl) (by decide) fun a hF => ?_
        refine s_val hF (x_move rfl) (by decide) fun a hF => ?_
        refine s_grd 22 hF rfl rfl rfl ?_
        refine s_val hF (x_move rfl) (by decide) fun a hF => ?_
        refine s_grd 22 hF rfl rfl rfl ?_
        refine s_val hF (x_eql (b := true) (decide_eq_true (by omega)) rfl rfl) (by decide) fun a hF => ?_
        refine s_grd 22 hF rfl rfl rfl ?_
        refine s_val hF (x_move rfl) (by decide) fun a hF => ?_
        refine s_grdn 25 hF rfl rfl (by decide) fun a hF => ?_
        refine s_grdn 25 hF rfl rfl (by decide) fun a hF => ?_
        refine s_grdn 25 hF rfl rfl (by decide) fun a hF => ?_
        refine s_grdu 28 hF rfl rfl (by decide) fun a hF => ?_
        refine s_grdu 28 hF rfl rfl (by decide) fun a hF => ?_
        refine s_grdn 25 hF rfl rfl (by decide) fun a hF => ?_
        refine s_grdn 25 hF rfl rfl (by decide) fun a hF => ?_
        refine s_grdu 32 hF rfl rfl (by decide) fun a hF => ?_
        refine s_grdu 32 hF rfl rfl (by decide) fun a hF => ?_
        refine s_grdn 25 hF rfl rfl (by decide) fun a hF => ?_
        refine s_grdn 25 hF rfl rfl (by decide) fun a hF => ?_
        refine s_grdu 36 hF rfl rfl (by decide) fun a hF => ?_
        refine s_grdu 36 hF rfl rfl (by decide) fun a hF => ?_
        refine s_grdn 25 hF rfl rfl (by decide) fun a hF => ?_
        refine s_grd 22 hF rfl rfl rfl ?_
        refine s_val hF (x_pick (b := true) rfl rfl) (by decide) fun a hF => ?_
        refine s_val hF (x_pick (b := true) rfl rfl) (by decide) fun a hF => ?_
        refine s_end (hK15 _ _ ?_)
        refine wp_if hF rfl ?_
        refine wp_rs fun K16 hK16 => ?_
        refine s_val hF (x_assign rfl) (by decide) fun a hF => ?_
        refine s_end (hK16 _ _ ?_)
        refine wp_ret (inb_ret (then_ret (then_ret (inb_ret (then_ret (res_slot hF rfl rfl ⟨by rw [hbad], rfl⟩))))))
      · have hbad : nameB s = false := nameB_of ⟨fun h => absurd h (by decide), fun h => by have := h.1 i q hq; unfold letC othC at this; omega⟩
        refine wp_rs fun K17 hK17 => ?_
        refine s_val hF (x_move rfl) (by decide) fun a hF => ?_
        refine s_val hF (x_not rfl) (by decide) fun a hF => ?_
        refine s_val hF (x_move rfl) (by decide) fun a hF => ?_
        refine s_grd 22 hF rfl rfl rfl ?_
        refine s_val hF (x_move rfl) (by decide) fun a hF => ?_
        refine s_grd 22 hF rfl rfl rfl ?_
        refine s_val hF (x_eql (b := false) (decide_eq_false (by omega)) rfl rfl) (by decide) fun a hF => ?_
        refine s_grd 22 hF rfl rfl rfl ?_
        refine s_val hF (x_move rfl) (by decide) fun a hF => ?_
        refine s_grd 25 hF rfl rfl rfl ?_
        refine s_val hF (x_move rfl) (by decide) fun a hF => ?_
        refine s_grd 25 hF rfl rfl rfl ?_
        refine s_val hF (x_lss (b := true) (decide_eq_true (by omega)) rfl rfl) (by decide) fun a hF => ?_
        refine s_grd 25 hF rfl rfl rfl ?_
        refine s_val hF (x_move rfl) (by decide) fun a hF => ?_
        refine s_grdn 28 hF rfl rfl (by decide) fun a hF => ?_
        refine s_grdn 28 hF rfl rfl (by decide) fun a hF => ?_
        refine s_grd 25 hF rfl rfl rfl ?_
        refine s_val hF (x_pick (b := true) rfl rfl) (by decide) fun a hF => ?_
        refine s_grd 25 hF rfl rfl rfl ?_
        refine s_val hF (x_move rfl) (by decide) fun a hF => ?_
        refine s_grd 32 hF rfl rfl rfl ?_
        refine s_val hF (x_move rfl) (by decide) fun a hF => ?_
        refine s_grd 32 hF rfl rfl rfl ?_
        refine s_val hF (x_neq (b := true) (decide_eq_true (by omega)) rfl rfl) (by decide) fun a hF => ?_
        refine s_grd 25 hF rfl rfl rfl ?_
        refine s_val hF (x_pick (b := true) rfl rfl) (by decide) fun a hF => ?_
        refine s_grd 25 hF rfl rfl rfl ?_
        refine s_val hF (x_move rfl) (by decide) fun a hF => ?_
        refine s_grd 36 hF rfl rfl rfl ?_
        refine s_val hF (x_move rfl) (by decide) fun a hF => ?_
        refine s_grd 36 hF rfl rfl rfl ?_
        refine s_val hF (x_neq (b := true) (decide_eq_true (by omega)) rfl rfl) (by decide) fun a hF => ?_
        refine s_grd 25 hF rfl rfl rfl ?_
        refine s_val hF (x_pick (b := true) rfl rfl) (by decide) fun a hF => ?_
        refine s_grd 22 hF rfl rfl rfl ?_
        refine s_val hF (x_pick (b := false) rfl rfl) (by decide) fun a hF => ?_
        refine s_val hF (x_pick (b := true) rfl rfl) (by decide) fun a hF => ?_
        refine s_end (hK17 _ _ ?_)
        refine wp_if hF rfl ?_
        refine wp_rs fun K18 hK18 => ?_
        refine s_val hF (x_assign rfl) (by decide) fun a hF => ?_
        refine s_end (hK18 _ _ ?_)
        refine wp_ret (inb_ret (then_ret (then_ret (inb_ret (then_ret (res_slot hF rfl rfl ⟨by rw [hbad], rfl⟩))))))
      · have hoki : okAt s.data.toList i := fun c hc => by rw [hq] at hc; cases hc; unfold letC othC; omega
        refine wp_rs fun K19 hK19 => ?_
        refine s_val hF (x_move rfl) (by decide) fun a hF => ?_
        refine s_val hF (x_not rfl) (by decide) fun a hF => ?_
        refine s_val hF (x_move rfl) (by decide) fun a hF => ?_
        refine s_grd 22 hF rfl rfl rfl ?_
        refine s_val hF (x_move rfl) (by decide) fun a hF => ?_
        refine s_grd 22 hF rfl rfl rfl ?_
        refine s_val hF (x_eql (b := false) (decide_eq_false (by omega)) rfl rfl) (by decide) fun a hF => ?_
        refine s_grd 22 hF rfl rfl rfl ?_
        refine s_val hF (x_move rfl) (by decide) fun a hF => ?_
        refine s_grd 25 hF rfl rfl rfl ?_
        refine s_val hF (x_move rfl) (by decide) fun a hF => ?_
        refine s_grd 25 hF rfl rfl rfl ?_
        refine s_val hF (x_lss (b := true) (decide_eq_true (by omega)) rfl rfl) (by decide) fun a hF => ?_
        refine s_grd 25 hF rfl rfl rfl ?_
        refine s_val hF (x_move rfl) (by decide) fun a hF => ?_
        refine s_grdn 28 hF rfl rfl (by decide) fun a hF => ?_
        refine s_grdn 28 hF rfl rfl (by decide) fun a hF => ?_
        refine s_grd 25 hF rfl rfl rfl ?_
        refine s_val hF (x_pick (b := true) rfl rfl) (by decide) fun a hF => ?_
        refine s_grd 25 hF rfl rfl rfl ?_
        refine s_val hF (x_move rfl) (by decide) fun a hF => ?_
        refine s_grd 32 hF rfl rfl rfl ?_
        refine s_val hF (x_move rfl) (by decide) fun a hF => ?_
        refine s_grd 32 hF rfl rfl rfl ?_
        refine s_val hF (x_neq (b := true) (decide_eq_true (by omega)) rfl rfl) (by decide) fun a hF => ?_
        refine s_grd 25 hF rfl rfl rfl ?_
        refine s_val hF (x_pick (b := true) rfl rfl) (by decide) fun a hF => ?_
        refine s_grd 25 hF rfl rfl rfl ?_
        refine s_val hF (x_move rfl) (by decide) fun a hF => ?_
        refine s_grd 36 hF rfl rfl rfl ?_
        refine s_val hF (x_move rfl) (by decide) fun a hF => ?_
        refine s_grd 36 hF rfl rfl rfl ?_
        refine s_val hF (x_neq (b := false) (decide_eq_false (by omega)) rfl rfl) (by decide) fun a hF => ?_
        refine s_grd 25 hF rfl rfl rfl ?_
        refine s_val hF (x_pick (b := true) rfl rfl) (by decide) fun a hF => ?_
        refine s_grd 22 hF rfl rfl rfl ?_
        refine s_val hF (x_pick (b := false) rfl rfl) (by decide) fun a hF => ?_
        refine s_val hF (x_pick (b := true) rfl rfl) (by decide) fun a hF => ?_
        refine s_end (hK19 _ _ ?_)
        refine wp_if hF rfl ?_
        refine wp_skip (hK6 _ _ ?_)
        refine wp_region_lit ?_
        refine s_val hF (x_addn (i + 1) (by omega) (by omega) rfl rfl) (by decide) fun a hF => ?_
        refine s_val hF (x_move rfl) (by decide) fun a hF => ?_
        refine s_end (hK' _ _ (by omega) ⟨rfl, (fun j hj => by rcases Nat.lt_or_ge j i with h | h; (· exact hok j h); (· rw [show j = i by omega]; exact hoki)), hF.sub _ rfl⟩)
      · have hoki : okAt s.data.toList i := fun c hc => by rw [hq] at hc; cases hc; unfold letC othC; omega
        refine wp_rs fun K20 hK20 => ?_
        refine s_val hF (x_move rfl) (by decide) fun a hF => ?_
        refine s_val hF (x_not rfl) (by decide) fun a hF => ?_
        refine s_val hF (x_move rfl) (by decide) fun a hF => ?_
        refine s_grd 22 hF rfl rfl rfl ?_
        refine s_val hF (x_move rfl) (by decide) fun a hF => ?_
        refine s_grd 22 hF rfl rfl rfl ?_
        refine s_val hF (x_eql (b := false) (decide_eq_false (by omega)) rfl rfl) (by decide) fun a hF => ?_
        refine s_grd 22 hF rfl rfl rfl ?_
        refine s_val hF (x_move rfl) (by decide) fun a hF => ?_
        refine s_grd 25 hF rfl rfl rfl ?_
        refine s_val hF (x_move rfl) (by decide) fun a hF => ?_
        refine s_grd 25 hF rfl rfl rfl ?_
        refine s_val hF (x_lss (b := false) (decide_eq_false (by omega)) rfl rfl) (by decide) fun a hF => ?_
        refine s_grd 25 hF rfl rfl rfl ?_
        refine s_val hF (x_move rfl) (by decide) fun a hF => ?_
        refine s_grd 28 hF rfl rfl rfl ?_
        refine s_val hF (x_move rfl) (by decide) fun a hF => ?_
        refine s_grd 28 hF rfl rfl rfl ?_
        refine s_val hF (x_gtr (b := true) (decide_eq_true (by omega)) rfl rfl) (by decide) fun a hF => ?_
        refine s_grd 25 hF rfl rfl rfl ?_
        refine s_val hF (x_pick (b := false) rfl rfl) (by decide) fun a hF => ?_
        refine s_grd 25 hF rfl rfl rfl ?_
        refine s_val hF (x_move rfl) (by decide) fun a hF => ?_
        refine s_grd 32 hF rfl rfl rfl ?_
        refine s_val hF (x_move rfl) (by decide) fun a hF => ?_
        refine s_grd 32 hF rfl rfl rfl ?_
        refine s_val hF (x_neq (b := false) (decide_eq_false (by omega)) rfl rfl) (by decide) fun a hF => ?_
        refine s_grd 25 hF rfl rfl rfl ?_
        refine s_val hF (x_pick (b := true) rfl rfl) (by decide) fun a hF => ?_
        refine s_grd 25 hF rfl rfl rfl ?_
        refine s_val hF (x_move rfl) (by decide) fun a hF => ?_
        refine s_grdn 36 hF rfl rfl (by decide) fun a hF => ?_
        refine s_grdn 36 hF rfl rfl (by decide) fun a hF => ?_
        refine s_grd 25 hF rfl rfl rfl ?_
        refine s_val hF (x_pick (b := false) rfl rfl) (by decide) fun a hF => ?_
        refine s_grd 22 hF rfl rfl rfl ?_
        refine s_val hF (x_pick (b := false) rfl rfl) (by decide) fun a hF => ?_
        refine s_val hF (x_pick (b := true) rfl rfl) (by decide) fun a hF => ?_
        refine s_end (hK20 _ _ ?_)
        refine wp_if hF rfl ?_
        refine wp_skip (hK6 _ _ ?_)
        refine wp_region_lit ?_
        refine s_val hF (x_addn (i + 1) (by omega) (by omega) rfl rfl) (by decide) fun a hF => ?_
        refine s_val hF (x_move rfl) (by decide) fun a hF => ?_
        refine s_end (hK' _ _ (by omega) ⟨rfl, (fun j hj => by rcases Nat.lt_or_ge j i with h | h; (· exact hok j h); (· rw [show j = i by omega]; exact hoki)), hF.sub _ rfl⟩)
      · have hbad : nameB s = false := nameB_of ⟨fun h => absurd h (by decide), fun h => by have := h.1 i q hq; unfold letC othC at this; omega⟩
        refine wp_rs fun K21 hK21 => ?_
        refine s_val hF (x_move rfl) (by decide) fun a hF => ?_
        refine s_val hF (x_not rfl) (by decide) fun a hF => ?_
        refine s_val hF (x_move rfl) (by decide) fun a hF => ?_
        refine s_grd 22 hF rfl rfl rfl ?_
        refine s_val hF (x_move rfl) (by decide) fun a hF => ?_
        refine s_grd 22 hF rfl rfl rfl ?_
        refine s_val hF (x_eql (b := false) (decide_eq_false (by omega)) rfl rfl) (by decide) fun a hF => ?_
        refine s_grd 22 hF rfl rfl rfl ?_
        refine s_val hF (x_move rfl) (by decide) fun a hF => ?_
        refine s_grd 25 hF rfl rfl rfl ?_
        refine s_val hF (x_move rfl) (by decide) fun a hF => ?_
        refine s_grd 25 hF rfl rfl rfl ?_
        refine s_val hF (x_lss (b := false) (decide_eq_false (by omega)) rfl rfl) (by decide) fun a hF => ?_
        refine s_grd 25 hF rfl rfl rfl ?_
        refine s_val hF (x_move rfl) (by decide) fun a hF => ?_
        refine s_grd 28 hF rfl rfl rfl ?_
        refine s_val hF (x_move rfl) (by decide) fun a hF => ?_
        refine s_grd 28 hF rfl rfl rfl ?_
        refine s_val hF (x_gtr (b := true) (decide_eq_true (by omega)) rfl rfl) (by decide) fun a hF => ?_
        refine s_grd 25 hF rfl rfl rfl ?_
        refine s_val hF (x_pick (b := false) rfl rfl) (by decide) fun a hF => ?_
        refine s_grd 25 hF rfl rfl rfl ?_
        refine s_val hF (x_move rfl) (by decide) fun a hF => ?_
        refine s_grd 32 hF rfl rfl rfl ?_
        refine s_val hF (x_move rfl) (by decide) fun a hF => ?_
        refine s_grd 32 hF rfl rfl rfl ?_
        refine s_val hF (x_neq (b := true) (decide_eq_true (by omega)) rfl rfl) (by decide) fun a hF => ?_
        refine s_grd 25 hF rfl rfl rfl ?_
        refine s_val hF (x_pick (b := true) rfl rfl) (by decide) fun a hF => ?_
        refine s_grd 25 hF rfl rfl rfl ?_
        refine s_val hF (x_move rfl) (by decide) fun a hF => ?_
        refine s_grd 36 hF rfl rfl rfl ?_
        refine s_val hF (x_move rfl) (by decide) fun a hF => ?_
        refine s_grd 36 hF rfl rfl rfl ?_
        refine s_val hF (x_neq (b := true) (decide_eq_true (by omega)) rfl rfl) (by decide) fun a hF => ?_
        refine s_grd 25 hF rfl rfl rfl ?_
        refine s_val hF (x_pick (b := true) rfl rfl) (by decide) fun a hF => ?_
        refine s_grd 22 hF rfl rfl rfl ?_
        refine s_val hF (x_pick (b := false) rfl rfl) (by decide) fun a hF => ?_
        refine s_val hF (x_pick (b := true) rfl rfl) (by decide) fun a hF => ?_
        refine s_end (hK21 _ _ ?_)
        refine wp_if hF rfl ?_
        refine wp_rs fun K22 hK22 => ?_
        refine s_val hF (x_assign rfl) (by decide) fun a hF => ?_
        refine s_end (hK22 _ _ ?_)
        refine wp_ret (inb_ret (then_ret (then_ret (inb_ret (then_ret (res_slot hF rfl rfl ⟨by rw [hbad], rfl⟩))))))
      · have hoki : okAt s.data.toList i := fun c hc => by rw [hq] at hc; cases hc; unfold letC othC; omega
        refine wp_rs fun K23 hK23 => ?_
        refine s_val hF (x_move rfl) (by decide) fun a hF => ?_
        refine s_val hF (x_not rfl) (by decide) fun a hF => ?_
        refine s_val hF (x_move rfl) (by decide) fun a hF => ?_
        refine s_grd 22 hF rfl rfl rfl ?_
        refine s_val hF (x_move rfl) (by decide) fun a hF => ?_
        refine s_grd 22 hF rfl rfl rfl ?_
        refine s_val hF (x_eql (b := false) (decide_eq_false (by omega)) rfl rfl) (by decide) fun a hF => ?_
        refine s_grd 22 hF rfl rfl rfl ?_
        refine s_val hF (x_move rfl) (by decide) fun a hF => ?_
        refine s_grd 25 hF rfl rfl rfl ?_
        refine s_val hF (x_move rfl) (by decide) fun a hF => ?_
        refine s_grd 25 hF rfl rfl rfl ?_
        refine s_val hF (x_lss (b := false) (decide_eq_false (by omega)) rfl rfl) (by decide) fun a hF => ?_
        refine s_grd 25 hF rfl rfl rfl ?_
        refine s_val hF (x_move rfl) (by decide) fun a hF => ?_
        refine s_grd 28 hF rfl rfl rfl ?_
        refine s_val hF (x_move rfl) (by decide) fun a hF => ?_
        refine s_grd 28 hF rfl rfl rfl ?_
        refine s_val hF (x_gtr (b := false) (decide_eq_false (by omega)) rfl rfl) (by decide) fun a hF => ?_
        refine s_grd 25 hF rfl rfl rfl ?_
        refine s_val hF (x_pick (b := false) rfl rfl) (by decide) fun a hF => ?_
        refine s_grd 25 hF rfl rfl rfl ?_
        refine s_val hF (x_move rfl) (by decide) fun a hF => ?_
        refine s_grdn 32 hF rfl rfl (by decide) fun a hF => ?_
        refine s_grdn 32 hF rfl rfl (by decide) fun a hF => ?_
        refine s_grd 25 hF rfl rfl rfl ?_
        refine s_val hF (x_pick (b := false) rfl rfl) (by decide) fun a hF => ?_
        refine s_grd 25 hF rfl rfl rfl ?_
        refine s_val hF (x_move rfl) (by decide) fun a hF => ?_
        refine s_grdn 36 hF rfl rfl (by decide) fun a hF => ?_
        refine s_grdn 36 hF rfl rfl (by decide) fun a hF => ?_
        refine s_grd 25 hF rfl rfl rfl ?_
        refine s_val hF (x_pick (b := false) rfl rfl) (by decide) fun a hF => ?_
        refine s_grd 22 hF rfl rfl rfl ?_
        refine s_val hF (x_pick (b := false) rfl rfl) (by decide) fun a hF => ?_
        refine s_val hF (x_pick (b := true) rfl rfl) (by decide) fun a hF => ?_
        refine s_end (hK23 _ _ ?_)
        refine wp_if hF rfl ?_
        refine wp_skip (hK6 _ _ ?_)
        refine wp_region_lit ?_
        refine s_val hF (x_addn (i + 1) (by omega) (by omega) rfl rfl) (by decide) fun a hF => ?_
        refine s_val hF (x_move rfl) (by decide) fun a hF => ?_
        refine s_end (hK' _ _ (by omega) ⟨rfl, (fun j hj => by rcases Nat.lt_or_ge j i with h | h; (· exact hok j h); (· rw [show j = i by omega]; exact hoki)), hF.sub _ rfl⟩)
    · skip
      refine wp_rs fun K24 hK24 => ?_
      refine s_val hF (x_move rfl) (by decide) fun a hF => ?_
      refine s_val hF (x_geq (b := false) (decide_eq_false (by omega)) rfl rfl) (by decide) fun a hF => ?_
      refine s_val hF (x_move rfl) (by decide) fun a hF => ?_
      refine s_grdn 16 hF rfl rfl (by decide) fun a hF => ?_
      refine s_grdn 16 hF rfl rfl (by decide) fun a hF => ?_
      refine s_val hF (x_pick (b := false) rfl rfl) (by decide) fun a hF => ?_
      refine s_val hF (x_assign rfl) (by decide) fun a hF => ?_
      refine s_end (hK24 _ _ ?_)
      rcases (show (97 ≤ (q.toNat : Int) ∧ (q.toNat : Int) ≤ 122) ∨ (¬ (97 ≤ (q.toNat : Int) ∧ (q.toNat : Int) ≤ 122) ∧ (i : Int) = 0) ∨ (¬ (97 ≤ (q.toNat : Int) ∧ (q.toNat : Int) ≤ 122) ∧ (i : Int) ≠ 0 ∧ (q.toNat : Int) < 48 ∧ (q.toNat : Int) ≠ 46) ∨ (¬ (97 ≤ (q.toNat : Int) ∧ (q.toNat : Int) ≤ 122) ∧ (i : Int) ≠ 0 ∧ (q.toNat : Int) = 46) ∨ (¬ (97 ≤ (q.toNat : Int) ∧ (q.toNat : Int) ≤ 122) ∧ (i : Int) ≠ 0 ∧ 57 < (q.toNat : Int) ∧ (q.toNat : Int) = 95) ∨ (¬ (97 ≤ (q.toNat : Int) ∧ (q.toNat : Int) ≤ 122) ∧ (i : Int) ≠ 0 ∧ 57 < (q.toNat : Int) ∧ (q.toNat : Int) ≠ 95) ∨ (¬ (97 ≤ (q.toNat : Int) ∧ (q.toNat : Int) ≤ 122) ∧ (i : Int) ≠ 0 ∧ 48 ≤ (q.toNat : Int) ∧ (q.toNat : Int) ≤ 57) by omega) with hz | hz | hz | hz | hz | hz | hz
      · exfalso; omega
      · have hbad : nameB s = false := nameB_of ⟨fun h => absurd h (by decide), fun h => by have := h.1 i q hq; unfold letC othC at this; omega⟩
        refine wp_rs fun K26 hK26 => ?_
        refine s_val hF (x_move rfl) (by decide) fun a hF => ?_
        refine s_val hF (x_not rfl) (by decide) fun a hF => ?_
        refine s_val hF (x_move rfl) (by decide) fun a hF => ?_
        refine s_grd 22 hF rfl rfl rfl ?_
        refine s_val hF (x_move rfl) (by decide) fun a hF => ?_
        refine s_grd 22 hF rfl rfl rfl ?_
        refine s_val hF (x_eql (b := true) (decide_eq_true (by omega)) rfl rfl) (by decide) fun a hF => ?_
        refine s_grd 22 hF rfl rfl rfl ?_
        refine s_val hF (x_move rfl) (by decide) fun a hF => ?_
        refine s_grdn 25 hF rfl rfl (by decide) fun a hF => ?_
        refine s_grdn 25 hF rfl rfl (by decide) fun a hF => ?_
        refine s_grdn 25 hF rfl rfl (by decide) fun a hF => ?_
        refine s_grdu 28 hF rfl rfl (by decide) fun a hF => ?_
        refine s_grdu 28 hF rfl rfl (by decide) fun a hF => ?_
        refine s_grdn 25 hF rfl rfl (by decide) fun a hF => ?_
        refine s_grdn 25 hF rfl rfl (by decide) fun a hF => ?_
        refine s_grdu 32 hF rfl rfl (by decide) fun a hF => ?_
        refine s_grdu 32 hF rfl rfl (by decide) fun a hF => ?_
        refine s_grdn 25 hF rfl rfl (by decide) fun a hF => ?_
        refine s_grdn 25 hF rfl rfl (by decide) fun a hF => ?_
        refine s_grdu 36 hF rfl rfl (by decide) fun a hF => ?_
        refine s_grdu 36 hF rfl rfl (by decide) fun a hF => ?_
        refine s_grdn 25 hF rfl rfl (by decide) fun a hF => ?_
        refine s_grd 22 hF rfl rfl rfl ?_
        refine s_val hF (x_pick (b := true) rfl rfl) (by decide) fun a hF => ?_
        refine s_val hF (x_pick (b := true) rfl rfl) (by decide) fun a hF => ?_
        refine s_end (hK26 _ _ ?_)
        refine wp_if hF rfl ?_
        refine wp_rs fun K27 hK27 => ?_
        refine s_val hF (x_assign rfl) (by decide) fun a hF => ?_
        refine s_end (hK27 _ _ ?_)
        refine wp_ret (inb_ret (then_ret (then_ret (inb_ret (then_ret (res_slot hF rfl rfl ⟨by rw [hbad], rfl⟩))))))
      · have hbad : nameB s = false := nameB_of ⟨fun h => absurd h (by decide), fun h => by have := h.1 i q hq; unfold letC othC at this; omega⟩
        refine wp_rs fun K28 hK28 => ?_
        refine s_val hF (x_move rfl) (by decide) fun a hF => ?_
        refine s_val hF (x_not rfl) (by decide) fun a hF => ?_
        refine s_val hF (x_move rfl) (by decide) fun a hF => ?_
        refine s_grd 22 hF rfl rfl rfl ?_
        refine s_val hF (x_move rfl) (by decide) fun a hF => ?_
        refine s_grd 22 hF rfl rfl rfl ?_
        refine s_val hF (x_eql (b := false) (decide_eq_false (by omega)) rfl rfl) (by decide) fun a hF => ?_
        refine s_grd 22 hF rfl rfl rfl ?_
        refine s_val hF (x_move rfl) (by decide) fun a hF => ?_
        refine s_grd 25 hF rfl rfl rfl ?_
        refine s_val hF (x_move rfl) (by decide) fun a hF => ?_
        refine s_grd 25 hF rfl rfl rfl ?_
        refine s_val hF (x_lss (b := true) (decide_eq_true (by omega)) rfl rfl) (by decide) fun a hF => ?_
        refine s_grd 25 hF rfl rfl rfl ?_
        refine s_val hF (x_move rfl) (by decide) fun a hF => ?_
        refine s_grdn 28 hF rfl rfl (by decide) fun a hF => ?_
        refine s_grdn 28 hF rfl rfl (by decide) fun a hF => ?_
        refine s_grd 25 hF rfl rfl rfl ?_
        refine s_val hF (x_pick (b := true) rfl rfl) (by decide) fun a hF => ?_
        refine s_grd 25 hF rfl rfl rfl ?_
        refine s_val hF (x_move rfl) (by decide) fun a hF => ?_
        refine s_grd 32 hF rfl rfl rfl ?_
        refine s_val hF (x_move rfl) (by decide) fun a hF => ?_
        refine s_grd 32 hF rfl rfl rfl ?_
        refine s_val hF (x_neq (b := true) (decide_eq_true (by omega)) rfl rfl) (by decide) fun a hF => ?_
        refine s_grd 25 hF rfl rfl rfl ?_
        refine s_val hF (x_pick (b := true) rfl rfl) (by decide) fun a hF => ?_
        refine s_grd 25 hF rfl rfl rfl ?_
        refine s_val hF (x_move rfl) (by decide) fun a hF => ?_
        refine s_grd 36 hF rfl rfl rfl ?_
        refine s_val hF (x_move rfl) (by decide) fun a hF => ?_
        refine s_grd 36 hF rfl rfl rfl ?_
        refine s_val hF (x_neq (b := true) (decide_eq_true (by omega)) rfl rfl) (by decide) fun a hF => ?_
        refine s_grd 25 hF rfl rfl rfl ?_
        refine s_val hF (x_pick (b := true) rfl rfl) (by decide) fun a hF => ?_
        refine s_grd 22 hF rfl rfl rfl ?_
        refine s_val hF (x_pick (b := false) rfl rfl) (by decide) fun a hF => ?_
        refine s_val hF (x_pick (b := true) rfl rfl) (by decide) fun a hF => ?_
        refine s_end (hK28 _ _ ?_)
        refine wp_if hF rfl ?_
        refine wp_rs fun K29 hK29 => ?_
        refine s_val hF (x_assign rfl) (by decide) fun a hF => ?_
        refine s_end (hK29 _ _ ?_)
        refine wp_ret (inb_ret (then_ret (then_ret (inb_ret (then_ret (res_slot hF rfl rfl ⟨by rw [hbad], rfl⟩))))))
      · have hoki : okAt s.data.toList i := fun c hc => by rw [hq] at hc; cases hc; unfold letC othC; omega
        refine wp_rs fun K30 hK30 => ?_
        refine s_val hF (x_move rfl) (by decide) fun a hF => ?_
        refine s_val hF (x_not rfl) (by decide) fun a hF => ?_
        refine s_val hF (x_move rfl) (by decide) fun a hF => ?_
        refine s_grd 22 hF rfl rfl rfl ?_
        refine s_val hF (x_move rfl) (by decide) fun a hF => ?_
        refine s_grd 22 hF rfl rfl rfl ?_
        refine s_val hF (x_eql (b := false) (decide_eq_false (by omega)) rfl rfl) (by decide) fun a hF => ?_
        refine s_grd 22 hF rfl rfl rfl ?_
        refine s_val hF (x_move rfl) (by decide) fun a hF => ?_
        refine s_grd 25 hF rfl rfl rfl ?_
        refine s_val hF (x_move rfl) (by decide) fun a hF => ?_
        refine s_grd 25 hF rfl rfl rfl ?_
        refine s_val hF (x_lss (b := true) (decide_eq_true (by omega)) rfl rfl) (by decide) fun a hF => ?_
        refine s_grd 25 hF rfl rfl rfl ?_
        refine s_val hF (x_move rfl) (by decide) fun a hF => ?_
        refine s_grdn 28 hF rfl rfl (by decide) fun a hF => ?_
        refine s_grdn 28 hF rfl rfl (by decide) fun a hF => ?_
        refine s_grd 25 hF rfl rfl rfl ?_
        refine s_val hF (x_pick (b := true) rfl rfl) (by decide) fun a hF => ?_
        refine s_grd 25 hF rfl rfl rfl ?_
        refine s_val hF (x_move rfl) (by decide) fun a hF => ?_
        refine s_grd 32 hF rfl rfl rfl ?_
        refine s_val hF (x_move rfl) (by decide) fun a hF => ?_
        refine s_grd 32 hF rfl rfl rfl ?_
        refine s_val hF (x_neq (b := true) (decide_eq_true (by omega)) rfl rfl) (by decide) fun a hF => ?_
        refine s_grd 25 hF rfl rfl rfl ?_
        refine s_val hF (x_pick (b := true) rfl rfl) (by decide) fun a hF => ?_
        refine s_grd 25 hF rfl rfl rfl ?_
        refine s_val hF (x_move rfl) (by decide) fun a hF => ?_
        refine s_grd 36 hF rfl rfl rfl ?_
        refine s_val hF (x_move rfl) (by decide) fun a hF => ?_
        refine s_grd 36 hF rfl rfl rfl ?_
        refine s_val hF (x_neq (b := false) (decide_eq_false (by omega)) rfl rfl) (by decide) fun a hF => ?_
        refine s_grd 25 hF rfl rfl rfl ?_
        refine s_val hF (x_pick (b := true) rfl rfl) (by decide) fun a hF => ?_
        refine s_grd 22 hF rfl rfl rfl ?_
        refine s_val hF (x_pick (b := false) rfl rfl) (by decide) fun a hF => ?_
        refine s_val hF (x_pick (b := true) rfl rfl) (by decide) fun a hF => ?_
        refine s_end (hK30 _ _ ?_)
        refine wp_if hF rfl ?_
        refine wp_skip (hK6 _ _ ?_)
        refine wp_region_lit ?_
        refine s_val hF (x_addn (i + 1) (by omega) (by omega) rfl rfl) (by decide) fun a hF => ?_
        refine s_val hF (x_move rfl) (by decide) fun a hF => ?_
        refine s_end (hK' _ _ (by omega) ⟨rfl, (fun j hj => by rcases Nat.lt_or_ge j i with h | h; (· exact hok j h); (· rw [show j = i by omega]; exact hoki)), hF.sub _ rfl⟩)
      · have hoki : okAt s.data.toList i := fun c hc => by rw [hq] at hc; cases hc; unfold letC othC; omega
        refine wp_rs fun K31 hK31 => ?_
        refine s_val hF (x_move rfl) (by decide) fun a hF => ?_
        refine s_val hF (x_not rfl) (by decide) fun a hF => ?_
        refine s_val hF (x_move rfl) (by decide) fun a hF => ?_
        refine s_grd 22 hF rfl rfl rfl ?_
        refine s_val hF (x_move rfl) (by decide) fun a hF => ?_
        refine s_grd 22 hF rfl rfl rfl ?_
        refine s_val hF (x_eql (b := false) (decide_eq_false (by omega)) rfl rfl) (by decide) fun a hF => ?_
        refine s_grd 22 hF rfl rfl rfl ?_
        refine s_val hF (x_move rfl) (by decide) fun a hF => ?_
        refine s_grd 25 hF rfl rfl rfl ?_
        refine s_val hF (x_move rfl) (by decide) fun a hF => ?_
        refine s_grd 25 hF rfl rfl rfl ?_
        refine s_val hF (x_lss (b := false) (decide_eq_false (by omega)) rfl rfl) (by decide) fun a hF => ?_
        refine s_grd 25 hF rfl rfl rfl ?_
        refine s_val hF (x_move rfl) (by decide) fun a hF => ?_
        refine s_grd 28 hF rfl rfl rfl ?_
        refine s_val hF (x_move rfl) (by decide) fun a hF => ?_
        refine s_grd 28 hF rfl rfl rfl ?_
        refine s_val hF (x_gtr (b := true) (decide_eq_true (by omega)) rfl rfl) (by decide) fun a hF => ?_
        refine s_grd 25 hF rfl rfl rfl ?_
        refine s_val hF (x_pick (b := false) rfl rfl) (by decide) fun a hF => ?_
        refine s_grd 25 hF rfl rfl rfl ?_
        refine s_val hF (x_move rfl) (by decide) fun a hF => ?_
        refine s_grd 32 hF rfl rfl rfl ?_
        refine s_val hF (x_move rfl) (by decide) fun a hF => ?_
        refine s_grd 32 hF rfl rfl rfl ?_
        refine s_val hF (x_neq (b := false) (decide_eq_false (by omega)) rfl rfl) (by decide) fun a hF => ?_
        refine s_grd 25 hF rfl rfl rfl ?_
        refine s_val hF (x_pick (b := true) rfl rfl) (by decide) fun a hF => ?_
        refine s_grd 25 hF rfl rfl rfl ?_
        refine s_val hF (x_move rfl) (by decide) fun a hF => ?_
        refine s_grdn 36 hF rfl rfl (by decide) fun a hF => ?_
        refine s_grdn 36 hF rfl rfl (by decide) fun a hF => ?_
        refine s_grd 25 hF rfl rfl rfl ?_
        refine s_val hF (x_pick (b := false) rfl rfl) (by decide) fun a hF => ?_
        refine s_grd 22 hF rfl rfl rfl ?_
        refine s_val hF (x_pick (b := false) rfl rfl) (by decide) fun a hF => ?_
        refine s_val hF (x_pick (b := true) rfl rfl) (by decide) fun a hF => ?_
        refine s_end (hK31 _ _ ?_)
        refine wp_if hF rfl ?_
        refine wp_skip (hK6 _ _ ?_)
        refine wp_region_lit ?_
        refine s_val hF (x_addn (i + 1) (by omega) (by omega) rfl rfl) (by decide) fun a hF => ?_
        refine s_val hF (x_move rfl) (by decide) fun a hF => ?_
        refine s_end (hK' _ _ (by omega) ⟨rfl, (fun j hj => by rcases Nat.lt_or_ge j i with h | h; (· exact hok j h); (· rw [show j = i by omega]; exact hoki)), hF.sub _ rfl⟩)
      · have hbad : nameB s = false := nameB_of ⟨fun h => absurd h (by decide), fun h => by have := h.1 i q hq; unfold letC othC at this; omega⟩
        refine wp_rs fun K32 hK32 => ?_
        refine s_val hF (x_move rfl) (by decide) fun a hF => ?_
        refine s_val hF (x_not rfl) (by decide) fun a hF => ?_
        refine s_val hF (x_move rfl) (by decide) fun a hF => ?_
        refine s_grd 22 hF rfl rfl rfl ?_
        refine s_val hF (x_move rfl) (by decide) fun a hF => ?_
        refine s_grd 22 hF rfl rfl rfl ?_
        refine s_val hF (x_eql (b := false) (decide_eq_false (by omega)) rfl rfl) (by decide) fun a hF => ?_
        refine s_grd 22 hF rfl rfl rfl ?_
        refine s_val hF (x_move rfl) (by decide) fun a hF => ?_
        refine s_grd 25 hF rfl rfl rfl ?_
        refine s_val hF (x_move rfl) (by decide) fun a hF => ?_
        refine s_grd 25 hF rfl rfl rfl ?_
        refine s_val hF (x_lss (b := false) (decide_eq_false (by omega)) rfl rfl) (by decide) fun a hF => ?_
        refine s_grd 25 hF rfl rfl rfl ?_
        refine s_val hF (x_move rfl) (by decide) fun a hF => ?_
        refine s_grd 28 hF rfl rfl rfl ?_
        refine s_val hF (x_move rfl) (by decide) fun a hF => ?_
        refine s_grd 28 hF rfl rfl rfl ?_
        refine s_val hF (x_gtr (b := true) (decide_eq_true (by omega)) rfl rfl) (by decide) fun a hF => ?_
        refine s_grd 25 hF rfl rfl rfl ?_
        refine s_val hF (x_pick (b := false) rfl rfl) (by decide) fun a hF => ?_
        refine s_grd 25 hF rfl rfl rfl ?_
        refine s_val hF (x_move rfl) (by decide) fun a hF => ?_
        refine s_grd 32 hF rfl rfl rfl ?_
        refine s_val hF (x_move rfl) (by decide) fun a hF => ?_
        refine s_grd 32 hF rfl rfl rfl ?_
        refine s_val hF (x_neq (b := true) (decide_eq_true (by omega)) rfl rfl) (by decide) fun a hF => ?_
        refine s_grd 25 hF rfl rfl rfl ?_
        refine s_val hF (x_pick (b := true) rfl rfl) (by decide) fun a hF => ?_
        refine s_grd 25 hF rfl rfl rfl ?_
        refine s_val hF (x_move rfl) (by decide) fun a hF => ?_
        refine s_grd 36 hF rfl rfl rfl ?_
        refine s_val hF (x_move rfl) (by decide) fun a hF => ?_
        refine s_grd 36 hF rfl rfl rfl ?_
        refine s_val hF (x_neq (b := true) (decide_eq_true (by omega)) rfl rfl) (by decide) fun a hF => ?_
        refine s_grd 25 hF rfl rfl rfl ?_
        refine s_val hF (x_pick (b := true) rfl rfl) (by decide) fun a hF => ?_
        refine s_grd 22 hF rfl rfl rfl ?_
        refine s_val hF (x_pick (b := false) rfl rfl) (by decide) fun a hF => ?_
        refine s_val hF (x_pick (b := true) rfl rfl) (by decide) fun a hF => ?_
        refine s_end (hK32 _ _ ?_)
        refine wp_if hF rfl ?_
        refine wp_rs fun K33 hK33 => ?_
        refine s_val hF (x_assign rfl) (by decide) fun a hF => ?_
        refine s_end (hK33 _ _ ?_)
        refine wp_ret (inb_ret (then_ret (then_ret (inb_ret (then_ret (res_slot hF rfl rfl ⟨by rw [hbad], rfl⟩))))))
      · have hoki : okAt s.data.toList i := fun c hc => by rw [hq] at hc; cases hc; unfold letC othC; omega
        refine wp_rs fun K34 hK34 => ?_
        refine s_val hF (x_move rfl) (by decide) fun a hF => ?_
        refine s_val hF (x_not rfl) (by decide) fun a hF => ?_
        refine s_val hF (x_move rfl) (by decide) fun a hF => ?_
        refine s_grd 22 hF rfl rfl rfl ?_
        refine s_val hF (x_move rfl) (by decide) fun a hF => ?_
        refine s_grd 22 hF rfl rfl rfl ?_
        refine s_val hF (x_eql (b := false) (decide_eq_false (by omega)) rfl rfl) (by decide) fun a hF => ?_
        refine s_grd 22 hF rfl rfl rfl ?_
        refine s_val hF (x_move rfl) (by decide) fun a hF => ?_
        refine s_grd 25 hF rfl rfl rfl ?_
        refine s_val hF (x_move rfl) (by decide) fun a hF => ?_
        refine s_grd 25 hF rfl rfl rfl ?_
        refine s_val hF (x_lss (b := false) (decide_eq_false (by omega)) rfl rfl) (by decide) fun a hF => ?_
        refine s_grd 25 hF rfl rfl rfl ?_
        refine s_val hF (x_move rfl) (by decide) fun a hF => ?_
        refine s_grd 28 hF rfl rfl rfl ?_
        refine s_val hF (x_move rfl) (by decide) fun a hF => ?_
        refine s_grd 28 hF rfl rfl rfl ?_
        refine s_val hF (x_gtr (b := false) (decide_eq_false (by omega)) rfl rfl) (by decide) fun a hF => ?_
        refine s_grd 25 hF rfl rfl rfl ?_
        refine s_val hF (x_pick (b := false) rfl rfl) (by decide) fun a hF => ?_
        refine s_grd 25 hF rfl rfl rfl ?_
        refine s_val hF (x_move rfl) (by decide) fun a hF => ?_
        refine s_grdn 32 hF rfl rfl (by decide) fun a hF => ?_
        refine s_grdn 32 hF rfl rfl (by decide) fun a hF => ?_
        refine s_grd 25 hF rfl rfl rfl ?_
        refine s_val hF (x_pick (b := false) rfl rfl) (by decide) fun a hF => ?_
        refine s_grd 25 hF rfl rfl rfl ?_
        refine s_val hF (x_move rfl) (by decide) fun a hF => ?_
        refine s_grdn 36 hF rfl rfl (by decide) fun a hF => ?_
        refine s_grdn 36 hF rfl rfl (by decide) fun a hF => ?_
        refine s_grd 25 hF rfl rfl rfl ?_
        refine s_val hF (x_pick (b := false) rfl rfl) (by decide) fun a hF => ?_
        refine s_grd 22 hF rfl rfl rfl ?_
        refine s_val hF (x_pick (b := false) rfl rfl) (by decide) fun a hF => ?_
        refine s_val hF (x_pick (b := true) rfl rfl) (by decide) fun a hF => ?_
        refine s_end (hK34 _ _ ?_)
        refine wp_if hF rfl ?_
        refine wp_skip (hK6 _ _ ?_)
        refine wp_region_lit ?_
        refine s_val hF (x_addn (i + 1) (by omega) (by omega) rfl rfl) (by decide) fun a hF => ?_
        refine s_val hF (x_move rfl) (by decide) fun a hF => ?_
        refine s_end (hK' _ _ (by omega) ⟨rfl, (fun j hj => by rcases Nat.lt_or_ge j i with h | h; (· exact hok j h); (· rw [show j = i by omega]; exact hoki)), hF.sub _ rfl⟩)
  · obtain rfl : i = s.size := by omega
    have hall : ∀ j, okAt s.data.toList j := fun j c hc => by have hj := (List.getElem?_eq_some_iff.1 hc).1; rw [size_list] at hj; exact hok j hj c hc
    refine wp_exit (hK2 _ _ ?_)
    rcases (show 1 ≤ (s.size : Int) ∧ (s.size : Int) ≤ 32 ∨ (1 ≤ (s.size : Int) ∧ ¬ (s.size : Int) ≤ 32) ∨ ¬ 1 ≤ (s.size : Int) by omega) with hz | hz | hz
    · have hres : nameB s = true := nameB_of ⟨fun _ => ⟨hall, by rw [size_list]; omega, by rw [size_list]; omega⟩, fun _ => rfl⟩
      refine wp_rs fun K36 hK36 => ?_
      refine s_val hF (x_move rfl) (by decide) fun a hF => ?_
      refine s_val hF (x_lenS Try.underlying9 rfl) (by decide) fun a hF => ?_
      refine s_val hF (x_geq (b := true) (decide_eq_true (by omega)) rfl rfl) (by decide) fun a hF => ?_
      refine s_val hF (x_move rfl) (by decide) fun a hF => ?_
      refine s_grd 46 hF rfl rfl rfl ?_
      refine s_val hF (x_move rfl) (by decide) fun a hF => ?_
      refine s_grd 46 hF rfl rfl rfl ?_
      refine s_val hF (x_lenS Try.underlying9 rfl) (by decide) fun a hF => ?_
      refine s_grd 46 hF rfl rfl rfl ?_
      refine s_val hF (x_leq (b := true) (decide_eq_true (by omega)) rfl rfl) (by decide) fun a hF => ?_
      refine s_val hF (x_pick (b := true) rfl rfl) (by decide) fun a hF => ?_
      refine s_val hF (x_assign rfl) (by decide) fun a hF => ?_
      refine s_end (hK36 _ _ ?_)
      refine wp_ret (res_slot hF rfl rfl ⟨by rw [hres], rfl⟩)
    · have hres : nameB s = false := nameB_of ⟨fun h => absurd h (by decide), fun h => by have h1 := h.2.1; have h2 := h.2.2; rw [size_list] at h1 h2; omega⟩
      refine wp_rs fun K37 hK37 => ?_
      refine s_val hF (x_move rfl) (by decide) fun a hF => ?_
      refine s_val hF (x_lenS Try.underlying9 rfl) (by decide) fun a hF => ?_
      refine s_val hF (x_geq (b := true) (decide_eq_true (by omega)) rfl rfl) (by decide) fun a hF => ?_
      refine s_val hF (x_move rfl) (by decide) fun a hF => ?_
      refine s_grd 46 hF rfl rfl rfl ?_
      refine s_val hF (x_move rfl) (by decide) fun a hF => ?_
      refine s_grd 46 hF rfl rfl rfl ?_
      refine s_val hF (x_lenS Try.underlying9 rfl) (by decide) fun a hF => ?_
      refine s_grd 46 hF rfl rfl rfl ?_
      refine s_val hF (x_leq (b := false) (decide_eq_false (by omega)) rfl rfl) (by decide) fun a hF => ?_
      refine s_val hF (x_pick (b := true) rfl rfl) (by decide) fun a hF => ?_
      refine s_val hF (x_assign rfl) (by decide) fun a hF => ?_
      refine s_end (hK37 _ _ ?_)
      refine wp_ret (res_slot hF rfl rfl ⟨by rw [hres], rfl⟩)
    · have hres : nameB s = false := nameB_of ⟨fun h => absurd h (by decide), fun h => by have h1 := h.2.1; have h2 := h.2.2; rw [size_list] at h1 h2; omega⟩
      refine wp_rs fun K38 hK38 => ?_
      refine s_val hF (x_move rfl) (by decide) fun a hF => ?_
      refine s_val hF (x_lenS Try.underlying9 rfl) (by decide) fun a hF => ?_
      refine s_val hF (x_geq (b := false) (decide_eq_false (by omega)) rfl rfl) (by decide) fun a hF => ?_
      refine s_val hF (x_move rfl) (by decide) fun a hF => ?_
      refine s_grdn 46 hF rfl rfl (by decide) fun a hF => ?_
      refine s_grdn 46 hF rfl rfl (by decide) fun a hF => ?_
      refine s_grdn 46 hF rfl rfl (by decide) fun a hF => ?_
      refine s_val hF (x_pick (b := false) rfl rfl) (by decide) fun a hF => ?_
      refine s_val hF (x_assign rfl) (by decide) fun a hF => ?_
      refine s_end (hK38 _ _ ?_)
      refine wp_ret (res_slot hF rfl rfl ⟨by rw [hres], rfl⟩)
end Go.Proofs.Ytaclncmkdpjnlaa
