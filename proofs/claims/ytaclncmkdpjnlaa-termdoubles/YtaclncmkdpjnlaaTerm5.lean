/- Small functions of terms. -/
import Derived.Test.YtaclncmkdpjnlaaTermB
namespace Go.Proofs.Ytaclncmkdpjnlaa
open Go.RowKit Go.Shelf
set_option linter.unusedVariables false
set_option linter.unusedSimpArgs false

theorem arT_rng (k : Int) : -1 ≤ arT k ∧ arT k ≤ 3 := by
  unfold arT
  split
  · omega
  · split
    · omega
    · split <;> omega
theorem CT.bnd_eq {W : World} {A : Nat → Prop} : ∀ {c : CT} {x : C8} {i : Nat}, RC W A c x → i < c.kids.length → (c.bnd i = 1 ∧ (c.kd = 3 ∨ c.kd = 4 ∨ c.kd = 5) ∧ i + 1 = c.kids.length) ∨ (c.bnd i = 0 ∧ ¬ ((c.kd = 3 ∨ c.kd = 4 ∨ c.kd = 5) ∧ i + 1 = c.kids.length))
  | .two k a b m, x, i, h, hi => by
    have hk := h.2.1
    have e1 : (CT.two k a b m).kids.length = 2 := rfl
    have e2 : (CT.two k a b m).kd = k := rfl
    rw [e1] at hi ⊢
    rw [e2]
    simp only [CT.bnd]
    split <;> omega
  | .lt a b c m, x, i, h, hi => by
    have e1 : (CT.lt a b c m).kids.length = 3 := rfl
    have e2 : (CT.lt a b c m).kd = 5 := rfl
    rw [e1] at hi ⊢
    rw [e2]
    have e3 : (CT.lt a b c m).bnd i = if i = 2 then 1 else 0 := rfl
    rw [e3]
    split
    · next h => exact .inl ⟨rfl, .inr (.inr rfl), by omega⟩
    · next h => exact .inr ⟨rfl, fun h' => h (by omega)⟩
  | .var .., x, i, h, hi => by simp [CT.kids] at hi
  | .sort .., x, i, h, hi => by simp [CT.kids] at hi
  | .cst .., x, i, h, hi => by simp [CT.kids] at hi
  | .odd .., x, i, h, hi => by simp [CT.kids] at hi
/-- Is it the variable that is d? -/
def CT.isV : CT → Int → Bool
  | .var n _, d => decide (n = d)
  | _, _ => false
theorem CT.isV_eq {W : World} {A : Nat → Prop} {c : CT} {x : C8} (h : RC W A c x) (d : Int) : c.isV d = (decide (x.k = 1) && decide (x.n = d)) := by
  cases c with
  | var n m => simp [CT.isV, h.1, h.2.1]
  | sort l m => simp [CT.isV, h.1]
  | cst s ls m => simp [CT.isV, h.1]
  | odd k m =>
    have h1 := h.1
    have h2 := h.2.1
    simp only [CT.isV]
    rw [decide_eq_false]
    · rfl
    · intro e; rw [e] at h1; subst h1; simp [arT] at h2; omega
  | two k a b m =>
    have h1 := h.1
    have h2 := h.2.1
    simp only [CT.isV]
    rw [decide_eq_false]
    · rfl
    · omega
  | lt a b c m => simp [CT.isV, h.1]

set_option maxRecDepth 100000 in
set_option maxHeartbeats 1600000 in
theorem arity109 (k : Int) (w0 : World) : Calls Try.prog 97 #[.int .i64 k] w0 fun e w' => e = .returned (.tuple #[.int .i64 (max 0 (arT k)), .bool (decide (0 ≤ arT k))]) ∧ w' = w0 := by
  refine calls_fs 15 [(0, .int .i64 k)] Try.func97 rfl rfl rfl rfl rfl fun a hF => ?_
  rcases (show k = 1 ∨ k = 2 ∨ k = 7 ∨ k = 3 ∨ k = 4 ∨ k = 6 ∨ k = 5 ∨ (k ≠ 1 ∧ k ≠ 2 ∧ k ≠ 7 ∧ k ≠ 3 ∧ k ≠ 4 ∧ k ≠ 6 ∧ k ≠ 5) by omega) with hk | hk | hk | hk | hk | hk | hk | hk
  · skip
    refine wp_rs fun K2 hK2 => ?_
    refine s_val hF (x_assign rfl) (by decide) fun a hF => ?_
    refine s_val hF (x_assign rfl) (by decide) fun a hF => ?_
    refine s_end (hK2 _ _ ?_)
    refine wp_seq_k fun K3 hK3 => ?_
    refine wp_rs fun K4 hK4 => ?_
    refine s_val hF (x_move rfl) (by decide) fun a hF => ?_
    refine s_end (hK4 _ _ ?_)
    refine wp_block ?_
    refine wp_seq_k fun K5 hK5 => ?_
    refine wp_rs fun K6 hK6 => ?_
    refine s_val hF (x_eql (b := true) (decide_eq_true (by omega)) rfl rfl) (by decide) fun a hF => ?_
    refine s_val hF (x_assign rfl) (by decide) fun a hF => ?_
    refine s_end (hK6 _ _ ?_)
    refine wp_if hF rfl ?_
    refine wp_skip (hK5 _ _ ?_)
    refine wp_if hF rfl ?_
    refine wp_rs fun K7 hK7 => ?_
    refine s_val hF (x_assign rfl) (by decide) fun a hF => ?_
    refine s_val hF (x_assign rfl) (by decide) fun a hF => ?_
    refine s_end (hK7 _ _ ?_)
    refine wp_ret (inb_ret (then_ret (res_two hF rfl rfl rfl ⟨by first | (rw [show arT k = 0 by simp [arT, hk]]; rfl) | (rw [show arT k = 2 by simp [arT, hk]]; rfl) | (rw [show arT k = 3 by simp [arT, hk]]; rfl) | (rw [show arT k = -1 by simp [arT, hk]]; rfl), rfl⟩)))
  · skip
    refine wp_rs fun K8 hK8 => ?_
    refine s_val hF (x_assign rfl) (by decide) fun a hF => ?_
    refine s_val hF (x_assign rfl) (by decide) fun a hF => ?_
    refine s_end (hK8 _ _ ?_)
    refine wp_seq_k fun K9 hK9 => ?_
    refine wp_rs fun K10 hK10 => ?_
    refine s_val hF (x_move rfl) (by decide) fun a hF => ?_
    refine s_end (hK10 _ _ ?_)
    refine wp_block ?_
    refine wp_seq_k fun K11 hK11 => ?_
    refine wp_rs fun K12 hK12 => ?_
    refine s_val hF (x_eql (b := false) (decide_eq_false (by omega)) rfl rfl) (by decide) fun a hF => ?_
    refine s_val hF (x_assign rfl) (by decide) fun a hF => ?_
    refine s_end (hK12 _ _ ?_)
    refine wp_if hF rfl ?_
    refine wp_rs fun K13 hK13 => ?_
    refine s_val hF (x_eql (b := true) (decide_eq_true (by omega)) rfl rfl) (by decide) fun a hF => ?_
    refine s_val hF (x_assign rfl) (by decide) fun a hF => ?_
    refine s_end (hK13 _ _ ?_)
    refine wp_if hF rfl ?_
    refine wp_skip (hK11 _ _ ?_)
    refine wp_if hF rfl ?_
    refine wp_rs fun K14 hK14 => ?_
    refine s_val hF (x_assign rfl) (by decide) fun a hF => ?_
    refine s_val hF (x_assign rfl) (by decide) fun a hF => ?_
    refine s_end (hK14 _ _ ?_)
    refine wp_ret (inb_ret (then_ret (res_two hF rfl rfl rfl ⟨by first | (rw [show arT k = 0 by simp [arT, hk]]; rfl) | (rw [show arT k = 2 by simp [arT, hk]]; rfl) | (rw [show arT k = 3 by simp [arT, hk]]; rfl) | (rw [show arT k = -1 by simp [arT, hk]]; rfl), rfl⟩)))
  · skip
    refine wp_rs fun K15 hK15 => ?_
    refine s_val hF (x_assign rfl) (by decide) fun a hF => ?_
    refine s_val hF (x_assign rfl) (by decide) fun a hF => ?_
    refine s_end (hK15 _ _ ?_)
    refine wp_seq_k fun K16 hK16 => ?_
    refine wp_rs fun K17 hK17 => ?_
    refine s_val hF (x_move rfl) (by decide) fun a hF => ?_
    refine s_end (hK17 _ _ ?_)
    refine wp_block ?_
    refine wp_seq_k fun K18 hK18 => ?_
    refine wp_rs fun K19 hK19 => ?_
    refine s_val hF (x_eql (b := false) (decide_eq_false (by omega)) rfl rfl) (by decide) fun a hF => ?_
    refine s_val hF (x_assign rfl) (by decide) fun a hF => ?_
    refine s_end (hK19 _ _ ?_)
    refine wp_if hF rfl ?_
    refine wp_rs fun K20 hK20 => ?_
    refine s_val hF (x_eql (b := false) (decide_eq_false (by omega)) rfl rfl) (by decide) fun a hF => ?_
    refine s_val hF (x_assign rfl) (by decide) fun a hF => ?_
    refine s_end (hK20 _ _ ?_)
    refine wp_if hF rfl ?_
    refine wp_region_lit ?_
    refine s_val hF (x_eql (b := true) (decide_eq_true (by omega)) rfl rfl) (by decide) fun a hF => ?_
    refine s_val hF (x_assign rfl) (by decide) fun a hF => ?_
    refine s_end (hK18 _ _ ?_)
    refine wp_if hF rfl ?_
    refine wp_rs fun K21 hK21 => ?_
    refine s_val hF (x_assign rfl) (by decide) fun a hF => ?_
    refine s_val hF (x_assign rfl) (by decide) fun a hF => ?_
    refine s_end (hK21 _ _ ?_)
    refine wp_ret (inb_ret (then_ret (res_two hF rfl rfl rfl ⟨by first | (rw [show arT k = 0 by simp [arT, hk]]; rfl) | (rw [show arT k = 2 by simp [arT, hk]]; rfl) | (rw [show arT k = 3 by simp [arT, hk]]; rfl) | (rw [show arT k = -1 by simp [arT, hk]]; rfl), rfl⟩)))
  · skip
    refine wp_rs fun K22 hK22 => ?_
    refine s_val hF (x_assign rfl) (by decide) fun a hF => ?_
    refine s_val hF (x_assign rfl) (by decide) fun a hF => ?_
    refine s_end (hK22 _ _ ?_)
    refine wp_seq_k fun K23 hK23 => ?_
    refine wp_rs fun K24 hK24 => ?_
    refine s_val hF (x_move rfl) (by decide) fun a hF => ?_
    refine s_end (hK24 _ _ ?_)
    refine wp_block ?_
    refine wp_seq_k fun K25 hK25 => ?_
    refine wp_rs fun K26 hK26 => ?_
    refine s_val hF (x_eql (b := false) (decide_eq_false (by omega)) rfl rfl) (by decide) fun a hF => ?_
    refine s_val hF (x_assign rfl) (by decide) fun a hF => ?_
    refine s_end (hK26 _ _ ?_)
    refine wp_if hF rfl ?_
    refine wp_rs fun K27 hK27 => ?_
    refine s_val hF (x_eql (b := false) (decide_eq_false (by omega)) rfl rfl) (by decide) fun a hF => ?_
    refine s_val hF (x_assign rfl) (by decide) fun a hF => ?_
    refine s_end (hK27 _ _ ?_)
    refine wp_if hF rfl ?_
    refine wp_region_lit ?_
    refine s_val hF (x_eql (b := false) (decide_eq_false (by omega)) rfl rfl) (by decide) fun a hF => ?_
    refine s_val hF (x_assign rfl) (by decide) fun a hF => ?_
    refine s_end (hK25 _ _ ?_)
    refine wp_if hF rfl ?_
    refine wp_seq_k fun K28 hK28 => ?_
    refine wp_rs fun K29 hK29 => ?_
    refine s_val hF (x_eql (b := true) (decide_eq_true (by omega)) rfl rfl) (by decide) fun a hF => ?_
    refine s_val hF (x_assign rfl) (by decide) fun a hF => ?_
    refine s_end (hK29 _ _ ?_)
    refine wp_if hF rfl ?_
    refine wp_skip (hK28 _ _ ?_)
    refine wp_if hF rfl ?_
    refine wp_rs fun K30 hK30 => ?_
    refine s_val hF (x_assign rfl) (by decide) fun a hF => ?_
    refine s_val hF (x_assign rfl) (by decide) fun a hF => ?_
    refine s_end (hK30 _ _ ?_)
    refine wp_ret (inb_ret (then_ret (res_two hF rfl rfl rfl ⟨by first | (rw [show arT k = 0 by simp [arT, hk]]; rfl) | (rw [show arT k = 2 by simp [arT, hk]]; rfl) | (rw [show arT k = 3 by simp [arT, hk]]; rfl) | (rw [show arT k = -1 by simp [arT, hk]]; rfl), rfl⟩)))
  · skip
    refine wp_rs fun K31 hK31 => ?_
    refine s_val hF (x_assign rfl) (by decide) fun a hF => ?_
    refine s_val hF (x_assign rfl) (by decide) fun a hF => ?_
    refine s_end (hK31 _ _ ?_)
    refine wp_seq_k fun K32 hK32 => ?_
    refine wp_rs fun K33 hK33 => ?_
    refine s_val hF (x_move rfl) (by decide) fun a hF => ?_
    refine s_end (hK33 _ _ ?_)
    refine wp_block ?_
    refine wp_seq_k fun K34 hK34 => ?_
    refine wp_rs fun K35 hK35 => ?_
    refine s_val hF (x_eql (b := false) (decide_eq_false (by omega)) rfl rfl) (by decide) fun a hF => ?_
    refine s_val hF (x_assign rfl) (by decide) fun a hF => ?_
    refine s_end (hK35 _ _ ?_)
    refine wp_if hF rfl ?_
    refine wp_rs fun K36 hK36 => ?_
    refine s_val hF (x_eql (b := false) (decide_eq_false (by omega)) rfl rfl) (by decide) fun a hF => ?_
    refine s_val hF (x_assign rfl) (by decide) fun a hF => ?_
    refine s_end (hK36 _ _ ?_)
    refine wp_if hF rfl ?_
    refine wp_region_lit ?_
    refine s_val hF (x_eql (b := false) (decide_eq_false (by omega)) rfl rfl) (by decide) fun a hF => ?_
    refine s_val hF (x_assign rfl) (by decide) fun a hF => ?_
    refine s_end (hK34 _ _ ?_)
    refine wp_if hF rfl ?_
    refine wp_seq_k fun K37 hK37 => ?_
    refine wp_rs fun K38 hK38 => ?_
    refine s_val hF (x_eql (b := false) (decide_eq_false (by omega)) rfl rfl) (by decide) fun a hF => ?_
    refine s_val hF (x_assign rfl) (by decide) fun a hF => ?_
    refine s_end (hK38 _ _ ?_)
    refine wp_if hF rfl ?_
    refine wp_rs fun K39 hK39 => ?_
    refine s_val hF (x_eql (b := true) (decide_eq_true (by omega)) rfl rfl) (by decide) fun a hF => ?_
    refine s_val hF (x_assign rfl) (by decide) fun a hF => ?_
    refine s_end (hK39 _ _ ?_)
    refine wp_if hF rfl ?_
    refine wp_skip (hK37 _ _ ?_)
    refine wp_if hF rfl ?_
    refine wp_rs fun K40 hK40 => ?_
    refine s_val hF (x_assign rfl) (by decide) fun a hF => ?_
    refine s_val hF (x_assign rfl) (by decide) fun a hF => ?_
    refine s_end (hK40 _ _ ?_)
    refine wp_ret (inb_ret (then_ret (res_two hF rfl rfl rfl ⟨by first | (rw [show arT k = 0 by simp [arT, hk]]; rfl) | (rw [show arT k = 2 by simp [arT, hk]]; rfl) | (rw [show arT k = 3 by simp [arT, hk]]; rfl) | (rw [show arT k = -1 by simp [arT, hk]]; rfl), rfl⟩)))
  · skip
    refine wp_rs fun K41 hK41 => ?_
    refine s_val hF (x_assign rfl) (by decide) fun a hF => ?_
    refine s_val hF (x_assign rfl) (by decide) fun a hF => ?_
    refine s_end (hK41 _ _ ?_)
    refine wp_seq_k fun K42 hK42 => ?_
    refine wp_rs fun K43 hK43 => ?_
    refine s_val hF (x_move rfl) (by decide) fun a hF => ?_
    refine s_end (hK43 _ _ ?_)
    refine wp_block ?_
    refine wp_seq_k fun K44 hK44 => ?_
    refine wp_rs fun K45 hK45 => ?_
    refine s_val hF (x_eql (b := false) (decide_eq_false (by omega)) rfl rfl) (by decide) fun a hF => ?_
    refine s_val hF (x_assign rfl) (by decide) fun a hF => ?_
    refine s_end (hK45 _ _ ?_)
    refine wp_if hF rfl ?_
    refine wp_rs fun K46 hK46 => ?_
    refine s_val hF (x_eql (b := false) (decide_eq_false (by omega)) rfl rfl) (by decide) fun a hF => ?_
    refine s_val hF (x_assign rfl) (by decide) fun a hF => ?_
    refine s_end (hK46 _ _ ?_)
    refine wp_if hF rfl ?_
    refine wp_region_lit ?_
    refine s_val hF (x_eql (b := false) (decide_eq_false (by omega)) rfl rfl) (by decide) fun a hF => ?_
    refine s_val hF (x_assign rfl) (by decide) fun a hF => ?_
    refine s_end (hK44 _ _ ?_)
    refine wp_if hF rfl ?_
    refine wp_seq_k fun K47 hK47 => ?_
    refine wp_rs fun K48 hK48 => ?_
    refine s_val hF (x_eql (b := false) (decide_eq_false (by omega)) rfl rfl) (by decide) fun a hF => ?_
    refine s_val hF (x_assign rfl) (by decide) fun a hF => ?_
    refine s_end (hK48 _ _ ?_)
    refine wp_if hF rfl ?_
    refine wp_rs fun K49 hK49 => ?_
    refine s_val hF (x_eql (b := false) (decide_eq_false (by omega)) rfl rfl) (by decide) fun a hF => ?_
    refine s_val hF (x_assign rfl) (by decide) fun a hF => ?_
    refine s_end (hK49 _ _ ?_)
    refine wp_if hF rfl ?_
    refine wp_region_lit ?_
    refine s_val hF (x_eql (b := true) (decide_eq_true (by omega)) rfl rfl) (by decide) fun a hF => ?_
    refine s_val hF (x_assign rfl) (by decide) fun a hF => ?_
    refine s_end (hK47 _ _ ?_)
    refine wp_if hF rfl ?_
    refine wp_rs fun K50 hK50 => ?_
    refine s_val hF (x_assign rfl) (by decide) fun a hF => ?_
    refine s_val hF (x_assign rfl) (by decide) fun a hF => ?_
    refine s_end (hK50 _ _ ?_)
    refine wp_ret (inb_ret (then_ret (res_two hF rfl rfl rfl ⟨by first | (rw [show arT k = 0 by simp [arT, hk]]; rfl) | (rw [show arT k = 2 by simp [arT, hk]]; rfl) | (rw [show arT k = 3 by simp [arT, hk]]; rfl) | (rw [show arT k = -1 by simp [arT, hk]]; rfl), rfl⟩)))
  · skip
    refine wp_rs fun K51 hK51 => ?_
    refine s_val hF (x_assign rfl) (by decide) fun a hF => ?_
    refine s_val hF (x_assign rfl) (by decide) fun a hF => ?_
    refine s_end (hK51 _ _ ?_)
    refine wp_seq_k fun K52 hK52 => ?_
    refine wp_rs fun K53 hK53 => ?_
    refine s_val hF (x_move rfl) (by decide) fun a hF => ?_
    refine s_end (hK53 _ _ ?_)
    refine wp_block ?_
    refine wp_seq_k fun K54 hK54 => ?_
    refine wp_rs fun K55 hK55 => ?_
    refine s_val hF (x_eql (b := false) (decide_eq_false (by omega)) rfl rfl) (by decide) fun a hF => ?_
    refine s_val hF (x_assign rfl) (by decide) fun a hF => ?_
    refine s_end (hK55 _ _ ?_)
    refine wp_if hF rfl ?_
    refine wp_rs fun K56 hK56 => ?_
    refine s_val hF (x_eql (b := false) (decide_eq_false (by omega)) rfl rfl) (by decide) fun a hF => ?_
    refine s_val hF (x_assign rfl) (by decide) fun a hF => ?_
    refine s_end (hK56 _ _ ?_)
    refine wp_if hF rfl ?_
    refine wp_region_lit ?_
    refine s_val hF (x_eql (b := false) (decide_eq_false (by omega)) rfl rfl) (by decide) fun a hF => ?_
    refine s_val hF (x_assign rfl) (by decide) fun a hF => ?_
    refine s_end (hK54 _ _ ?_)
    refine wp_if hF rfl ?_
    refine wp_seq_k fun K57 hK57 => ?_
    refine wp_rs fun K58 hK58 => ?_
    refine s_val hF (x_eql (b := false) (decide_eq_false (by omega)) rfl rfl) (by decide) fun a hF => ?_
    refine s_val hF (x_assign rfl) (by decide) fun a hF => ?_
    refine s_end (hK58 _ _ ?_)
    refine wp_if hF rfl ?_
    refine wp_rs fun K59 hK59 => ?_
    refine s_val hF (x_eql (b := false) (decide_eq_false (by omega)) rfl rfl) (by decide) fun a hF => ?_
    refine s_val hF (x_assign rfl) (by decide) fun a hF => ?_
    refine s_end (hK59 _ _ ?_)
    refine wp_if hF rfl ?_
    refine wp_region_lit ?_
    refine s_val hF (x_eql (b := false) (decide_eq_false (by omega)) rfl rfl) (by decide) fun a hF => ?_
    refine s_val hF (x_assign rfl) (by decide) fun a hF => ?_
    refine s_end (hK57 _ _ ?_)
    refine wp_if hF rfl ?_
    refine wp_rs fun K60 hK60 => ?_
    refine s_val hF (x_eql (b := true) (decide_eq_true (by omega)) rfl rfl) (by decide) fun a hF => ?_
    refine s_val hF (x_assign rfl) (by decide) fun a hF => ?_
    refine s_end (hK60 _ _ ?_)
    refine wp_if hF rfl ?_
    refine wp_rs fun K61 hK61 => ?_
    refine s_val hF (x_assign rfl) (by decide) fun a hF => ?_
    refine s_val hF (x_assign rfl) (by decide) fun a hF => ?_
    refine s_end (hK61 _ _ ?_)
    refine wp_ret (inb_ret (then_ret (res_two hF rfl rfl rfl ⟨by first | (rw [show arT k = 0 by simp [arT, hk]]; rfl) | (rw [show arT k = 2 by simp [arT, hk]]; rfl) | (rw [show arT k = 3 by simp [arT, hk]]; rfl) | (rw [show arT k = -1 by simp [arT, hk]]; rfl), rfl⟩)))
  · skip
    refine wp_rs fun K62 hK62 => ?_
    refine s_val hF (x_assign rfl) (by decide) fun a hF => ?_
    refine s_val hF (x_assign rfl) (by decide) fun a hF => ?_
    refine s_end (hK62 _ _ ?_)
    refine wp_seq_k fun K63 hK63 => ?_
    refine wp_rs fun K64 hK64 => ?_
    refine s_val hF (x_move rfl) (by decide) fun a hF => ?_
    refine s_end (hK64 _ _ ?_)
    refine wp_block ?_
    refine wp_seq_k fun K65 hK65 => ?_
    refine wp_rs fun K66 hK66 => ?_
    refine s_val hF (x_eql (b := false) (decide_eq_false (by omega)) rfl rfl) (by decide) fun a hF => ?_
    refine s_val hF (x_assign rfl) (by decide) fun a hF => ?_
    refine s_end (hK66 _ _ ?_)
    refine wp_if hF rfl ?_
    refine wp_rs fun K67 hK67 => ?_
    refine s_val hF (x_eql (b := false) (decide_eq_false (by omega)) rfl rfl) (by decide) fun a hF => ?_
    refine s_val hF (x_assign rfl) (by decide) fun a hF => ?_
    refine s_end (hK67 _ _ ?_)
    refine wp_if hF rfl ?_
    refine wp_region_lit ?_
    refine s_val hF (x_eql (b := false) (decide_eq_false (by omega)) rfl rfl) (by decide) fun a hF => ?_
    refine s_val hF (x_assign rfl) (by decide) fun a hF => ?_
    refine s_end (hK65 _ _ ?_)
    refine wp_if hF rfl ?_
    refine wp_seq_k fun K68 hK68 => ?_
    refine wp_rs fun K69 hK69 => ?_
    refine s_val hF (x_eql (b := false) (decide_eq_false (by omega)) rfl rfl) (by decide) fun a hF => ?_
    refine s_val hF (x_assign rfl) (by decide) fun a hF => ?_
    refine s_end (hK69 _ _ ?_)
    refine wp_if hF rfl ?_
    refine wp_rs fun K70 hK70 => ?_
    refine s_val hF (x_eql (b := false) (decide_eq_false (by omega)) rfl rfl) (by decide) fun a hF => ?_
    refine s_val hF (x_assign rfl) (by decide) fun a hF => ?_
    refine s_end (hK70 _ _ ?_)
    refine wp_if hF rfl ?_
    refine wp_region_lit ?_
    refine s_val hF (x_eql (b := false) (decide_eq_false (by omega)) rfl rfl) (by decide) fun a hF => ?_
    refine s_val hF (x_assign rfl) (by decide) fun a hF => ?_
    refine s_end (hK68 _ _ ?_)
    refine wp_if hF rfl ?_
    refine wp_rs fun K71 hK71 => ?_
    refine s_val hF (x_eql (b := false) (decide_eq_false (by omega)) rfl rfl) (by decide) fun a hF => ?_
    refine s_val hF (x_assign rfl) (by decide) fun a hF => ?_
    refine s_end (hK71 _ _ ?_)
    refine wp_if hF rfl ?_
    refine wp_skip (hK63 _ _ ?_)
    refine wp_rs fun K72 hK72 => ?_
    refine s_val hF (x_assign rfl) (by decide) fun a hF => ?_
    refine s_val hF (x_assign rfl) (by decide) fun a hF => ?_
    refine s_end (hK72 _ _ ?_)
    refine wp_ret (res_two hF rfl rfl rfl ⟨by first | (rw [show arT k = 0 by simp [arT, hk]]; rfl) | (rw [show arT k = 2 by simp [arT, hk]]; rfl) | (rw [show arT k = 3 by simp [arT, hk]]; rfl) | (rw [show arT k = -1 by simp [arT, hk]]; rfl), rfl⟩)

set_option maxRecDepth 100000 in
set_option maxHeartbeats 1600000 in
theorem kids54 (k : Int) (w0 : World) : Calls Try.prog 87 #[.int .i64 k] w0 fun e w' => e = .returned (.int .i64 (arT k)) ∧ w' = w0 := by
  refine calls_fs 14 [(0, .int .i64 k)] Try.func87 rfl rfl rfl rfl rfl fun a hF => ?_
  rcases (show k = 1 ∨ k = 2 ∨ k = 7 ∨ k = 3 ∨ k = 4 ∨ k = 6 ∨ k = 5 ∨ (k ≠ 1 ∧ k ≠ 2 ∧ k ≠ 7 ∧ k ≠ 3 ∧ k ≠ 4 ∧ k ≠ 6 ∧ k ≠ 5) by omega) with hk | hk | hk | hk | hk | hk | hk | hk
  · skip
    refine wp_rs fun K2 hK2 => ?_
    refine s_val hF (x_assign rfl) (by decide) fun a hF => ?_
    refine s_end (hK2 _ _ ?_)
    refine wp_seq_k fun K3 hK3 => ?_
    refine wp_rs fun K4 hK4 => ?_
    refine s_val hF (x_move rfl) (by decide) fun a hF => ?_
    refine s_end (hK4 _ _ ?_)
    refine wp_block ?_
    refine wp_seq_k fun K5 hK5 => ?_
    refine wp_rs fun K6 hK6 => ?_
    refine s_val hF (x_eql (b := true) (decide_eq_true (by omega)) rfl rfl) (by decide) fun a hF => ?_
    refine s_val hF (x_assign rfl) (by decide) fun a hF => ?_
    refine s_end (hK6 _ _ ?_)
    refine wp_if hF rfl ?_
    refine wp_skip (hK5 _ _ ?_)
    refine wp_if hF rfl ?_
    refine wp_rs fun K7 hK7 => ?_
    refine s_val hF (x_assign rfl) (by decide) fun a hF => ?_
    refine s_end (hK7 _ _ ?_)
    refine wp_ret (inb_ret (then_ret (res_slot hF rfl rfl ⟨by simp [arT, hk], rfl⟩)))
  · skip
    refine wp_rs fun K8 hK8 => ?_
    refine s_val hF (x_assign rfl) (by decide) fun a hF => ?_
    refine s_end (hK8 _ _ ?_)
    refine wp_seq_k fun K9 hK9 => ?_
    refine wp_rs fun K10 hK10 => ?_
    refine s_val hF (x_move rfl) (by decide) fun a hF => ?_
    refine s_end (hK10 _ _ ?_)
    refine wp_block ?_
    refine wp_seq_k fun K11 hK11 => ?_
    refine wp_rs fun K12 hK12 => ?_
    refine s_val hF (x_eql (b := false) (decide_eq_false (by omega)) rfl rfl) (by decide) fun a hF => ?_
    refine s_val hF (x_assign rfl) (by decide) fun a hF => ?_
    refine s_end (hK12 _ _ ?_)
    refine wp_if hF rfl ?_
    refine wp_rs fun K13 hK13 => ?_
    refine s_val hF (x_eql (b := true) (decide_eq_true (by omega)) rfl rfl) (by decide) fun a hF => ?_
    refine s_val hF (x_assign rfl) (by decide) fun a hF => ?_
    refine s_end (hK13 _ _ ?_)
    refine wp_if hF rfl ?_
    refine wp_skip (hK11 _ _ ?_)
    refine wp_if hF rfl ?_
    refine wp_rs fun K14 hK14 => ?_
    refine s_val hF (x_assign rfl) (by decide) fun a hF => ?_
    refine s_end (hK14 _ _ ?_)
    refine wp_ret (inb_ret (then_ret (res_slot hF rfl rfl ⟨by simp [arT, hk], rfl⟩)))
  · skip
    refine wp_rs fun K15 hK15 => ?_
    refine s_val hF (x_assign rfl) (by decide) fun a hF => ?_
    refine s_end (hK15 _ _ ?_)
    refine wp_seq_k fun K16 hK16 => ?_
    refine wp_rs fun K17 hK17 => ?_
    refine s_val hF (x_move rfl) (by decide) fun a hF => ?_
    refine s_end (hK17 _ _ ?_)
    refine wp_block ?_
    refine wp_seq_k fun K18 hK18 => ?_
    refine wp_rs fun K19 hK19 => ?_
    refine s_val hF (x_eql (b := false) (decide_eq_false (by omega)) rfl rfl) (by decide) fun a hF => ?_
    refine s_val hF (x_assign rfl) (by decide) fun a hF => ?_
    refine s_end (hK19 _ _ ?_)
    refine wp_if hF rfl ?_
    refine wp_rs fun K20 hK20 => ?_
    refine s_val hF (x_eql (b := false) (decide_eq_false (by omega)) rfl rfl) (by decide) fun a hF => ?_
    refine s_val hF (x_assign rfl) (by decide) fun a hF => ?_
    refine s_end (hK20 _ _ ?_)
    refine wp_if hF rfl ?_
    refine wp_region_lit ?_
    refine s_val hF (x_eql (b := true) (decide_eq_true (by omega)) rfl rfl) (by decide) fun a hF => ?_
    refine s_val hF (x_assign rfl) (by decide) fun a hF => ?_
    refine s_end (hK18 _ _ ?_)
    refine wp_if hF rfl ?_
    refine wp_rs fun K21 hK21 => ?_
    refine s_val hF (x_assign rfl) (by decide) fun a hF => ?_
    refine s_end (hK21 _ _ ?_)
    refine wp_ret (inb_ret (then_ret (res_slot hF rfl rfl ⟨by simp [arT, hk], rfl⟩)))
  · skip
    refine wp_rs fun K22 hK22 => ?_
    refine s_val hF (x_assign rfl) (by decide) fun a hF => ?_
    refine s_end (hK22 _ _ ?_)
    refine wp_seq_k fun K23 hK23 => ?_
    refine wp_rs fun K24 hK24 => ?_
    refine s_val hF (x_move rfl) (by decide) fun a hF => ?_
    refine s_end (hK24 _ _ ?_)
    refine wp_block ?_
    refine wp_seq_k fun K25 hK25 => ?_
    refine wp_rs fun K26 hK26 => ?_
    refine s_val hF (x_eql (b := false) (decide_eq_false (by omega)) rfl rfl) (by decide) fun a hF => ?_
    refine s_val hF (x_assign rfl) (by decide) fun a hF => ?_
    refine s_end (hK26 _ _ ?_)
    refine wp_if hF rfl ?_
    refine wp_rs fun K27 hK27 => ?_
    refine s_val hF (x_eql (b := false) (decide_eq_false (by omega)) rfl rfl) (by decide) fun a hF => ?_
    refine s_val hF (x_assign rfl) (by decide) fun a hF => ?_
    refine s_end (hK27 _ _ ?_)
    refine wp_if hF rfl ?_
    refine wp_region_lit ?_
    refine s_val hF (x_eql (b := false) (decide_eq_false (by omega)) rfl rfl) (by decide) fun a hF => ?_
    refine s_val hF (x_assign rfl) (by decide) fun a hF => ?_
    refine s_end (hK25 _ _ ?_)
    refine wp_if hF rfl ?_
    refine wp_seq_k fun K28 hK28 => ?_
    refine wp_rs fun K29 hK29 => ?_
    refine s_val hF (x_eql (b := true) (decide_eq_true (by omega)) rfl rfl) (by decide) fun a hF => ?_
    refine s_val hF (x_assign rfl) (by decide) fun a hF => ?_
    refine s_end (hK29 _ _ ?_)
    refine wp_if hF rfl ?_
    refine wp_skip (hK28 _ _ ?_)
    refine wp_if hF rfl ?_
    refine wp_rs fun K30 hK30 => ?_
    refine s_val hF (x_assign rfl) (by decide) fun a hF => ?_
    refine s_end (hK30 _ _ ?_)
    refine wp_ret (inb_ret (then_ret (res_slot hF rfl rfl ⟨by simp [arT, hk], rfl⟩)))
  · skip
    refine wp_rs fun K31 hK31 => ?_
    refine s_val hF (x_assign rfl) (by decide) fun a hF => ?_
    refine s_end (hK31 _ _ ?_)
    refine wp_seq_k fun K32 hK32 => ?_
    refine wp_rs fun K33 hK33 => ?_
    refine s_val hF (x_move rfl) (by decide) fun a hF => ?_
    refine s_end (hK33 _ _ ?_)
    refine wp_block ?_
    refine wp_seq_k fun K34 hK34 => ?_
    refine wp_rs fun K35 hK35 => ?_
    refine s_val hF (x_eql (b := false) (decide_eq_false (by omega)) rfl rfl) (by decide) fun a hF => ?_
    refine s_val hF (x_assign rfl) (by decide) fun a hF => ?_
    refine s_end (hK35 _ _ ?_)
    refine wp_if hF rfl ?_
    refine wp_rs fun K36 hK36 => ?_
    refine s_val hF (x_eql (b := false) (decide_eq_false (by omega)) rfl rfl) (by decide) fun a hF => ?_
    refine s_val hF (x_assign rfl) (by decide) fun a hF => ?_
    refine s_end (hK36 _ _ ?_)
    refine wp_if hF rfl ?_
    refine wp_region_lit ?_
    refine s_val hF (x_eql (b := false) (decide_eq_false (by omega)) rfl rfl) (by decide) fun a hF => ?_
    refine s_val hF (x_assign rfl) (by decide) fun a hF => ?_
    refine s_end (hK34 _ _ ?_)
    refine wp_if hF rfl ?_
    refine wp_seq_k fun K37 hK37 => ?_
    refine wp_rs fun K38 hK38 => ?_
    refine s_val hF (x_eql (b := false) (decide_eq_false (by omega)) rfl rfl) (by decide) fun a hF => ?_
    refine s_val hF (x_assign rfl) (by decide) fun a hF => ?_
    refine s_end (hK38 _ _ ?_)
    refine wp_if hF rfl ?_
    refine wp_rs fun K39 hK39 => ?_
    refine s_val hF (x_eql (b := true) (decide_eq_true (by omega)) rfl rfl) (by decide) fun a hF => ?_
    refine s_val hF (x_assign rfl) (by decide) fun a hF => ?_
    refine s_end (hK39 _ _ ?_)
    refine wp_if hF rfl ?_
    refine wp_skip (hK37 _ _ ?_)
    refine wp_if hF rfl ?_
    refine wp_rs fun K40 hK40 => ?_
    refine s_val hF (x_assign rfl) (by decide) fun a hF => ?_
    refine s_end (hK40 _ _ ?_)
    refine wp_ret (inb_ret (then_ret (res_slot hF rfl rfl ⟨by simp [arT, hk], rfl⟩)))
  · skip
    refine wp_rs fun K41 hK41 => ?_
    refine s_val hF (x_assign rfl) (by decide) fun a hF => ?_
    refine s_end (hK41 _ _ ?_)
    refine wp_seq_k fun K42 hK42 => ?_
    refine wp_rs fun K43 hK43 => ?_
    refine s_val hF (x_move rfl) (by decide) fun a hF => ?_
    refine s_end (hK43 _ _ ?_)
    refine wp_block ?_
    refine wp_seq_k fun K44 hK44 => ?_
    refine wp_rs fun K45 hK45 => ?_
    refine s_val hF (x_eql (b := false) (decide_eq_false (by omega)) rfl rfl) (by decide) fun a hF => ?_
    refine s_val hF (x_assign rfl) (by decide) fun a hF => ?_
    refine s_end (hK45 _ _ ?_)
    refine wp_if hF rfl ?_
    refine wp_rs fun K46 hK46 => ?_
    refine s_val hF (x_eql (b := false) (decide_eq_false (by omega)) rfl rfl) (by decide) fun a hF => ?_
    refine s_val hF (x_assign rfl) (by decide) fun a hF => ?_
    refine s_end (hK46 _ _ ?_)
    refine wp_if hF rfl ?_
    refine wp_region_lit ?_
    refine s_val hF (x_eql (b := false) (decide_eq_false (by omega)) rfl rfl) (by decide) fun a hF => ?_
    refine s_val hF (x_assign rfl) (by decide) fun a hF => ?_
    refine s_end (hK44 _ _ ?_)
    refine wp_if hF rfl ?_
    refine wp_seq_k fun K47 hK47 => ?_
    refine wp_rs fun K48 hK48 => ?_
    refine s_val hF (x_eql (b := false) (decide_eq_false (by omega)) rfl rfl) (by decide) fun a hF => ?_
    refine s_val hF (x_assign rfl) (by decide) fun a hF => ?_
    refine s_end (hK48 _ _ ?_)
    refine wp_if hF rfl ?_
    refine wp_rs fun K49 hK49 => ?_
    refine s_val hF (x_eql (b := false) (decide_eq_false (by omega)) rfl rfl) (by decide) fun a hF => ?_
    refine s_val hF (x_assign rfl) (by decide) fun a hF => ?_
    refine s_end (hK49 _ _ ?_)
    refine wp_if hF rfl ?_
    refine wp_region_lit ?_
    refine s_val hF (x_eql (b := true) (decide_eq_true (by omega)) rfl rfl) (by decide) fun a hF => ?_
    refine s_val hF (x_assign rfl) (by decide) fun a hF => ?_
    refine s_end (hK47 _ _ ?_)
    refine wp_if hF rfl ?_
    refine wp_rs fun K50 hK50 => ?_
    refine s_val hF (x_assign rfl) (by decide) fun a hF => ?_
    refine s_end (hK50 _ _ ?_)
    refine wp_ret (inb_ret (then_ret (res_slot hF rfl rfl ⟨by simp [arT, hk], rfl⟩)))
  · skip
    refine wp_rs fun K51 hK51 => ?_
    refine s_val hF (x_assign rfl) (by decide) fun a hF => ?_
    refine s_end (hK51 _ _ ?_)
    refine wp_seq_k fun K52 hK52 => ?_
    refine wp_rs fun K53 hK53 => ?_
    refine s_val hF (x_move rfl) (by decide) fun a hF => ?_
    refine s_end (hK53 _ _ ?_)
    refine wp_block ?_
    refine wp_seq_k fun K54 hK54 => ?_
    refine wp_rs fun K55 hK55 => ?_
    refine s_val hF (x_eql (b := false) (decide_eq_false (by omega)) rfl rfl) (by decide) fun a hF => ?_
    refine s_val hF (x_assign rfl) (by decide) fun a hF => ?_
    refine s_end (hK55 _ _ ?_)
    refine wp_if hF rfl ?_
    refine wp_rs fun K56 hK56 => ?_
    refine s_val hF (x_eql (b := false) (decide_eq_false (by omega)) rfl rfl) (by decide) fun a hF => ?_
    refine s_val hF (x_assign rfl) (by decide) fun a hF => ?_
    refine s_end (hK56 _ _ ?_)
    refine wp_if hF rfl ?_
    refine wp_region_lit ?_
    refine s_val hF (x_eql (b := false) (decide_eq_false (by omega)) rfl rfl) (by decide) fun a hF => ?_
    refine s_val hF (x_assign rfl) (by decide) fun a hF => ?_
    refine s_end (hK54 _ _ ?_)
    refine wp_if hF rfl ?_
    refine wp_seq_k fun K57 hK57 => ?_
    refine wp_rs fun K58 hK58 => ?_
    refine s_val hF (x_eql (b := false) (decide_eq_false (by omega)) rfl rfl) (by decide) fun a hF => ?_
    refine s_val hF (x_assign rfl) (by decide) fun a hF => ?_
    refine s_end (hK58 _ _ ?_)
    refine wp_if hF rfl ?_
    refine wp_rs fun K59 hK59 => ?_
    refine s_val hF (x_eql (b := false) (decide_eq_false (by omega)) rfl rfl) (by decide) fun a hF => ?_
    refine s_val hF (x_assign rfl) (by decide) fun a hF => ?_
    refine s_end (hK59 _ _ ?_)
    refine wp_if hF rfl ?_
    refine wp_region_lit ?_
    refine s_val hF (x_eql (b := false) (decide_eq_false (by omega)) rfl rfl) (by decide) fun a hF => ?_
    refine s_val hF (x_assign rfl) (by decide) fun a hF => ?_
    refine s_end (hK57 _ _ ?_)
    refine wp_if hF rfl ?_
    refine wp_rs fun K60 hK60 => ?_
    refine s_val hF (x_eql (b := true) (decide_eq_true (by omega)) rfl rfl) (by decide) fun a hF => ?_
    refine s_val hF (x_assign rfl) (by decide) fun a hF => ?_
    refine s_end (hK60 _ _ ?_)
    refine wp_if hF rfl ?_
    refine wp_rs fun K61 hK61 => ?_
    refine s_val hF (x_assign rfl) (by decide) fun a hF => ?_
    refine s_end (hK61 _ _ ?_)
    refine wp_ret (inb_ret (then_ret (res_slot hF rfl rfl ⟨by simp [arT, hk], rfl⟩)))
  · skip
    refine wp_rs fun K62 hK62 => ?_
    refine s_val hF (x_assign rfl) (by decide) fun a hF => ?_
    refine s_end (hK62 _ _ ?_)
    refine wp_seq_k fun K63 hK63 => ?_
    refine wp_rs fun K64 hK64 => ?_
    refine s_val hF (x_move rfl) (by decide) fun a hF => ?_
    refine s_end (hK64 _ _ ?_)
    refine wp_block ?_
    refine wp_seq_k fun K65 hK65 => ?_
    refine wp_rs fun K66 hK66 => ?_
    refine s_val hF (x_eql (b := false) (decide_eq_false (by omega)) rfl rfl) (by decide) fun a hF => ?_
    refine s_val hF (x_assign rfl) (by decide) fun a hF => ?_
    refine s_end (hK66 _ _ ?_)
    refine wp_if hF rfl ?_
    refine wp_rs fun K67 hK67 => ?_
    refine s_val hF (x_eql (b := false) (decide_eq_false (by omega)) rfl rfl) (by decide) fun a hF => ?_
    refine s_val hF (x_assign rfl) (by decide) fun a hF => ?_
    refine s_end (hK67 _ _ ?_)
    refine wp_if hF rfl ?_
    refine wp_region_lit ?_
    refine s_val hF (x_eql (b := false) (decide_eq_false (by omega)) rfl rfl) (by decide) fun a hF => ?_
    refine s_val hF (x_assign rfl) (by decide) fun a hF => ?_
    refine s_end (hK65 _ _ ?_)
    refine wp_if hF rfl ?_
    refine wp_seq_k fun K68 hK68 => ?_
    refine wp_rs fun K69 hK69 => ?_
    refine s_val hF (x_eql (b := false) (decide_eq_false (by omega)) rfl rfl) (by decide) fun a hF => ?_
    refine s_val hF (x_assign rfl) (by decide) fun a hF => ?_
    refine s_end (hK69 _ _ ?_)
    refine wp_if hF rfl ?_
    refine wp_rs fun K70 hK70 => ?_
    refine s_val hF (x_eql (b := false) (decide_eq_false (by omega)) rfl rfl) (by decide) fun a hF => ?_
    refine s_val hF (x_assign rfl) (by decide) fun a hF => ?_
    refine s_end (hK70 _ _ ?_)
    refine wp_if hF rfl ?_
    refine wp_region_lit ?_
    refine s_val hF (x_eql (b := false) (decide_eq_false (by omega)) rfl rfl) (by decide) fun a hF => ?_
    refine s_val hF (x_assign rfl) (by decide) fun a hF => ?_
    refine s_end (hK68 _ _ ?_)
    refine wp_if hF rfl ?_
    refine wp_rs fun K71 hK71 => ?_
    refine s_val hF (x_eql (b := false) (decide_eq_false (by omega)) rfl rfl) (by decide) fun a hF => ?_
    refine s_val hF (x_assign rfl) (by decide) fun a hF => ?_
    refine s_end (hK71 _ _ ?_)
    refine wp_if hF rfl ?_
    refine wp_skip (hK63 _ _ ?_)
    refine wp_rs fun K72 hK72 => ?_
    refine s_val hF (x_assign rfl) (by decide) fun a hF => ?_
    refine s_end (hK72 _ _ ?_)
    refine wp_ret (res_slot hF rfl rfl ⟨by simp [arT, hk], rfl⟩)

set_option maxRecDepth 100000 in
set_option maxHeartbeats 1600000 in
theorem kidsOf101 (c : CT) (x : C8) (A : Nat → Prop) (wa w0 : World) (hx : RC wa A c x) : Calls Try.prog 89 #[tv x] w0 fun e w' => ∃ v, e = .returned v ∧ RK wa A v c.kids ∧ Below w0.heap.size w0 w' := by
  obtain ⟨av, nv, cv, hts, hle, hlen, hcap, hkid⟩ := hx.kids
  obtain ⟨xk, xn, xs, xl, xls, xts⟩ := x
  simp only at hts
  subst hts
  have hkd : xk = c.kd := hx.kd
  have hone := hx.one
  have hB := Below.refl w0.heap.size w0
  have sB := hB.size
  refine calls_fs 20 [(0, tv ⟨xk, xn, xs, xl, xls, .slice av nv cv⟩)] Try.func89 rfl rfl rfl rfl rfl fun a hF => ?_
  rcases (show (arT xk ≤ nv ∧ (c.kids.length : Int) = max 0 (arT xk)) ∨ ((nv : Int) < arT xk ∧ c.kids.length = 0) by rw [hkd, hlen]; rcases CT.kids_arT hx with h | h <;> omega) with hk | hk
  · skip
    refine wp_rs fun K2 hK2 => ?_
    refine s_box ([.int .i64 xk, .int .i64 xn, .string xs, .int .i64 xl.1, .int .i64 xl.2.1, xl.2.2, xls, .slice av nv cv]) hF (by decide) rfl rfl fun w2 b1 a eb1 m1 B3 zb1 hF => ?_
    have sB3 := B3.size
    have hB := hB.trans (B3.mono hB.size)
    refine s_val hF (x_assign rfl) (by decide) fun a hF => ?_
    refine s_end (hK2 _ _ ?_)
    refine wp_rs fun K3 hK3 => ?_
    refine s_val hF (x_fa0 fa27_0 rfl) (by decide) fun a hF => ?_
    refine s_val hF (x_load rfl (m_load flat3 (m1.cell (j := 0) rfl))) (by decide) fun a hF => ?_
    refine s_callS [_] hF (enters_of Try.func97 (by kernel_rfl) rfl) rfl (by decide) (arity109 xk w2) fun a hF => ?_
    refine s_val hF (x_move rfl) (by decide) fun a hF => ?_
    refine s_val hF (x_ext rfl rfl) (by decide) fun a hF => ?_
    refine s_val hF (x_ext rfl rfl) (by decide) fun a hF => ?_
    refine s_val hF (x_assign rfl) (by decide) fun a hF => ?_
    refine s_val hF (x_assign rfl) (by decide) fun a hF => ?_
    refine s_end (hK3 _ _ ?_)
    refine wp_seq_k fun K4 hK4 => ?_
    refine wp_rs fun K5 hK5 => ?_
    refine s_val hF (x_fa0 fa27_5 rfl) (by decide) fun a hF => ?_
    refine s_val hF (x_load rfl (m_load flat25 (m1.cell (j := 7) rfl))) (by decide) fun a hF => ?_
    refine s_val hF (x_len Try.underlying25 rfl) (by decide) fun a hF => ?_
    refine s_val hF (x_move rfl) (by decide) fun a hF => ?_
    refine s_val hF (x_lss (b := false) (decide_eq_false (by omega)) rfl rfl) (by decide) fun a hF => ?_
    refine s_end (hK5 _ _ ?_)
    refine wp_if hF rfl ?_
    refine wp_skip (hK4 _ _ ?_)
    refine wp_rs fun K6 hK6 => ?_
    refine s_val hF (x_fa0 fa27_5 rfl) (by decide) fun a hF => ?_
    refine s_val hF (x_load rfl (m_load flat25 (m1.cell (j := 7) rfl))) (by decide) fun a hF => ?_
    refine s_val hF (x_move rfl) (by decide) fun a hF => ?_
    refine s_val hF (x_slice (vlo := none) (vhi := some _) (vmx := none) rfl rfl rfl rfl (m_sliceUK c.kids.length Try.underlying25 el25.size (by omega) (by omega))) (by decide) fun a hF => ?_
    refine s_val hF (x_assign rfl) (by decide) fun a hF => ?_
    refine s_end (hK6 _ _ ?_)
    refine wp_ret (res_slot hF rfl rfl ⟨_, rfl, hkid, hB⟩)
  · skip
    refine wp_rs fun K7 hK7 => ?_
    refine s_box ([.int .i64 xk, .int .i64 xn, .string xs, .int .i64 xl.1, .int .i64 xl.2.1, xl.2.2, xls, .slice av nv cv]) hF (by decide) rfl rfl fun w4 b1 a eb1 m1 B5 zb1 hF => ?_
    have sB5 := B5.size
    have hB := hB.trans (B5.mono hB.size)
    refine s_val hF (x_assign rfl) (by decide) fun a hF => ?_
    refine s_end (hK7 _ _ ?_)
    refine wp_rs fun K8 hK8 => ?_
    refine s_val hF (x_fa0 fa27_0 rfl) (by decide) fun a hF => ?_
    refine s_val hF (x_load rfl (m_load flat3 (m1.cell (j := 0) rfl))) (by decide) fun a hF => ?_
    refine s_callS [_] hF (enters_of Try.func97 (by kernel_rfl) rfl) rfl (by decide) (arity109 xk w4) fun a hF => ?_
    refine s_val hF (x_move rfl) (by decide) fun a hF => ?_
    refine s_val hF (x_ext rfl rfl) (by decide) fun a hF => ?_
    refine s_val hF (x_ext rfl rfl) (by decide) fun a hF => ?_
    refine s_val hF (x_assign rfl) (by decide) fun a hF => ?_
    refine s_val hF (x_assign rfl) (by decide) fun a hF => ?_
    refine s_end (hK8 _ _ ?_)
    refine wp_seq_k fun K9 hK9 => ?_
    refine wp_rs fun K10 hK10 => ?_
    refine s_val hF (x_fa0 fa27_5 rfl) (by decide) fun a hF => ?_
    refine s_val hF (x_load rfl (m_load flat25 (m1.cell (j := 7) rfl))) (by decide) fun a hF => ?_
    refine s_val hF (x_len Try.underlying25 rfl) (by decide) fun a hF => ?_
    refine s_val hF (x_move rfl) (by decide) fun a hF => ?_
    refine s_val hF (x_lss (b := true) (decide_eq_true (by omega)) rfl rfl) (by decide) fun a hF => ?_
    refine s_end (hK10 _ _ ?_)
    refine wp_if hF rfl ?_
    refine wp_rs fun K11 hK11 => ?_
    refine s_val hF (x_assign rfl) (by decide) fun a hF => ?_
    refine s_end (hK11 _ _ ?_)
    refine wp_ret (then_ret (res_slot hF rfl rfl ⟨_, rfl, (by rw [List.eq_nil_of_length_eq_zero hk.2]; exact RK.nil _ _), hB⟩))

set_option maxRecDepth 100000 in
set_option maxHeartbeats 1600000 in
theorem binds112 (c : CT) (x : C8) (A : Nat → Prop) (i : Nat) (wa w0 : World) (hx : RC wa A c x) (hi : i < c.kids.length) : Calls Try.prog 107 #[tv x, .int .i64 (i : Int)] w0 fun e w' => e = .returned (.int .i64 (c.bnd i)) ∧ Below w0.heap.size w0 w' := by
  have hx0 := hx
  have hbd := CT.bnd_eq hx hi
  have h3 := c.kids_le
  obtain ⟨av, nv, cv, hts, hle, hlen, hcap, hkid⟩ := hx.kids
  obtain ⟨xk, xn, xs, xl, xls, xts⟩ := x
  simp only at hts
  subst hts
  have hkd : xk = c.kd := hx.kd
  have hone := hx.one
  have hB := Below.refl w0.heap.size w0
  have sB := hB.size
  refine calls_fs 17 [(0, tv ⟨xk, xn, xs, xl, xls, .slice av nv cv⟩), (1, .int .i64 (i : Int))] Try.func107 rfl rfl rfl rfl rfl fun a hF => ?_
  rcases (show xk = 3 ∧ i + 1 = c.kids.length ∨ xk = 3 ∧ i + 1 ≠ c.kids.length ∨ xk = 4 ∧ i + 1 = c.kids.length ∨ xk = 4 ∧ i + 1 ≠ c.kids.length ∨ xk = 5 ∧ i + 1 = c.kids.length ∨ xk = 5 ∧ i + 1 ≠ c.kids.length ∨ xk ≠ 3 ∧ xk ≠ 4 ∧ xk ≠ 5 by omega) with hk | hk | hk | hk | hk | hk | hk
  · have hb9 : c.bnd i = 1 := by omega
    refine wp_rs fun K2 hK2 => ?_
    refine s_box ([.int .i64 xk, .int .i64 xn, .string xs, .int .i64 xl.1, .int .i64 xl.2.1, xl.2.2, xls, .slice av nv cv]) hF (by decide) rfl rfl fun w2 b2 a eb2 m2 B3 zb2 hF => ?_
    have sB3 := B3.size
    have hB := hB.trans (B3.mono hB.size)
    refine s_val hF (x_assign rfl) (by decide) fun a hF => ?_
    refine s_end (hK2 _ _ ?_)
    refine wp_seq_k fun K3 hK3 => ?_
    refine wp_rs fun K4 hK4 => ?_
    refine s_val hF (x_fa0 fa27_0 rfl) (by decide) fun a hF => ?_
    refine s_val hF (x_load rfl (m_load flat3 (m2.cell (j := 0) rfl))) (by decide) fun a hF => ?_
    refine s_end (hK4 _ _ ?_)
    refine wp_block ?_
    refine wp_seq_k fun K5 hK5 => ?_
    refine wp_rs fun K6 hK6 => ?_
    refine s_val hF (x_eql (b := true) (decide_eq_true (by omega)) rfl rfl) (by decide) fun a hF => ?_
    refine s_val hF (x_assign rfl) (by decide) fun a hF => ?_
    refine s_end (hK6 _ _ ?_)
    refine wp_if hF rfl ?_
    refine wp_skip (hK5 _ _ ?_)
    refine wp_if hF rfl ?_
    refine wp_rs fun K7 hK7 => ?_
    refine s_val hF (x_move rfl) (by decide) fun a hF => ?_
    refine s_val hF (x_ldW wide27 m2 rfl rfl) (by decide) fun a hF => ?_
    refine s_callR (R := fun v w' => RK wa A v c.kids) [_] hF (enters_of Try.func89 (by kernel_rfl) rfl) rfl (by decide) (kidsOf101 c ⟨xk, xn, xs, xl, xls, .slice av nv cv⟩ A wa w2 hx) ?_
    rintro v13 w4 a hv13 B5 hF
    have sB5 := B5.size
    have hB := hB.trans (B5.mono hB.size)
    have m2 := m2.old B5
    obtain ⟨a13, c13, hve, _⟩ := hv13.form
    subst hve
    refine s_val hF (x_len Try.underlying25 rfl) (by decide) fun a hF => ?_
    refine s_val hF (x_sub (by omega) (by omega) rfl rfl) (by decide) fun a hF => ?_
    refine s_val hF (x_eql (b := true) (decide_eq_true (by omega)) rfl rfl) (by decide) fun a hF => ?_
    refine s_end (hK7 _ _ ?_)
    refine wp_if hF rfl ?_
    refine wp_rs fun K8 hK8 => ?_
    refine s_val hF (x_assign rfl) (by decide) fun a hF => ?_
    refine s_end (hK8 _ _ ?_)
    refine wp_ret (inb_ret (then_ret (res_slot hF rfl rfl ⟨by rw [hb9], hB⟩)))
  · have hb9 : c.bnd i = 0 := by omega
    refine wp_rs fun K9 hK9 => ?_
    refine s_box ([.int .i64 xk, .int .i64 xn, .string xs, .int .i64 xl.1, .int .i64 xl.2.1, xl.2.2, xls, .slice av nv cv]) hF (by decide) rfl rfl fun w6 b2 a eb2 m2 B7 zb2 hF => ?_
    have sB7 := B7.size
    have hB := hB.trans (B7.mono hB.size)
    refine s_val hF (x_assign rfl) (by decide) fun a hF => ?_
    refine s_end (hK9 _ _ ?_)
    refine wp_seq_k fun K10 hK10 => ?_
    refine wp_rs fun K11 hK11 => ?_
    refine s_val hF (x_fa0 fa27_0 rfl) (by decide) fun a hF => ?_
    refine s_val hF (x_load rfl (m_load flat3 (m2.cell (j := 0) rfl))) (by decide) fun a hF => ?_
    refine s_end (hK11 _ _ ?_)
    refine wp_block ?_
    refine wp_seq_k fun K12 hK12 => ?_
    refine wp_rs fun K13 hK13 => ?_
    refine s_val hF (x_eql (b := true) (decide_eq_true (by omega)) rfl rfl) (by decide) fun a hF => ?_
    refine s_val hF (x_assign rfl) (by decide) fun a hF => ?_
    refine s_end (hK13 _ _ ?_)
    refine wp_if hF rfl ?_
    refine wp_skip (hK12 _ _ ?_)
    refine wp_if hF rfl ?_
    refine wp_rs fun K14 hK14 => ?_
    refine s_val hF (x_move rfl) (by decide) fun a hF => ?_
    refine s_val hF (x_ldW wide27 m2 rfl rfl) (by decide) fun a hF => ?_
    refine s_callR (R := fun v w' => RK wa A v c.kids) [_] hF (enters_of Try.func89 (by kernel_rfl) rfl) rfl (by decide) (kidsOf101 c ⟨xk, xn, xs, xl, xls, .slice av nv cv⟩ A wa w6 hx) ?_
    rintro v13 w8 a hv13 B9 hF
    have sB9 := B9.size
    have hB := hB.trans (B9.mono hB.size)
    have m2 := m2.old B9
    obtain ⟨a13, c13, hve, _⟩ := hv13.form
    subst hve
    refine s_val hF (x_len Try.underlying25 rfl) (by decide) fun a hF => ?_
    refine s_val hF (x_sub (by omega) (by omega) rfl rfl) (by decide) fun a hF => ?_
    refine s_val hF (x_eql (b := false) (decide_eq_false (by omega)) rfl rfl) (by decide) fun a hF => ?_
    refine s_end (hK14 _ _ ?_)
    refine wp_if hF rfl ?_
    refine wp_skip (hK10 _ _ ?_)
    refine wp_rs fun K15 hK15 => ?_
    refine s_val hF (x_assign rfl) (by decide) fun a hF => ?_
    refine s_end (hK15 _ _ ?_)
    refine wp_ret (res_slot hF rfl rfl ⟨by rw [hb9], hB⟩)
  · have hb9 : c.bnd i = 1 := by omega
    refine wp_rs fun K16 hK16 => ?_
    refine s_box ([.int .i64 xk, .int .i64 xn, .string xs, .int .i64 xl.1, .int .i64 xl.2.1, xl.2.2, xls, .slice av nv cv]) hF (by decide) rfl rfl fun w10 b2 a eb2 m2 B11 zb2 hF => ?_
    have sB11 := B11.size
    have hB := hB.trans (B11.mono hB.size)
    refine s_val hF (x_assign rfl) (by decide) fun a hF => ?_
    refine s_end (hK16 _ _ ?_)
    refine wp_seq_k fun K17 hK17 => ?_
    refine wp_rs fun K18 hK18 => ?_
    refine s_val hF (x_fa0 fa27_0 rfl) (by decide) fun a hF => ?_
    refine s_val hF (x_load rfl (m_load flat3 (m2.cell (j := 0) rfl))) (by decide) fun a hF => ?_
    refine s_end (hK18 _ _ ?_)
    refine wp_block ?_
    refine wp_seq_k fun K19 hK19 => ?_
    refine wp_rs fun K20 hK20 => ?_
    refine s_val hF (x_eql (b := false) (decide_eq_false (by omega)) rfl rfl) (by decide) fun a hF => ?_
    refine s_val hF (x_assign rfl) (by decide) fun a hF => ?_
    refine s_end (hK20 _ _ ?_)
    refine wp_if hF rfl ?_
    refine wp_rs fun K21 hK21 => ?_
    refine s_val hF (x_eql (b := true) (decide_eq_true (by omega)) rfl rfl) (by decide) fun a hF => ?_
    refine s_val hF (x_assign rfl) (by decide) fun a hF => ?_
    refine s_end (hK21 _ _ ?_)
    refine wp_if hF rfl ?_
    refine wp_skip (hK19 _ _ ?_)
    refine wp_if hF rfl ?_
    refine wp_rs fun K22 hK22 => ?_
    refine s_val hF (x_move rfl) (by decide) fun a hF => ?_
    refine s_val hF (x_ldW wide27 m2 rfl rfl) (by decide) fun a hF => ?_
    refine s_callR (R := fun v w' => RK wa A v c.kids) [_] hF (enters_of Try.func89 (by kernel_rfl) rfl) rfl (by decide) (kidsOf101 c ⟨xk, xn, xs, xl, xls, .slice av nv cv⟩ A wa w10 hx) ?_
    rintro v13 w12 a hv13 B13 hF
    have sB13 := B13.size
    have hB := hB.trans (B13.mono hB.size)
    have m2 := m2.old B13
    obtain ⟨a13, c13, hve, _⟩ := hv13.form
    subst hve
    refine s_val hF (x_len Try.underlying25 rfl) (by decide) fun a hF => ?_
    refine s_val hF (x_sub (by omega) (by omega) rfl rfl) (by decide) fun a hF => ?_
    refine s_val hF (x_eql (b := true) (decide_eq_true (by omega)) rfl rfl) (by decide) fun a hF => ?_
    refine s_end (hK22 _ _ ?_)
    refine wp_if hF rfl ?_
    refine wp_rs fun K23 hK23 => ?_
    refine s_val hF (x_assign rfl) (by decide) fun a hF => ?_
    refine s_end (hK23 _ _ ?_)
    refine wp_ret (inb_ret (then_ret (res_slot hF rfl rfl ⟨by rw [hb9], hB⟩)))
  · have hb9 : c.bnd i = 0 := by omega
    refine wp_rs fun K24 hK24 => ?_
    refine s_box ([.int .i64 xk, .int .i64 xn, .string xs, .int .i64 xl.1, .int .i64 xl.2.1, xl.2.2, xls, .slice av nv cv]) hF (by decide) rfl rfl fun w14 b2 a eb2 m2 B15 zb2 hF => ?_
    have sB15 := B15.size
    have hB := hB.trans (B15.mono hB.size)
    refine s_val hF (x_assign rfl) (by decide) fun a hF => ?_
    refine s_end (hK24 _ _ ?_)
    refine wp_seq_k fun K25 hK25 => ?_
    refine wp_rs fun K26 hK26 => ?_
    refine s_val hF (x_fa0 fa27_0 rfl) (by decide) fun a hF => ?_
    refine s_val hF (x_load rfl (m_load flat3 (m2.cell (j := 0) rfl))) (by decide) fun a hF => ?_
    refine s_end (hK26 _ _ ?_)
    refine wp_block ?_
    refine wp_seq_k fun K27 hK27 => ?_
    refine wp_rs fun K28 hK28 => ?_
    refine s_val hF (x_eql (b := false) (decide_eq_false (by omega)) rfl rfl) (by decide) fun a hF => ?_
    refine s_val hF (x_assign rfl) (by decide) fun a hF => ?_
    refine s_end (hK28 _ _ ?_)
    refine wp_if hF rfl ?_
    refine wp_rs fun K29 hK29 => ?_
    refine s_val hF (x_eql (b := true) (decide_eq_true (by omega)) rfl rfl) (by decide) fun a hF => ?_
    refine s_val hF (x_assign rfl) (by decide) fun a hF => ?_
    refine s_end (hK29 _ _ ?_)
    refine wp_if hF rfl ?_
    refine wp_skip (hK27 _ _ ?_)
    refine wp_if hF rfl ?_
    refine wp_rs fun K30 hK30 => ?_
    refine s_val hF (x_move rfl) (by decide) fun a hF => ?_
    refine s_val hF (x_ldW wide27 m2 rfl rfl) (by decide) fun a hF => ?_
    refine s_callR (R := fun v w' => RK wa A v c.kids) [_] hF (enters_of Try.func89 (by kernel_rfl) rfl) rfl (by decide) (kidsOf101 c ⟨xk, xn, xs, xl, xls, .slice av nv cv⟩ A wa w14 hx) ?_
    rintro v13 w16 a hv13 B17 hF
    have sB17 := B17.size
    have hB := hB.trans (B17.mono hB.size)
    have m2 := m2.old B17
    obtain ⟨a13, c13, hve, _⟩ := hv13.form
    subst hve
    refine s_val hF (x_len Try.underlying25 rfl) (by decide) fun a hF => ?_
    refine s_val hF (x_sub (by omega) (by omega) rfl rfl) (by decide) fun a hF => ?_
    refine s_val hF (x_eql (b := false) (decide_eq_false (by omega)) rfl rfl) (by decide) fun a hF => ?_
    refine s_end (hK30 _ _ ?_)
    refine wp_if hF rfl ?_
    refine wp_skip (hK25 _ _ ?_)
    refine wp_rs fun K31 hK31 => ?_
    refine s_val hF (x_assign rfl) (by decide) fun a hF => ?_
    refine s_end (hK31 _ _ ?_)
    refine wp_ret (res_slot hF rfl rfl ⟨by rw [hb9], hB⟩)
  · have hb9 : c.bnd i = 1 := by omega
    refine wp_rs fun K32 hK32 => ?_
    refine s_box ([.int .i64 xk, .int .i64 xn, .string xs, .int .i64 xl.1, .int .i64 xl.2.1, xl.2.2, xls, .slice av nv cv]) hF (by decide) rfl rfl fun w18 b2 a eb2 m2 B19 zb2 hF => ?_
    have sB19 := B19.size
    have hB := hB.trans (B19.mono hB.size)
    refine s_val hF (x_assign rfl) (by decide) fun a hF => ?_
    refine s_end (hK32 _ _ ?_)
    refine wp_seq_k fun K33 hK33 => ?_
    refine wp_rs fun K34 hK34 => ?_
    refine s_val hF (x_fa0 fa27_0 rfl) (by decide) fun a hF => ?_
    refine s_val hF (x_load rfl (m_load flat3 (m2.cell (j := 0) rfl))) (by decide) fun a hF => ?_
    refine s_end (hK34 _ _ ?_)
    refine wp_block ?_
    refine wp_seq_k fun K35 hK35 => ?_
    refine wp_rs fun K36 hK36 => ?_
    refine s_val hF (x_eql (b := false) (decide_eq_false (by omega)) rfl rfl) (by decide) fun a hF => ?_
    refine s_val hF (x_assign rfl) (by decide) fun a hF => ?_
    refine s_end (hK36 _ _ ?_)
    refine wp_if hF rfl ?_
    refine wp_rs fun K37 hK37 => ?_
    refine s_val hF (x_eql (b := false) (decide_eq_false (by omega)) rfl rfl) (by decide) fun a hF => ?_
    refine s_val hF (x_assign rfl) (by decide) fun a hF => ?_
    refine s_end (hK37 _ _ ?_)
    refine wp_if hF rfl ?_
    refine wp_region_lit ?_
    refine s_val hF (x_eql (b := true) (decide_eq_true (by omega)) rfl rfl) (by decide) fun a hF => ?_
    refine s_val hF (x_assign rfl) (by decide) fun a hF => ?_
    refine s_end (hK35 _ _ ?_)
    refine wp_if hF rfl ?_
    refine wp_rs fun K38 hK38 => ?_
    refine s_val hF (x_move rfl) (by decide) fun a hF => ?_
    refine s_val hF (x_ldW wide27 m2 rfl rfl) (by decide) fun a hF => ?_
    refine s_callR (R := fun v w' => RK wa A v c.kids) [_] hF (enters_of Try.func89 (by kernel_rfl) rfl) rfl (by decide) (kidsOf101 c ⟨xk, xn, xs, xl, xls, .slice av nv cv⟩ A wa w18 hx) ?_
    rintro v13 w20 a hv13 B21 hF
    have sB21 := B21.size
    have hB := hB.trans (B21.mono hB.size)
    have m2 := m2.old B21
    obtain ⟨a13, c13, hve, _⟩ := hv13.form
    subst hve
    refine s_val hF (x_len Try.underlying25 rfl) (by decide) fun a hF => ?_
    refine s_val hF (x_sub (by omega) (by omega) rfl rfl) (by decide) fun a hF => ?_
    refine s_val hF (x_eql (b := true) (decide_eq_true (by omega)) rfl rfl) (by decide) fun a hF => ?_
    refine s_end (hK38 _ _ ?_)
    refine wp_if hF rfl ?_
    refine wp_rs fun K39 hK39 => ?_
    refine s_val hF (x_assign rfl) (by decide) fun a hF => ?_
    refine s_end (hK39 _ _ ?_)
    refine wp_ret (inb_ret (then_ret (res_slot hF rfl rfl ⟨by rw [hb9], hB⟩)))
  · have hb9 : c.bnd i = 0 := by omega
    refine wp_rs fun K40 hK40 => ?_
    refine s_box ([.int .i64 xk, .int .i64 xn, .string xs, .int .i64 xl.1, .int .i64 xl.2.1, xl.2.2, xls, .slice av nv cv]) hF (by decide) rfl rfl fun w22 b2 a eb2 m2 B23 zb2 hF => ?_
    have sB23 := B23.size
    have hB := hB.trans (B23.mono hB.size)
    refine s_val hF (x_assign rfl) (by decide) fun a hF => ?_
    refine s_end (hK40 _ _ ?_)
    refine wp_seq_k fun K41 hK41 => ?_
    refine wp_rs fun K42 hK42 => ?_
    refine s_val hF (x_fa0 fa27_0 rfl) (by decide) fun a hF => ?_
    refine s_val hF (x_load rfl (m_load flat3 (m2.cell (j := 0) rfl))) (by decide) fun a hF => ?_
    refine s_end (hK42 _ _ ?_)
    refine wp_block ?_
    refine wp_seq_k fun K43 hK43 => ?_
    refine wp_rs fun K44 hK44 => ?_
    refine s_val hF (x_eql (b := false) (decide_eq_false (by omega)) rfl rfl) (by decide) fun a hF => ?_
    refine s_val hF (x_assign rfl) (by decide) fun a hF => ?_
    refine s_end (hK44 _ _ ?_)
    refine wp_if hF rfl ?_
    refine wp_rs fun K45 hK45 => ?_
    refine s_val hF (x_eql (b := false) (decide_eq_false (by omega)) rfl rfl) (by decide) fun a hF => ?_
    refine s_val hF (x_assign rfl) (by decide) fun a hF => ?_
    refine s_end (hK45 _ _ ?_)
    refine wp_if hF rfl ?_
    refine wp_region_lit ?_
    refine s_val hF (x_eql (b := true) (decide_eq_true (by omega)) rfl rfl) (by decide) fun a hF => ?_
    refine s_val hF (x_assign rfl) (by decide) fun a hF => ?_
    refine s_end (hK43 _ _ ?_)
    refine wp_if hF rfl ?_
    refine wp_rs fun K46 hK46 => ?_
    refine s_val hF (x_move rfl) (by decide) fun a hF => ?_
    refine s_val hF (x_ldW wide27 m2 rfl rfl) (by decide) fun a hF => ?_
    refine s_callR (R := fun v w' => RK wa A v c.kids) [_] hF (enters_of Try.func89 (by kernel_rfl) rfl) rfl (by decide) (kidsOf101 c ⟨xk, xn, xs, xl, xls, .slice av nv cv⟩ A wa w22 hx) ?_
    rintro v13 w24 a hv13 B25 hF
    have sB25 := B25.size
    have hB := hB.trans (B25.mono hB.size)
    have m2 := m2.old B25
    obtain ⟨a13, c13, hve, _⟩ := hv13.form
    subst hve
    refine s_val hF (x_len Try.underlying25 rfl) (by decide) fun a hF => ?_
    refine s_val hF (x_sub (by omega) (by omega) rfl rfl) (by decide) fun a hF => ?_
    refine s_val hF (x_eql (b := false) (decide_eq_false (by omega)) rfl rfl) (by decide) fun a hF => ?_
    refine s_end (hK46 _ _ ?_)
    refine wp_if hF rfl ?_
    refine wp_skip (hK41 _ _ ?_)
    refine wp_rs fun K47 hK47 => ?_
    refine s_val hF (x_assign rfl) (by decide) fun a hF => ?_
    refine s_end (hK47 _ _ ?_)
    refine wp_ret (res_slot hF rfl rfl ⟨by rw [hb9], hB⟩)
  · have hb9 : c.bnd i = 0 := by omega
    refine wp_rs fun K48 hK48 => ?_
    refine s_box ([.int .i64 xk, .int .i64 xn, .string xs, .int .i64 xl.1, .int .i64 xl.2.1, xl.2.2, xls, .slice av nv cv]) hF (by decide) rfl rfl fun w26 b2 a eb2 m2 B27 zb2 hF => ?_
    have sB27 := B27.size
    have hB := hB.trans (B27.mono hB.size)
    refine s_val hF (x_assign rfl) (by decide) fun a hF => ?_
    refine s_end (hK48 _ _ ?_)
    refine wp_seq_k fun K49 hK49 => ?_
    refine wp_rs fun K50 hK50 => ?_
    refine s_val hF (x_fa0 fa27_0 rfl) (by decide) fun a hF => ?_
    refine s_val hF (x_load rfl (m_load flat3 (m2.cell (j := 0) rfl))) (by decide) fun a hF => ?_
    refine s_end (hK50 _ _ ?_)
    refine wp_block ?_
    refine wp_seq_k fun K51 hK51 => ?_
    refine wp_rs fun K52 hK52 => ?_
    refine s_val hF (x_eql (b := false) (decide_eq_false (by omega)) rfl rfl) (by decide) fun a hF => ?_
    refine s_val hF (x_assign rfl) (by decide) fun a hF => ?_
    refine s_end (hK52 _ _ ?_)
    refine wp_if hF rfl ?_
    refine wp_rs fun K53 hK53 => ?_
    refine s_val hF (x_eql (b := false) (decide_eq_false (by omega)) rfl rfl) (by decide) fun a hF => ?_
    refine s_val hF (x_assign rfl) (by decide) fun a hF => ?_
    refine s_end (hK53 _ _ ?_)
    refine wp_if hF rfl ?_
    refine wp_region_lit ?_
    refine s_val hF (x_eql (b := false) (decide_eq_false (by omega)) rfl rfl) (by decide) fun a hF => ?_
    refine s_val hF (x_assign rfl) (by decide) fun a hF => ?_
    refine s_end (hK51 _ _ ?_)
    refine wp_if hF rfl ?_
    refine wp_skip (hK49 _ _ ?_)
    refine wp_rs fun K54 hK54 => ?_
    refine s_val hF (x_assign rfl) (by decide) fun a hF => ?_
    refine s_end (hK54 _ _ ?_)
    refine wp_ret (res_slot hF rfl rfl ⟨by rw [hb9], hB⟩)

set_option maxRecDepth 100000 in
set_option maxHeartbeats 1600000 in
theorem isIn105 (n d : Int) (w0 : World) : Calls Try.prog 93 #[.agg [.int .i64 n, .int .i64 d].toArray] w0 fun e w' => e = .returned (.bool (decide (n ≤ 20000 ∧ d ≤ 2000))) ∧ Below w0.heap.size w0 w' := by
  have hB := Below.refl w0.heap.size w0
  have sB := hB.size
  refine calls_fs 11 [(0, .agg [.int .i64 n, .int .i64 d].toArray)] Try.func93 rfl rfl rfl rfl rfl fun a hF => ?_
  rcases (show (n ≤ 20000 ∧ d ≤ 2000) ∨ (n ≤ 20000 ∧ ¬ d ≤ 2000) ∨ ¬ n ≤ 20000 by omega) with hk | hk | hk
  · skip
    refine wp_rs fun K2 hK2 => ?_
    refine s_box ([.int .i64 n, .int .i64 d]) hF (by decide) rfl rfl fun w2 b1 a eb1 m1 B3 zb1 hF => ?_
    have sB3 := B3.size
    have hB := hB.trans (B3.mono hB.size)
    refine s_val hF (x_assign rfl) (by decide) fun a hF => ?_
    refine s_end (hK2 _ _ ?_)
    refine wp_rs fun K3 hK3 => ?_
    refine s_val hF (x_fa0 fa70_0 rfl) (by decide) fun a hF => ?_
    refine s_val hF (x_load rfl (m_load flat3 (m1.cell (j := 0) rfl))) (by decide) fun a hF => ?_
    refine s_val hF (x_leq (b := true) (decide_eq_true (by omega)) rfl rfl) (by decide) fun a hF => ?_
    refine s_val hF (x_move rfl) (by decide) fun a hF => ?_
    refine s_grd 6 hF rfl rfl rfl ?_
    refine s_val hF (x_fa0 fa70_1 rfl) (by decide) fun a hF => ?_
    refine s_grd 6 hF rfl rfl rfl ?_
    refine s_val hF (x_load rfl (m_load flat3 (m1.cell (j := 1) rfl))) (by decide) fun a hF => ?_
    refine s_grd 6 hF rfl rfl rfl ?_
    refine s_val hF (x_leq (b := true) (decide_eq_true (by omega)) rfl rfl) (by decide) fun a hF => ?_
    refine s_val hF (x_pick (b := true) rfl rfl) (by decide) fun a hF => ?_
    refine s_val hF (x_assign rfl) (by decide) fun a hF => ?_
    refine s_end (hK3 _ _ ?_)
    refine wp_ret (res_slot hF rfl rfl ⟨by rw [decide_eq_true (by omega)], hB⟩)
  · skip
    refine wp_rs fun K4 hK4 => ?_
    refine s_box ([.int .i64 n, .int .i64 d]) hF (by decide) rfl rfl fun w4 b1 a eb1 m1 B5 zb1 hF => ?_
    have sB5 := B5.size
    have hB := hB.trans (B5.mono hB.size)
    refine s_val hF (x_assign rfl) (by decide) fun a hF => ?_
    refine s_end (hK4 _ _ ?_)
    refine wp_rs fun K5 hK5 => ?_
    refine s_val hF (x_fa0 fa70_0 rfl) (by decide) fun a hF => ?_
    refine s_val hF (x_load rfl (m_load flat3 (m1.cell (j := 0) rfl))) (by decide) fun a hF => ?_
    refine s_val hF (x_leq (b := true) (decide_eq_true (by omega)) rfl rfl) (by decide) fun a hF => ?_
    refine s_val hF (x_move rfl) (by decide) fun a hF => ?_
    refine s_grd 6 hF rfl rfl rfl ?_
    refine s_val hF (x_fa0 fa70_1 rfl) (by decide) fun a hF => ?_
    refine s_grd 6 hF rfl rfl rfl ?_
    refine s_val hF (x_load rfl (m_load flat3 (m1.cell (j := 1) rfl))) (by decide) fun a hF => ?_
    refine s_grd 6 hF rfl rfl rfl ?_
    refine s_val hF (x_leq (b := false) (decide_eq_false (by omega)) rfl rfl) (by decide) fun a hF => ?_
    refine s_val hF (x_pick (b := true) rfl rfl) (by decide) fun a hF => ?_
    refine s_val hF (x_assign rfl) (by decide) fun a hF => ?_
    refine s_end (hK5 _ _ ?_)
    refine wp_ret (res_slot hF rfl rfl ⟨by rw [decide_eq_false (by omega)], hB⟩)
  · skip
    refine wp_rs fun K6 hK6 => ?_
    refine s_box ([.int .i64 n, .int .i64 d]) hF (by decide) rfl rfl fun w6 b1 a eb1 m1 B7 zb1 hF => ?_
    have sB7 := B7.size
    have hB := hB.trans (B7.mono hB.size)
    refine s_val hF (x_assign rfl) (by decide) fun a hF => ?_
    refine s_end (hK6 _ _ ?_)
    refine wp_rs fun K7 hK7 => ?_
    refine s_val hF (x_fa0 fa70_0 rfl) (by decide) fun a hF => ?_
    refine s_val hF (x_load rfl (m_load flat3 (m1.cell (j := 0) rfl))) (by decide) fun a hF => ?_
    refine s_val hF (x_leq (b := false) (decide_eq_false (by omega)) rfl rfl) (by decide) fun a hF => ?_
    refine s_val hF (x_move rfl) (by decide) fun a hF => ?_
    refine s_grdn 6 hF rfl rfl (by decide) fun a hF => ?_
    refine s_grdn 6 hF rfl rfl (by decide) fun a hF => ?_
    refine s_grdn 6 hF rfl rfl (by decide) fun a hF => ?_
    refine s_val hF (x_pick (b := false) rfl rfl) (by decide) fun a hF => ?_
    refine s_val hF (x_assign rfl) (by decide) fun a hF => ?_
    refine s_end (hK7 _ _ ?_)
    refine wp_ret (res_slot hF rfl rfl ⟨by rw [decide_eq_false (by omega)], hB⟩)

set_option maxRecDepth 100000 in
set_option maxHeartbeats 1600000 in
theorem isPlace121 (c : CT) (x : C8) (A : Nat → Prop) (d : Int) (wa w0 : World) (hx : RC wa A c x) : Calls Try.prog 102 #[tv x, .int .i64 d] w0 fun e w' => e = .returned (.bool (c.isV d)) ∧ Below w0.heap.size w0 w' := by
  have hV := CT.isV_eq hx d
  have hB := Below.refl w0.heap.size w0
  have sB := hB.size
  refine calls_fs 14 [(0, tv x), (1, .int .i64 d)] Try.func102 rfl rfl rfl rfl rfl fun a hF => ?_
  rcases (show (x.k = 1 ∧ x.n = d) ∨ (x.k = 1 ∧ x.n ≠ d) ∨ x.k ≠ 1 by omega) with hk | hk | hk
  · skip
    refine wp_rs fun K2 hK2 => ?_
    refine s_box ([.int .i64 x.k, .int .i64 x.n, .string x.s, .int .i64 x.l.1, .int .i64 x.l.2.1, x.l.2.2, x.ls, x.ts]) hF (by decide) rfl rfl fun w2 b2 a eb2 m2 B3 zb2 hF => ?_
    have sB3 := B3.size
    have hB := hB.trans (B3.mono hB.size)
    refine s_val hF (x_assign rfl) (by decide) fun a hF => ?_
    refine s_end (hK2 _ _ ?_)
    refine wp_rs fun K3 hK3 => ?_
    refine s_val hF (x_fa0 fa27_0 rfl) (by decide) fun a hF => ?_
    refine s_val hF (x_load rfl (m_load flat3 (m2.cell (j := 0) rfl))) (by decide) fun a hF => ?_
    refine s_val hF (x_eql (b := true) (decide_eq_true (by omega)) rfl rfl) (by decide) fun a hF => ?_
    refine s_val hF (x_move rfl) (by decide) fun a hF => ?_
    refine s_grd 8 hF rfl rfl rfl ?_
    refine s_val hF (x_fa0 fa27_1 rfl) (by decide) fun a hF => ?_
    refine s_grd 8 hF rfl rfl rfl ?_
    refine s_val hF (x_load rfl (m_load flat3 (m2.cell (j := 1) rfl))) (by decide) fun a hF => ?_
    refine s_grd 8 hF rfl rfl rfl ?_
    refine s_val hF (x_move rfl) (by decide) fun a hF => ?_
    refine s_grd 8 hF rfl rfl rfl ?_
    refine s_val hF (x_eql (b := true) (decide_eq_true (by omega)) rfl rfl) (by decide) fun a hF => ?_
    refine s_val hF (x_pick (b := true) rfl rfl) (by decide) fun a hF => ?_
    refine s_val hF (x_assign rfl) (by decide) fun a hF => ?_
    refine s_end (hK3 _ _ ?_)
    refine wp_ret (res_slot hF rfl rfl ⟨by rw [hV]; simp [hk], hB⟩)
  · skip
    refine wp_rs fun K4 hK4 => ?_
    refine s_box ([.int .i64 x.k, .int .i64 x.n, .string x.s, .int .i64 x.l.1, .int .i64 x.l.2.1, x.l.2.2, x.ls, x.ts]) hF (by decide) rfl rfl fun w4 b2 a eb2 m2 B5 zb2 hF => ?_
    have sB5 := B5.size
    have hB := hB.trans (B5.mono hB.size)
    refine s_val hF (x_assign rfl) (by decide) fun a hF => ?_
    refine s_end (hK4 _ _ ?_)
    refine wp_rs fun K5 hK5 => ?_
    refine s_val hF (x_fa0 fa27_0 rfl) (by decide) fun a hF => ?_
    refine s_val hF (x_load rfl (m_load flat3 (m2.cell (j := 0) rfl))) (by decide) fun a hF => ?_
    refine s_val hF (x_eql (b := true) (decide_eq_true (by omega)) rfl rfl) (by decide) fun a hF => ?_
    refine s_val hF (x_move rfl) (by decide) fun a hF => ?_
    refine s_grd 8 hF rfl rfl rfl ?_
    refine s_val hF (x_fa0 fa27_1 rfl) (by decide) fun a hF => ?_
    refine s_grd 8 hF rfl rfl rfl ?_
    refine s_val hF (x_load rfl (m_load flat3 (m2.cell (j := 1) rfl))) (by decide) fun a hF => ?_
    refine s_grd 8 hF rfl rfl rfl ?_
    refine s_val hF (x_move rfl) (by decide) fun a hF => ?_
    refine s_grd 8 hF rfl rfl rfl ?_
    refine s_val hF (x_eql (b := false) (decide_eq_false (by omega)) rfl rfl) (by decide) fun a hF => ?_
    refine s_val hF (x_pick (b := true) rfl rfl) (by decide) fun a hF => ?_
    refine s_val hF (x_assign rfl) (by decide) fun a hF => ?_
    refine s_end (hK5 _ _ ?_)
    refine wp_ret (res_slot hF rfl rfl ⟨by rw [hV]; simp [hk], hB⟩)
  · skip
    refine wp_rs fun K6 hK6 => ?_
    refine s_box ([.int .i64 x.k, .int .i64 x.n, .string x.s, .int .i64 x.l.1, .int .i64 x.l.2.1, x.l.2.2, x.ls, x.ts]) hF (by decide) rfl rfl fun w6 b2 a eb2 m2 B7 zb2 hF => ?_
    have sB7 := B7.size
    have hB := hB.trans (B7.mono hB.size)
    refine s_val hF (x_assign rfl) (by decide) fun a hF => ?_
    refine s_end (hK6 _ _ ?_)
    refine wp_rs fun K7 hK7 => ?_
    refine s_val hF (x_fa0 fa27_0 rfl) (by decide) fun a hF => ?_
    refine s_val hF (x_load rfl (m_load flat3 (m2.cell (j := 0) rfl))) (by decide) fun a hF => ?_
    refine s_val hF (x_eql (b := false) (decide_eq_false (by omega)) rfl rfl) (by decide) fun a hF => ?_
    refine s_val hF (x_move rfl) (by decide) fun a hF => ?_
    refine s_grdn 8 hF rfl rfl (by decide) fun a hF => ?_
    refine s_grdn 8 hF rfl rfl (by decide) fun a hF => ?_
    refine s_grdn 8 hF rfl rfl (by decide) fun a hF => ?_
    refine s_grdn 8 hF rfl rfl (by decide) fun a hF => ?_
    refine s_val hF (x_pick (b := false) rfl rfl) (by decide) fun a hF => ?_
    refine s_val hF (x_assign rfl) (by decide) fun a hF => ?_
    refine s_end (hK7 _ _ ?_)
    refine wp_ret (res_slot hF rfl rfl ⟨by rw [hV]; simp [hk], hB⟩)

set_option maxRecDepth 100000 in
set_option maxHeartbeats 1600000 in
theorem plus78 (n b : Int) (w0 : World) (hn : 0 ≤ n) (hn2 : n < 9223372036854775808) (hb : -9223372036854775808 ≤ b) : Calls Try.prog 80 #[.int .i64 n, .int .i64 b] w0 fun e w' => e = .returned (.int .i64 (min (n + b) 9223372036854775807)) ∧ w' = w0 := by
  refine calls_fs 12 [(0, .int .i64 n), (1, .int .i64 b)] Try.func80 rfl rfl rfl rfl rfl fun a hF => ?_
  rcases (show 9223372036854775807 - n < b ∨ ¬ 9223372036854775807 - n < b by omega) with hk | hk
  · skip
    refine wp_rs fun K2 hK2 => ?_
    refine s_val hF (x_assign rfl) (by decide) fun a hF => ?_
    refine s_end (hK2 _ _ ?_)
    refine wp_seq_k fun K3 hK3 => ?_
    refine wp_rs fun K4 hK4 => ?_
    refine s_val hF (x_move rfl) (by decide) fun a hF => ?_
    refine s_val hF (x_move rfl) (by decide) fun a hF => ?_
    refine s_val hF (x_sub (by omega) (by omega) rfl rfl) (by decide) fun a hF => ?_
    refine s_val hF (x_gtr (b := true) (decide_eq_true (by omega)) rfl rfl) (by decide) fun a hF => ?_
    refine s_end (hK4 _ _ ?_)
    refine wp_if hF rfl ?_
    refine wp_rs fun K5 hK5 => ?_
    refine s_val hF (x_assign rfl) (by decide) fun a hF => ?_
    refine s_end (hK5 _ _ ?_)
    refine wp_ret (then_ret (res_slot hF rfl rfl ⟨by rw [show min (n + b) 9223372036854775807 = 9223372036854775807 by omega], rfl⟩))
  · skip
    refine wp_rs fun K6 hK6 => ?_
    refine s_val hF (x_assign rfl) (by decide) fun a hF => ?_
    refine s_end (hK6 _ _ ?_)
    refine wp_seq_k fun K7 hK7 => ?_
    refine wp_rs fun K8 hK8 => ?_
    refine s_val hF (x_move rfl) (by decide) fun a hF => ?_
    refine s_val hF (x_move rfl) (by decide) fun a hF => ?_
    refine s_val hF (x_sub (by omega) (by omega) rfl rfl) (by decide) fun a hF => ?_
    refine s_val hF (x_gtr (b := false) (decide_eq_false (by omega)) rfl rfl) (by decide) fun a hF => ?_
    refine s_end (hK8 _ _ ?_)
    refine wp_if hF rfl ?_
    refine wp_skip (hK7 _ _ ?_)
    refine wp_rs fun K9 hK9 => ?_
    refine s_val hF (x_move rfl) (by decide) fun a hF => ?_
    refine s_val hF (x_move rfl) (by decide) fun a hF => ?_
    refine s_val hF (x_add (by omega) (by omega) rfl rfl) (by decide) fun a hF => ?_
    refine s_val hF (x_assign rfl) (by decide) fun a hF => ?_
    refine s_end (hK9 _ _ ?_)
    refine wp_ret (res_slot hF rfl rfl ⟨by rw [show min (n + b) 9223372036854775807 = n + b by omega], rfl⟩)

set_option maxRecDepth 100000 in
set_option maxHeartbeats 1600000 in
theorem leaf70 (c : CT) (x : C8) (A : Nat → Prop) (wa w0 : World) (hx : RC wa A c x) : Calls Try.prog 59 #[tv x] w0 fun e w' => e = .returned (.bool (decide (arT c.kd < 0 ∨ (c.len : Int) < arT c.kd))) ∧ Below w0.heap.size w0 w' := by
  obtain ⟨av, nv, cv, hts, hle, hlen, hcap, hkid⟩ := hx.kids
  obtain ⟨xk, xn, xs, xl, xls, xts⟩ := x
  simp only at hts
  subst hts
  have hkd : xk = c.kd := hx.kd
  have hone := hx.one
  have hB := Below.refl w0.heap.size w0
  have sB := hB.size
  refine calls_fs 16 [(0, tv ⟨xk, xn, xs, xl, xls, .slice av nv cv⟩)] Try.func59 rfl rfl rfl rfl rfl fun a hF => ?_
  rcases (show arT xk < 0 ∨ (0 ≤ arT xk ∧ (nv : Int) < arT xk) ∨ (0 ≤ arT xk ∧ ¬ (nv : Int) < arT xk) by omega) with hk | hk | hk
  · skip
    refine wp_rs fun K2 hK2 => ?_
    refine s_box ([.int .i64 xk, .int .i64 xn, .string xs, .int .i64 xl.1, .int .i64 xl.2.1, xl.2.2, xls, .slice av nv cv]) hF (by decide) rfl rfl fun w2 b1 a eb1 m1 B3 zb1 hF => ?_
    have sB3 := B3.size
    have hB := hB.trans (B3.mono hB.size)
    refine s_val hF (x_assign rfl) (by decide) fun a hF => ?_
    refine s_end (hK2 _ _ ?_)
    refine dk2_seq (w2.heap.size) (w2.heap.size) (ops := regOps Try.f59 1) (N := 14) (by kernel_rfl) wide_orders (by kernel_rfl) fun w4 hw4 B5 hS K3 hK3 => ?_
    have zw4 : w4.heap.size = w2.heap.size := by rw [hw4]
    have sB5 := B5.size
    have hB := hB.trans (B5.mono hB.size)
    have m1 := m1.old B5
    have m1_d := m1
    have hB_d := hB
    refine d_val 0 3 (op := (Go.Op.fieldAddr 27 (Go.Operand.tmp 1) 0)) hF hS (by kernel_rfl) (fun W hW => x_fa0 fa27_0 rfl) (by kernel_rfl) (by decide) fun a hF => ?_
    refine d_val 1 4 (op := (Go.Op.load 3 (Go.Operand.tmp 3))) hF hS (by kernel_rfl) (fun W hW => x_load rfl (m_load flat3 ((m1_d.k2 hW (by omega)).cell (j := 0) rfl))) (by kernel_rfl) (by decide) fun a hF => ?_
    refine d_one 2 (some 5) (Go.Op.call (Go.Call.mk (Go.Callee.value (Go.Operand.func 87)) #[(Go.Operand.tmp 4)] #[3])) (by kernel_rfl) (by kernel_rfl) fun ty pos af => ?_
    refine s_callS [_] hF (enters_of Try.func87 (by kernel_rfl) rfl) rfl (by decide) (kids54 xk w4) fun a hF => ?_
    refine s_end ⟨hS, ?_⟩
    refine d_val 3 6 (op := (Go.Op.binOp Go.BinOp.lss 3 (Go.Operand.tmp 5) (Go.Operand.const (Go.Value.int Go.IntKind.i64 0)) 3)) hF hS (by kernel_rfl) (fun W hW => x_lss (b := true) (decide_eq_true (by omega)) rfl rfl) (by kernel_rfl) (by decide) fun a hF => ?_
    refine d_val 4 7 (op := (Go.Op.move (Go.Operand.tmp 6))) hF hS (by kernel_rfl) (fun W hW => x_move rfl) (by kernel_rfl) (by decide) fun a hF => ?_
    refine d_skip 5 8 7 (j := 4) (want := false) (op := (Go.Op.fieldAddr 27 (Go.Operand.tmp 1) 5)) hF hS (by kernel_rfl) (by kernel_rfl) rfl (by kernel_rfl) (by decide) fun a hF => ?_
    refine d_skip 6 9 7 (j := 4) (want := false) (op := (Go.Op.load 25 (Go.Operand.tmp 8))) hF hS (by kernel_rfl) (by kernel_rfl) rfl (by kernel_rfl) (by decide) fun a hF => ?_
    refine d_skip 7 10 7 (j := 4) (want := false) (op := (Go.Op.call (Go.Call.mk (Go.Callee.builtin Go.Builtin.len) #[(Go.Operand.tmp 9)] #[25]))) hF hS (by kernel_rfl) (by kernel_rfl) rfl (by kernel_rfl) (by decide) fun a hF => ?_
    refine d_skip 8 11 7 (j := 4) (want := false) (op := (Go.Op.fieldAddr 27 (Go.Operand.tmp 1) 0)) hF hS (by kernel_rfl) (by kernel_rfl) rfl (by kernel_rfl) (by decide) fun a hF => ?_
    refine d_skip 9 12 7 (j := 4) (want := false) (op := (Go.Op.load 3 (Go.Operand.tmp 11))) hF hS (by kernel_rfl) (by kernel_rfl) rfl (by kernel_rfl) (by decide) fun a hF => ?_
    refine d_skip 10 13 7 (j := 4) (want := false) (op := (Go.Op.call (Go.Call.mk (Go.Callee.value (Go.Operand.func 87)) #[(Go.Operand.tmp 12)] #[3]))) hF hS (by kernel_rfl) (by kernel_rfl) rfl (by kernel_rfl) (by decide) fun a hF => ?_
    refine d_skip 11 14 7 (j := 4) (want := false) (op := (Go.Op.binOp Go.BinOp.lss 3 (Go.Operand.tmp 10) (Go.Operand.tmp 13) 3)) hF hS (by kernel_rfl) (by kernel_rfl) rfl (by kernel_rfl) (by decide) fun a hF => ?_
    refine d_val 12 15 (op := (Go.Op.pick (Go.Operand.tmp 7) (Go.Operand.const (Go.Value.bool true)) (Go.Operand.tmp 14))) hF hS (by kernel_rfl) (fun W hW => x_pick (b := true) rfl rfl) (by kernel_rfl) (by decide) fun a hF => ?_
    refine d_val 13 2 (op := (Go.Op.assign (Go.Operand.tmp 15))) hF hS (by kernel_rfl) (fun W hW => x_assign rfl) (by kernel_rfl) (by decide) fun a hF => ?_
    refine d_end (by kernel_rfl) (hK3 _ _ ?_)
    refine wp_ret (res_slot hF rfl rfl ⟨by rw [← hkd, ← hlen, decide_eq_true (by omega)], hB⟩)
  · skip
    refine wp_rs fun K4 hK4 => ?_
    refine s_box ([.int .i64 xk, .int .i64 xn, .string xs, .int .i64 xl.1, .int .i64 xl.2.1, xl.2.2, xls, .slice av nv cv]) hF (by decide) rfl rfl fun w6 b1 a eb1 m1 B7 zb1 hF => ?_
    have sB7 := B7.size
    have hB := hB.trans (B7.mono hB.size)
    refine s_val hF (x_assign rfl) (by decide) fun a hF => ?_
    refine s_end (hK4 _ _ ?_)
    refine dk2_seq (w6.heap.size) (w6.heap.size) (ops := regOps Try.f59 1) (N := 14) (by kernel_rfl) wide_orders (by kernel_rfl) fun w8 hw8 B9 hS K5 hK5 => ?_
    have zw8 : w8.heap.size = w6.heap.size := by rw [hw8]
    have sB9 := B9.size
    have hB := hB.trans (B9.mono hB.size)
    have m1 := m1.old B9
    have m1_d := m1
    have hB_d := hB
    refine d_val 0 3 (op := (Go.Op.fieldAddr 27 (Go.Operand.tmp 1) 0)) hF hS (by kernel_rfl) (fun W hW => x_fa0 fa27_0 rfl) (by kernel_rfl) (by decide) fun a hF => ?_
    refine d_val 1 4 (op := (Go.Op.load 3 (Go.Operand.tmp 3))) hF hS (by kernel_rfl) (fun W hW => x_load rfl (m_load flat3 ((m1_d.k2 hW (by omega)).cell (j := 0) rfl))) (by kernel_rfl) (by decide) fun a hF => ?_
    refine d_one 2 (some 5) (Go.Op.call (Go.Call.mk (Go.Callee.value (Go.Operand.func 87)) #[(Go.Operand.tmp 4)] #[3])) (by kernel_rfl) (by kernel_rfl) fun ty pos af => ?_
    refine s_callS [_] hF (enters_of Try.func87 (by kernel_rfl) rfl) rfl (by decide) (kids54 xk w8) fun a hF => ?_
    refine s_end ⟨hS, ?_⟩
    refine d_val 3 6 (op := (Go.Op.binOp Go.BinOp.lss 3 (Go.Operand.tmp 5) (Go.Operand.const (Go.Value.int Go.IntKind.i64 0)) 3)) hF hS (by kernel_rfl) (fun W hW => x_lss (b := false) (decide_eq_false (by omega)) rfl rfl) (by kernel_rfl) (by decide) fun a hF => ?_
    refine d_val 4 7 (op := (Go.Op.move (Go.Operand.tmp 6))) hF hS (by kernel_rfl) (fun W hW => x_move rfl) (by kernel_rfl) (by decide) fun a hF => ?_
    refine d_valg 5 8 7 (j := 4) (want := false) (op := (Go.Op.fieldAddr 27 (Go.Operand.tmp 1) 5)) hF hS (by kernel_rfl) (by kernel_rfl) rfl (fun W hW => x_fa0 fa27_5 rfl) (by kernel_rfl) (by decide) fun a hF => ?_
    refine d_valg 6 9 7 (j := 4) (want := false) (op := (Go.Op.load 25 (Go.Operand.tmp 8))) hF hS (by kernel_rfl) (by kernel_rfl) rfl (fun W hW => x_load rfl (m_load flat25 ((m1_d.k2 hW (by omega)).cell (j := 7) rfl))) (by kernel_rfl) (by decide) fun a hF => ?_
    refine d_valg 7 10 7 (j := 4) (want := false) (op := (Go.Op.call (Go.Call.mk (Go.Callee.builtin Go.Builtin.len) #[(Go.Operand.tmp 9)] #[25]))) hF hS (by kernel_rfl) (by kernel_rfl) rfl (fun W hW => x_len Try.underlying25 rfl) (by kernel_rfl) (by decide) fun a hF => ?_
    refine d_valg 8 11 7 (j := 4) (want := false) (op := (Go.Op.fieldAddr 27 (Go.Operand.tmp 1) 0)) hF hS (by kernel_rfl) (by kernel_rfl) rfl (fun W hW => x_fa0 fa27_0 rfl) (by kernel_rfl) (by decide) fun a hF => ?_
    refine d_valg 9 12 7 (j := 4) (want := false) (op := (Go.Op.load 3 (Go.Operand.tmp 11))) hF hS (by kernel_rfl) (by kernel_rfl) rfl (fun W hW => x_load rfl (m_load flat3 ((m1_d.k2 hW (by omega)).cell (j := 0) rfl))) (by kernel_rfl) (by decide) fun a hF => ?_
    refine d_oneg 10 7 (some 13) (Go.Op.call (Go.Call.mk (Go.Callee.value (Go.Operand.func 87)) #[(Go.Operand.tmp 12)] #[3])) (j := 4) (want := false) hF (by kernel_rfl) (by kernel_rfl) (by kernel_rfl) rfl fun ty pos af => ?_
    refine s_callS [_] hF (enters_of Try.func87 (by kernel_rfl) rfl) rfl (by decide) (kids54 xk w8) fun a hF => ?_
    refine s_end ⟨hS, ?_⟩
    refine d_valg 11 14 7 (j := 4) (want := false) (op := (Go.Op.binOp Go.BinOp.lss 3 (Go.Operand.tmp 10) (Go.Operand.tmp 13) 3)) hF hS (by kernel_rfl) (by kernel_rfl) rfl (fun W hW => x_lss (b := true) (decide_eq_true (by omega)) rfl rfl) (by kernel_rfl) (by decide) fun a hF => ?_
    refine d_val 12 15 (op := (Go.Op.pick (Go.Operand.tmp 7) (Go.Operand.const (Go.Value.bool true)) (Go.Operand.tmp 14))) hF hS (by kernel_rfl) (fun W hW => x_pick (b := false) rfl rfl) (by kernel_rfl) (by decide) fun a hF => ?_
    refine d_val 13 2 (op := (Go.Op.assign (Go.Operand.tmp 15))) hF hS (by kernel_rfl) (fun W hW => x_assign rfl) (by kernel_rfl) (by decide) fun a hF => ?_
    refine d_end (by kernel_rfl) (hK5 _ _ ?_)
    refine wp_ret (res_slot hF rfl rfl ⟨by rw [← hkd, ← hlen, decide_eq_true (by omega)], hB⟩)
  · skip
    refine wp_rs fun K6 hK6 => ?_
    refine s_box ([.int .i64 xk, .int .i64 xn, .string xs, .int .i64 xl.1, .int .i64 xl.2.1, xl.2.2, xls, .slice av nv cv]) hF (by decide) rfl rfl fun w10 b1 a eb1 m1 B11 zb1 hF => ?_
    have sB11 := B11.size
    have hB := hB.trans (B11.mono hB.size)
    refine s_val hF (x_assign rfl) (by decide) fun a hF => ?_
    refine s_end (hK6 _ _ ?_)
    refine dk2_seq (w10.heap.size) (w10.heap.size) (ops := regOps Try.f59 1) (N := 14) (by kernel_rfl) wide_orders (by kernel_rfl) fun w12 hw12 B13 hS K7 hK7 => ?_
    have zw12 : w12.heap.size = w10.heap.size := by rw [hw12]
    have sB13 := B13.size
    have hB := hB.trans (B13.mono hB.size)
    have m1 := m1.old B13
    have m1_d := m1
    have hB_d := hB
    refine d_val 0 3 (op := (Go.Op.fieldAddr 27 (Go.Operand.tmp 1) 0)) hF hS (by kernel_rfl) (fun W hW => x_fa0 fa27_0 rfl) (by kernel_rfl) (by decide) fun a hF => ?_
    refine d_val 1 4 (op := (Go.Op.load 3 (Go.Operand.tmp 3))) hF hS (by kernel_rfl) (fun W hW => x_load rfl (m_load flat3 ((m1_d.k2 hW (by omega)).cell (j := 0) rfl))) (by kernel_rfl) (by decide) fun a hF => ?_
    refine d_one 2 (some 5) (Go.Op.call (Go.Call.mk (Go.Callee.value (Go.Operand.func 87)) #[(Go.Operand.tmp 4)] #[3])) (by kernel_rfl) (by kernel_rfl) fun ty pos af => ?_
    refine s_callS [_] hF (enters_of Try.func87 (by kernel_rfl) rfl) rfl (by decide) (kids54 xk w12) fun a hF => ?_
    refine s_end ⟨hS, ?_⟩
    refine d_val 3 6 (op := (Go.Op.binOp Go.BinOp.lss 3 (Go.Operand.tmp 5) (Go.Operand.const (Go.Value.int Go.IntKind.i64 0)) 3)) hF hS (by kernel_rfl) (fun W hW => x_lss (b := false) (decide_eq_false (by omega)) rfl rfl) (by kernel_rfl) (by decide) fun a hF => ?_
    refine d_val 4 7 (op := (Go.Op.move (Go.Operand.tmp 6))) hF hS (by kernel_rfl) (fun W hW => x_move rfl) (by kernel_rfl) (by decide) fun a hF => ?_
    refine d_valg 5 8 7 (j := 4) (want := false) (op := (Go.Op.fieldAddr 27 (Go.Operand.tmp 1) 5)) hF hS (by kernel_rfl) (by kernel_rfl) rfl (fun W hW => x_fa0 fa27_5 rfl) (by kernel_rfl) (by decide) fun a hF => ?_
    refine d_valg 6 9 7 (j := 4) (want := false) (op := (Go.Op.load 25 (Go.Operand.tmp 8))) hF hS (by kernel_rfl) (by kernel_rfl) rfl (fun W hW => x_load rfl (m_load flat25 ((m1_d.k2 hW (by omega)).cell (j := 7) rfl))) (by kernel_rfl) (by decide) fun a hF => ?_
    refine d_valg 7 10 7 (j := 4) (want := false) (op := (Go.Op.call (Go.Call.mk (Go.Callee.builtin Go.Builtin.len) #[(Go.Operand.tmp 9)] #[25]))) hF hS (by kernel_rfl) (by kernel_rfl) rfl (fun W hW => x_len Try.underlying25 rfl) (by kernel_rfl) (by decide) fun a hF => ?_
    refine d_valg 8 11 7 (j := 4) (want := false) (op := (Go.Op.fieldAddr 27 (Go.Operand.tmp 1) 0)) hF hS (by kernel_rfl) (by kernel_rfl) rfl (fun W hW => x_fa0 fa27_0 rfl) (by kernel_rfl) (by decide) fun a hF => ?_
    refine d_valg 9 12 7 (j := 4) (want := false) (op := (Go.Op.load 3 (Go.Operand.tmp 11))) hF hS (by kernel_rfl) (by kernel_rfl) rfl (fun W hW => x_load rfl (m_load flat3 ((m1_d.k2 hW (by omega)).cell (j := 0) rfl))) (by kernel_rfl) (by decide) fun a hF => ?_
    refine d_oneg 10 7 (some 13) (Go.Op.call (Go.Call.mk (Go.Callee.value (Go.Operand.func 87)) #[(Go.Operand.tmp 12)] #[3])) (j := 4) (want := false) hF (by kernel_rfl) (by kernel_rfl) (by kernel_rfl) rfl fun ty pos af => ?_
    refine s_callS [_] hF (enters_of Try.func87 (by kernel_rfl) rfl) rfl (by decide) (kids54 xk w12) fun a hF => ?_
    refine s_end ⟨hS, ?_⟩
    refine d_valg 11 14 7 (j := 4) (want := false) (op := (Go.Op.binOp Go.BinOp.lss 3 (Go.Operand.tmp 10) (Go.Operand.tmp 13) 3)) hF hS (by kernel_rfl) (by kernel_rfl) rfl (fun W hW => x_lss (b := false) (decide_eq_false (by omega)) rfl rfl) (by kernel_rfl) (by decide) fun a hF => ?_
    refine d_val 12 15 (op := (Go.Op.pick (Go.Operand.tmp 7) (Go.Operand.const (Go.Value.bool true)) (Go.Operand.tmp 14))) hF hS (by kernel_rfl) (fun W hW => x_pick (b := false) rfl rfl) (by kernel_rfl) (by decide) fun a hF => ?_
    refine d_val 13 2 (op := (Go.Op.assign (Go.Operand.tmp 15))) hF hS (by kernel_rfl) (fun W hW => x_assign rfl) (by kernel_rfl) (by decide) fun a hF => ?_
    refine d_end (by kernel_rfl) (hK7 _ _ ?_)
    refine wp_ret (res_slot hF rfl rfl ⟨by rw [← hkd, ← hlen, decide_eq_false (by omega)], hB⟩)

set_option maxRecDepth 100000 in
set_option maxHeartbeats 1600000 in
theorem rbinds114 (c : CT) (x : C8) (A : Nat → Prop) (i : Nat) (wa w0 : World) (hx : RC wa A c x) (hi : i < c.kids.length) : Calls Try.prog 106 #[.int .i64 c.kd, .int .i64 (i : Int)] w0 fun e w' => e = .returned (.int .i64 (c.bnd i)) ∧ Below w0.heap.size w0 w' := by
  have hbd := CT.bnd_eq hx hi
  have hq := CT.kids_arT hx
  have hrg := arT_rng c.kd
  have hz : c.kd ≠ 6 → (0 < c.kids.length → c.kd = 3 ∨ c.kd = 4 ∨ c.kd = 5) := by
    intro h1 h2
    have := c.kids_le
    unfold arT at hq
    split at hq
    · omega
    · split at hq
      · omega
      · split at hq <;> omega
  have hB := Below.refl w0.heap.size w0
  have sB := hB.size
  refine calls_fs 14 [(0, .int .i64 c.kd), (1, .int .i64 (i : Int))] Try.func106 rfl rfl rfl rfl rfl fun a hF => ?_
  rcases (show c.kd = 6 ∨ (c.kd ≠ 6 ∧ i + 1 = c.kids.length) ∨ (c.kd ≠ 6 ∧ i + 1 ≠ c.kids.length) by omega) with hk | hk | hk
  · have hb9 : c.bnd i = 0 := by omega
    refine wp_rs fun K2 hK2 => ?_
    refine s_val hF (x_assign rfl) (by decide) fun a hF => ?_
    refine s_end (hK2 _ _ ?_)
    refine wp_seq_k fun K3 hK3 => ?_
    refine wp_rs fun K4 hK4 => ?_
    refine s_val hF (x_move rfl) (by decide) fun a hF => ?_
    refine s_val hF (x_neq (b := false) (decide_eq_false (by omega)) rfl rfl) (by decide) fun a hF => ?_
    refine s_val hF (x_move rfl) (by decide) fun a hF => ?_
    refine s_grdn 7 hF rfl rfl (by decide) fun a hF => ?_
    refine s_grdn 7 hF rfl rfl (by decide) fun a hF => ?_
    refine s_grdn 7 hF rfl rfl (by decide) fun a hF => ?_
    refine s_grdn 7 hF rfl rfl (by decide) fun a hF => ?_
    refine s_grdn 7 hF rfl rfl (by decide) fun a hF => ?_
    refine s_val hF (x_pick (b := false) rfl rfl) (by decide) fun a hF => ?_
    refine s_end (hK4 _ _ ?_)
    refine wp_if hF rfl ?_
    refine wp_skip (hK3 _ _ ?_)
    refine wp_rs fun K5 hK5 => ?_
    refine s_val hF (x_assign rfl) (by decide) fun a hF => ?_
    refine s_end (hK5 _ _ ?_)
    refine wp_ret (res_slot hF rfl rfl ⟨by rw [hb9], hB⟩)
  · have := hz hk.1 (by omega)
    have hb9 : c.bnd i = 1 := by omega
    refine wp_rs fun K6 hK6 => ?_
    refine s_val hF (x_assign rfl) (by decide) fun a hF => ?_
    refine s_end (hK6 _ _ ?_)
    refine wp_seq_k fun K7 hK7 => ?_
    refine wp_rs fun K8 hK8 => ?_
    refine s_val hF (x_move rfl) (by decide) fun a hF => ?_
    refine s_val hF (x_neq (b := true) (decide_eq_true (by omega)) rfl rfl) (by decide) fun a hF => ?_
    refine s_val hF (x_move rfl) (by decide) fun a hF => ?_
    refine s_grd 7 hF rfl rfl rfl ?_
    refine s_val hF (x_move rfl) (by decide) fun a hF => ?_
    refine s_grd 7 hF rfl rfl rfl ?_
    refine s_val hF (x_move rfl) (by decide) fun a hF => ?_
    refine s_grd 7 hF rfl rfl rfl ?_
    refine s_callS [_] hF (enters_of Try.func87 (by kernel_rfl) rfl) rfl (by decide) (kids54 c.kd w0) fun a hF => ?_
    refine s_grd 7 hF rfl rfl rfl ?_
    refine s_val hF (x_sub (by omega) (by omega) rfl rfl) (by decide) fun a hF => ?_
    refine s_grd 7 hF rfl rfl rfl ?_
    refine s_val hF (x_eql (b := true) (decide_eq_true (by omega)) rfl rfl) (by decide) fun a hF => ?_
    refine s_val hF (x_pick (b := true) rfl rfl) (by decide) fun a hF => ?_
    refine s_end (hK8 _ _ ?_)
    refine wp_if hF rfl ?_
    refine wp_rs fun K9 hK9 => ?_
    refine s_val hF (x_assign rfl) (by decide) fun a hF => ?_
    refine s_end (hK9 _ _ ?_)
    refine wp_ret (then_ret (res_slot hF rfl rfl ⟨by rw [hb9], hB⟩))
  · have hb9 : c.bnd i = 0 := by omega
    refine wp_rs fun K10 hK10 => ?_
    refine s_val hF (x_assign rfl) (by decide) fun a hF => ?_
    refine s_end (hK10 _ _ ?_)
    refine wp_seq_k fun K11 hK11 => ?_
    refine wp_rs fun K12 hK12 => ?_
    refine s_val hF (x_move rfl) (by decide) fun a hF => ?_
    refine s_val hF (x_neq (b := true) (decide_eq_true (by omega)) rfl rfl) (by decide) fun a hF => ?_
    refine s_val hF (x_move rfl) (by decide) fun a hF => ?_
    refine s_grd 7 hF rfl rfl rfl ?_
    refine s_val hF (x_move rfl) (by decide) fun a hF => ?_
    refine s_grd 7 hF rfl rfl rfl ?_
    refine s_val hF (x_move rfl) (by decide) fun a hF => ?_
    refine s_grd 7 hF rfl rfl rfl ?_
    refine s_callS [_] hF (enters_of Try.func87 (by kernel_rfl) rfl) rfl (by decide) (kids54 c.kd w0) fun a hF => ?_
    refine s_grd 7 hF rfl rfl rfl ?_
    refine s_val hF (x_sub (by omega) (by omega) rfl rfl) (by decide) fun a hF => ?_
    refine s_grd 7 hF rfl rfl rfl ?_
    refine s_val hF (x_eql (b := false) (decide_eq_false (by omega)) rfl rfl) (by decide) fun a hF => ?_
    refine s_val hF (x_pick (b := true) rfl rfl) (by decide) fun a hF => ?_
    refine s_end (hK12 _ _ ?_)
    refine wp_if hF rfl ?_
    refine wp_skip (hK11 _ _ ?_)
    refine wp_rs fun K13 hK13 => ?_
    refine s_val hF (x_assign rfl) (by decide) fun a hF => ?_
    refine s_end (hK13 _ _ ?_)
    refine wp_ret (res_slot hF rfl rfl ⟨by rw [hb9], hB⟩)

set_option maxRecDepth 100000 in
set_option maxHeartbeats 1600000 in
theorem var16 (n : Int) (w0 : World) (hn : in64 n) : Calls Try.prog 12 #[.int .i64 n] w0 fun e w' => ∃ v, e = .returned v ∧ (∃ y, v = tv y ∧ RC w' (fun _ => False) (.var n 0) y) ∧ Below w0.heap.size w0 w' := by
  have hB := Below.refl w0.heap.size w0
  have sB := hB.size
  refine calls_fs 5 [(0, .int .i64 n)] Try.func12 rfl rfl rfl rfl rfl fun a hF => ?_
  refine wp_rs fun K1 hK1 => ?_
  refine s_alloc hF (by decide) zero27 fun w2 b2 a eb2 m2 B3 zb2 hF => ?_
  have sB3 := B3.size
  have hB := hB.trans (B3.mono hB.size)
  refine s_end (hK1 _ _ ?_)
  refine wp_rs fun K2 hK2 => ?_
  refine s_val hF (x_move rfl) (by decide) fun a hF => ?_
  refine s_val hF (x_build (vs := [(0, _), (1, _)]) rfl (b27_01 _ _ _)) (by decide) fun a hF => ?_
  refine s_putW hF rfl rfl (size_wide wide27) m2 rfl (one_tc0 _ _ _ _ rfl) fun w6 m2 o7 => ?_
  have so7 := o7.size
  have hB := hB.trans (o7.below (by omega))
  refine s_end (hK2 _ _ ?_)
  refine wp_ret (res_cell hF rfl rfl m2 wide27 ⟨_, rfl, ⟨⟨1, n, emptyB, (0, 0, nilS), nilS, nilS⟩, rfl, rfl, rfl, hn, ⟨[], Rn.nil _ _ _⟩, ok0 _ _ _ _ _ _⟩, hB⟩)

set_option maxRecDepth 100000 in
set_option maxHeartbeats 1600000 in
theorem rVar46 (n : Int) (w0 : World) (hn : in64 n) : Calls Try.prog 33 #[.int .i64 n] w0 fun e w' => ∃ v, e = .returned v ∧ (∃ y, v = tv y ∧ RC w' (fun _ => False) (.var n 0) y) ∧ Below w0.heap.size w0 w' := by
  have hB := Below.refl w0.heap.size w0
  have sB := hB.size
  refine calls_fs 5 [(0, .int .i64 n)] Try.func33 rfl rfl rfl rfl rfl fun a hF => ?_
  refine wp_rs fun K1 hK1 => ?_
  refine s_alloc hF (by decide) zero27 fun w2 b2 a eb2 m2 B3 zb2 hF => ?_
  have sB3 := B3.size
  have hB := hB.trans (B3.mono hB.size)
  refine s_end (hK1 _ _ ?_)
  refine wp_rs fun K2 hK2 => ?_
  refine s_val hF (x_move rfl) (by decide) fun a hF => ?_
  refine s_val hF (x_build (vs := [(0, _), (1, _)]) rfl (b27_01 _ _ _)) (by decide) fun a hF => ?_
  refine s_putW hF rfl rfl (size_wide wide27) m2 rfl (one_tc0 _ _ _ _ rfl) fun w6 m2 o7 => ?_
  have so7 := o7.size
  have hB := hB.trans (o7.below (by omega))
  refine s_end (hK2 _ _ ?_)
  refine wp_ret (res_cell hF rfl rfl m2 wide27 ⟨_, rfl, ⟨⟨1, n, emptyB, (0, 0, nilS), nilS, nilS⟩, rfl, rfl, rfl, hn, ⟨[], Rn.nil _ _ _⟩, ok0 _ _ _ _ _ _⟩, hB⟩)

set_option maxRecDepth 100000 in
set_option maxHeartbeats 1600000 in
theorem newRoom56 (w0 : World) : Calls Try.prog 45 #[] w0 fun e w' => ∃ v, e = .returned v ∧ (∃ br, v = .pointer (some ⟨br, 0, none⟩) ∧ w0.heap.size ≤ br ∧ Blk w' br 108 [.int .i64 2147483647]) ∧ Below w0.heap.size w0 w' := by
  have hB := Below.refl w0.heap.size w0
  have sB := hB.size
  refine calls_fs 3 [] Try.func45 rfl rfl rfl rfl rfl fun a hF => ?_
  refine wp_rs fun K1 hK1 => ?_
  refine s_val hF (x_assign rfl) (by decide) fun a hF => ?_
  refine s_end (hK1 _ _ ?_)
  refine wp_rs fun K2 hK2 => ?_
  refine s_val hF (x_build (vs := [(0, _)]) rfl (b110_0 _ _)) (by decide) fun a hF => ?_
  refine s_box ([.int .i64 2147483647]) hF (by decide) rfl rfl fun w2 b2 a eb2 m2 B3 zb2 hF => ?_
  have sB3 := B3.size
  have hB := hB.trans (B3.mono hB.size)
  refine s_val hF (x_assign rfl) (by decide) fun a hF => ?_
  refine s_end (hK2 _ _ ?_)
  refine wp_ret (res_slot hF rfl rfl ⟨_, rfl, ⟨b2, rfl, by omega, m2⟩, hB⟩)
end Go.Proofs.Ytaclncmkdpjnlaa

namespace Go.Proofs.Ytaclncmkdpjnlaa
open Go.RowKit Go.Shelf
set_option linter.unusedVariables false
set_option linter.unusedSimpArgs false

/-- A term's nodes, with their depths. -/
def CT.nodes : CT → Int → List (Int × CT)
  | .two k a b m, d => (d, .two k a b m) :: (a.nodes (d + 1) ++ b.nodes (d + 1))
  | .lt a b c m, d => (d, .lt a b c m) :: (a.nodes (d + 1) ++ (b.nodes (d + 1) ++ c.nodes (d + 1)))
  | c, d => [(d, c)]
theorem CT.nodes_eq (c : CT) (d : Int) : c.nodes d = (d, c) :: c.kids.flatMap (·.nodes (d + 1)) := by
  cases c <;> simp [CT.nodes, CT.kids]
theorem take_at {α β : Type} {l : List α} {i : Nat} {x : α} (h : l[i]? = some x) (f : α → List β) : (l.take (i + 1)).flatMap f = (l.take i).flatMap f ++ f x := by
  rw [List.take_add_one, h, List.flatMap_append]; simp
theorem split_at {α : Type} {l : List α} {i : Nat} {x : α} (h : l[i]? = some x) : l = l.take i ++ x :: l.drop (i + 1) := by
  have hi : i < l.length := (List.getElem?_eq_some_iff.1 h).1
  have : l[i] = x := (List.getElem?_eq_some_iff.1 h).2
  rw [← this, List.getElem_cons_drop, List.take_append_drop]
theorem CT.nodes_split {c k : CT} {i : Nat} (d : Int) (h : c.kids[i]? = some k) : c.nodes d = ((d, c) :: (c.kids.take i).flatMap (·.nodes (d + 1))) ++ (k.nodes (d + 1) ++ (c.kids.drop (i + 1)).flatMap (·.nodes (d + 1))) := by
  rw [c.nodes_eq d]
  conv => lhs; rw [split_at h]
  simp
/-- What is handed on of a node. -/
def encN (w0 : World) (e : Int × CT) (vs : List Value) : Prop := ∃ y, vs = [.int .i64 e.1, tv y] ∧ RC w0 (fun k => k < w0.heap.size) e.2 y

set_option maxRecDepth 100000 in
set_option maxHeartbeats 1600000 in
theorem walk108 (w0 : World) : ∀ (N : Nat) (c : CT) (x : C8) (d : Int), c.size < N → RC w0 (fun k => k < w0.heap.size) c x → 0 ≤ d → d ≤ 4611686018427387905 →
    ∀ (hi L : Nat) (J Jx : List (Int × CT) → World → Prop), w0.heap.size ≤ hi → (∀ p W W', J p W → Below hi W W' → J p W') → (∀ p W W', Jx p W → Below hi W W' → Jx p W') → (∀ p e W, J (p ++ [e]) W → e.1 ≤ 4611686018427387904) →
    (∀ p e rest W vs, c.nodes d = p ++ e :: rest → encN w0 e vs → J p W → hi ≤ W.heap.size → Below w0.heap.size w0 W → YieldAt Fence.wide 0 Try.prog L vs.toArray W fun en W' => Mid w0.heap.size hi W W' ∧ ((en = .returned (.bool true) ∧ J (p ++ [e]) W') ∨ (en = .returned (.bool false) ∧ Jx (p ++ [e]) W'))) →
    ∀ W, J [] W → hi ≤ W.heap.size → Below w0.heap.size w0 W → Calls Try.prog 96 #[tv x, .int .i64 d, .func (.yield L) #[] #[]] W fun en W' => ∃ b, en = .returned (.bool b) ∧ Mid w0.heap.size hi W W' ∧ ((b = true ∧ J (c.nodes d) W') ∨ (b = false ∧ ∃ p, p <+: c.nodes d ∧ Jx p W')) := by
  intro N
  induction N with
  | zero => intro c x d h; omega
  | succ N ih =>
  intro c x d hN hx hd0 hd1 hi L J Jx hlo hJs hJxs hJb hY W hJ hWs hB
  obtain ⟨xk, xn, xs, xl, xls, xts⟩ := x
  have h3 := c.kids_le
  have hM := Mid.refl w0.heap.size hi W
  have sB := hB.size
  refine calls_fs 28 [(0, tv ⟨xk, xn, xs, xl, xls, xts⟩), (1, .int .i64 d), (2, .func (.yield L) #[] #[])] Try.func96 rfl rfl rfl rfl rfl fun a hF => ?_
  refine wp_rs fun K1 hK1 => ?_
  refine s_box ([.int .i64 xk, .int .i64 xn, .string xs, .int .i64 xl.1, .int .i64 xl.2.1, xl.2.2, xls, xts]) hF (by decide) rfl rfl fun w2 b3 a eb3 m3 B3 zb3 hF => ?_
  have sB3 := B3.size
  have hB := hB.trans (B3.mono hB.size)
  have hM := hM.old B3
  have hJ := hJs _ _ _ hJ (B3.mono (by omega))
  refine s_val hF (x_assign rfl) (by decide) fun a hF => ?_
  refine s_end (hK1 _ _ ?_)
  refine wp_seq_k fun K2 hK2 => ?_
  refine wp_rsI fun K3 hK3 => ?_
  refine i_val hF (x_move rfl) rfl (by decide) fun a hF => ?_
  refine i_val hF (x_move rfl) rfl (by decide) fun a hF => ?_
  refine i_val hF (x_ldW wide27 m3 rfl rfl) rfl (by decide) fun a hF => ?_
  refine i_yield (R := fun v W' => ∃ b, v = .bool b ∧ Mid w0.heap.size hi w2 W' ∧ ((b = true ∧ J [(d, c)] W') ∨ (b = false ∧ Jx [(d, c)] W'))) hF [_, _] rfl rfl (by decide) ?_ ?_
  · refine YieldAt.mono (hY [] (d, c) _ w2 _ (by rw [c.nodes_eq]; rfl) ⟨⟨xk, xn, xs, xl, xls, xts⟩, rfl, hx⟩ hJ (by omega) hB) ?_
    rintro en W' ⟨h1, ⟨rfl, h2⟩ | ⟨rfl, h2⟩⟩
    · exact ⟨_, rfl, true, rfl, h1, .inl ⟨rfl, h2⟩⟩
    · exact ⟨_, rfl, false, rfl, h1, .inr ⟨rfl, h2⟩⟩
  rintro _ w4 a ⟨b12, rfl, hm12, h12⟩ hF
  have shm12 := hm12.size
  have hB := hB.trans (hm12.below (by omega))
  have hM := hM.trans hm12
  have m3 := m3.mid hm12 (.inr (by omega))
  refine i_val hF (x_not rfl) rfl (by decide) fun a hF => ?_
  refine i_end (hK3 _ _ ?_)
  refine wp_ifb hF rfl (fun hc13 => ?_) (fun hc13 => ?_)
  · obtain ⟨rfl, h12x⟩ : b12 = false ∧ Jx [(d, c)] _ := by rcases h12 with ⟨rfl, _⟩ | h; (· cases hc13); exact h
    refine wp_rs fun K4 hK4 => ?_
    refine s_val hF (x_assign rfl) (by decide) fun a hF => ?_
    refine s_end (hK4 _ _ ?_)
    refine wp_ret (then_ret (res_slot hF rfl rfl ⟨false, rfl, hM, .inr ⟨rfl, [(d, c)], by rw [c.nodes_eq]; exact ⟨_, rfl⟩, h12x⟩⟩))
  · obtain ⟨rfl, hJ⟩ : b12 = true ∧ J [(d, c)] _ := by rcases h12 with h | ⟨rfl, _⟩; (· exact h); cases hc13
    have hdd := hJb [] (d, c) _ hJ
    simp only at hdd
    refine wp_skip (hK2 _ _ ?_)
    refine wp_seq_k fun K5 hK5 => ?_
    refine wp_rs fun K6 hK6 => ?_
    refine s_val hF (x_ldW wide27 m3 rfl rfl) (by decide) fun a hF => ?_
    refine s_callR (R := fun v w' => RK w0 (fun k => k < w0.heap.size) v c.kids) [_] hF (enters_of Try.func89 (by kernel_rfl) rfl) rfl (by decide) (kidsOf101 c ⟨xk, xn, xs, xl, xls, xts⟩ _ w0 w4 hx) ?_
    rintro v15 w5 a hv15 B6 hF
    have sB6 := B6.size
    have hB := hB.trans (B6.mono hB.size)
    have m3 := m3.old B6
    have hM := hM.old B6
    have hJ := hJs _ _ _ hJ (B6.mono (by omega))
    obtain ⟨a15, c15, hve, _⟩ := hv15.form
    subst hve
    refine s_val hF (x_len Try.underlying25 rfl) (by decide) fun a hF => ?_
    refine s_val hF (x_move rfl) (by decide) fun a hF => ?_
    refine s_end (hK6 _ _ ?_)
    refine wp_block ?_
    refine wp_up c.kids.length (fun i a w => J ((d, c) :: (c.kids.take i).flatMap (·.nodes (d + 1))) w ∧ Mid w0.heap.size hi W w ∧ Below w0.heap.size w0 w ∧ Fs 28 a [(17, .int .i64 (i : Int)), (16, .int .i64 (c.kids.length : Int)), (15, .slice a15 c.kids.length c15), (1, .int .i64 d), (2, .func (.yield L) #[] #[])]) ⟨by simpa using hJ, hM, hB, hF.sub _ rfl⟩ ?_
    repeat clear hF
    clear hJ hM hB
    rintro i a w hi2 ⟨hJ, hM, hB, hF⟩ K' hK'
    have sB := hB.size
    have sM := hM.size
    refine wp_rs fun K7 hK7 => ?_
    refine s_val hF (x_lss (b := decide (i < c.kids.length)) (decide_eq_decide.2 (by omega)) rfl rfl) (by decide) fun a hF => ?_
    refine s_end (hK7 _ _ ?_)
    refine wp_seq_k fun K8 hK8 => ?_
    refine wp_iff hF rfl (fun hc18 => ?_) (fun hc18 => ?_)
    · obtain ⟨b9, off9, c9, y, kd, hve, hyk, hry, hAb, hbl, hrow⟩ := hv15.row (i := i) (by omega)
      cases hve
      have hks := CT.kid_size hyk
      refine wp_skip (hK8 _ _ ?_)
      refine wp_seq_k fun K9 hK9 => ?_
      refine wp_block ?_
      refine wp_rs fun K10 hK10 => ?_
      refine s_val hF (x_ixa rfl rfl (m_ixsK i Try.underlying25 el25.size rfl (by omega))) (by decide) fun a hF => ?_
      refine s_val hF (x_ldA wide27 (hrow _ (hB.block _ hbl)) rfl rfl) (by decide) fun a hF => ?_
      refine s_alloc hF (by decide) zero27 fun w7 b8 a eb8 m8 B8 zb8 hF => ?_
      have sB8 := B8.size
      have hB := hB.trans (B8.mono hB.size)
      have hM := hM.old B8
      have hJ := hJs _ _ _ hJ (B8.mono (by omega))
      refine s_putW hF rfl rfl (size_wide wide27) m8 rfl hry.one fun w11 m8 o12 => ?_
      have so12 := o12.size
      have hB := hB.trans (o12.below (by omega))
      have hM := hM.only o12 (by omega)
      have hJ := hJs _ _ _ hJ (o12.below (by omega))
      refine s_end (hK10 _ _ ?_)
      refine wp_rs fun K11 hK11 => ?_
      refine s_val hF (x_ldW wide27 m8 rfl rfl) (by decide) fun a hF => ?_
      refine s_val hF (x_move rfl) (by decide) fun a hF => ?_
      refine s_val hF (x_add (by omega) (by omega) rfl rfl) (by decide) fun a hF => ?_
      refine s_val hF (x_move rfl) (by decide) fun a hF => ?_
      refine s_call (R := fun v W' => ∃ b, v = .bool b ∧ Mid w0.heap.size hi w11 W' ∧ ((b = true ∧ J ((d, c) :: (c.kids.take (i + 1)).flatMap (·.nodes (d + 1))) W') ∨ (b = false ∧ ∃ p, p <+: c.nodes d ∧ Jx p W'))) hF [_, _, _] (enters_of Try.func96 (by kernel_rfl) rfl) rfl (by decide) ?_ ?_
      · refine Calls.mono (ih kd y (d + 1) (by omega) hry (by omega) (by omega) hi L (fun p W => J (((d, c) :: (c.kids.take i).flatMap (·.nodes (d + 1))) ++ p) W) (fun p W => Jx (((d, c) :: (c.kids.take i).flatMap (·.nodes (d + 1))) ++ p) W) hlo (fun p => hJs _) (fun p => hJxs _) (fun p e W h => hJb _ e W (by rw [List.append_assoc]; exact h)) ?_ w11 (by rw [List.append_nil]; exact hJ) (by omega) hB) ?_
        · intro p e rest W vs he hv hj h1 h2
          have := hY (((d, c) :: (c.kids.take i).flatMap (·.nodes (d + 1))) ++ p) e (rest ++ (c.kids.drop (i + 1)).flatMap (·.nodes (d + 1))) W vs (by rw [CT.nodes_split d hyk, he]; simp) hv hj h1 h2
          rw [List.append_assoc] at this
          exact this
        · rintro en W' ⟨b, rfl, h1, ⟨rfl, h2⟩ | ⟨rfl, p, h2, h4⟩⟩
          · exact ⟨_, rfl, true, rfl, h1, .inl ⟨rfl, by rw [take_at hyk]; exact h2⟩⟩
          · exact ⟨_, rfl, false, rfl, h1, .inr ⟨rfl, _, by rw [CT.nodes_split d hyk]; exact List.prefix_append_right_inj _ |>.2 (h2.trans (List.prefix_append _ _)), h4⟩⟩
      rintro _ w13 a ⟨b25, rfl, hm25, h25⟩ hF
      have shm25 := hm25.size
      have hB := hB.trans (hm25.below (by omega))
      have hM := hM.trans hm25
      have m8 := m8.mid hm25 (.inr (by omega))
      refine s_val hF (x_not rfl) (by decide) fun a hF => ?_
      refine s_end (hK11 _ _ ?_)
      refine wp_ifb hF rfl (fun hc26 => ?_) (fun hc26 => ?_)
      · obtain ⟨rfl, p25, hp25, h25x⟩ : b25 = false ∧ ∃ p, p <+: c.nodes d ∧ Jx p _ := by rcases h25 with ⟨rfl, _⟩ | h; (· cases hc26); exact h
        refine wp_rs fun K12 hK12 => ?_
        refine s_val hF (x_assign rfl) (by decide) fun a hF => ?_
        refine s_end (hK12 _ _ ?_)
        refine wp_ret (inb_ret (then_ret (then_ret (inb_ret (then_ret (res_slot hF rfl rfl ⟨false, rfl, hM, .inr ⟨rfl, p25, hp25, h25x⟩⟩))))))
      · obtain ⟨rfl, hJ⟩ : b25 = true ∧ J ((d, c) :: (c.kids.take (i + 1)).flatMap (·.nodes (d + 1))) _ := by rcases h25 with h | ⟨rfl, _⟩; (· exact h); cases hc26
        refine wp_skip (hK9 _ _ ?_)
        refine wp_region_lit ?_
        refine s_val hF (x_add (by omega) (by omega) rfl rfl) (by decide) fun a hF => ?_
        refine s_val hF (x_move rfl) (by decide) fun a hF => ?_
        refine s_end (hK' _ _ (by omega) ⟨hJ, hM, hB, hF.sub _ rfl⟩)
    · obtain rfl : i = c.kids.length := by omega
      rw [List.take_length] at hJ
      refine wp_exit (hK5 _ _ ?_)
      refine wp_rs fun K13 hK13 => ?_
      refine s_val hF (x_assign rfl) (by decide) fun a hF => ?_
      refine s_end (hK13 _ _ ?_)
      refine wp_ret (res_slot hF rfl rfl ⟨true, rfl, hM, .inl ⟨rfl, by rw [c.nodes_eq]; exact hJ⟩⟩)

set_option maxRecDepth 100000 in
set_option maxHeartbeats 1600000 in
theorem nodes107 (w0 : World) (c : CT) (x : C8) (b1 hi : Nat) (hx : RC w0 (fun k => k < w0.heap.size) c x) (h1 : w0.heap.size ≤ b1) (h2 : b1 < hi) (w1 : World) (m1 : Blk w1 b1 27 (tc x)) (h3 : w0.heap.size ≤ hi) (J Jx : List (Int × CT) → World → Prop) (L : Nat)
    (hJs : ∀ p W W', J p W → Below hi W W' → J p W') (hJxs : ∀ p W W', Jx p W → Below hi W W' → Jx p W') (hJb : ∀ p e W, J (p ++ [e]) W → e.1 ≤ 4611686018427387904)
    (hY : ∀ p e rest W vs, c.nodes 1 = p ++ e :: rest → encN w0 e vs → J p W → hi ≤ W.heap.size → Below w0.heap.size w0 W → YieldAt Fence.wide 0 Try.prog L vs.toArray W fun en W' => Mid w0.heap.size hi W W' ∧ ((en = .returned (.bool true) ∧ J (p ++ [e]) W') ∨ (en = .returned (.bool false) ∧ Jx (p ++ [e]) W')))
    (W : World) (hJ : J [] W) (hWs : hi ≤ W.heap.size) (hB : Below w0.heap.size w0 W) (hb : Blk W b1 27 (tc x)) :
    Calls Try.prog 95 #[.func (.yield L) #[] #[], .pointer (some ⟨b1, 0, none⟩)] W fun en W' => (∃ v, en = .returned v) ∧ Mid w0.heap.size hi W W' ∧ (J (c.nodes 1) W' ∨ ∃ p, p <+: c.nodes 1 ∧ Jx p W') := by
  refine calls_fs 6 [(0, .func (.yield L) #[] #[]), (1, .pointer (some ⟨b1, 0, none⟩))] Try.func95 rfl rfl rfl rfl rfl fun a hF => ?_
  refine wp_region_lit ?_
  refine s_val hF (x_ldW wide27 hb rfl rfl) (by decide) fun a hF => ?_
  refine s_val hF (x_move rfl) (by decide) fun a hF => ?_
  refine s_call (R := fun v W' => ∃ b, v = .bool b ∧ Mid w0.heap.size hi W W' ∧ ((b = true ∧ J (c.nodes 1) W') ∨ (b = false ∧ ∃ p, p <+: c.nodes 1 ∧ Jx p W'))) hF [_, _, _] (enters_of Try.func96 (by kernel_rfl) rfl) rfl (by decide) ((walk108 w0 (c.size + 1) c x 1 (by omega) hx (by decide) (by decide) hi L J Jx h3 hJs hJxs hJb hY W hJ hWs hB).mono fun en W' ⟨b, h, h'⟩ => ⟨_, h, b, rfl, h'⟩) ?_
  rintro _ w9 a ⟨b9, rfl, hm9, h9⟩ hF
  refine s_end ?_
  show bodyPost Try.prog Try.f95 (fun en W' => (∃ v, en = .returned v) ∧ Mid w0.heap.size hi W W' ∧ (J (c.nodes 1) W' ∨ ∃ p, p <+: c.nodes 1 ∧ Jx p W')) .normal a w9
  refine post_normal (res_none hF rfl ⟨⟨_, rfl⟩, hm9, ?_⟩)
  rcases h9 with ⟨_, h⟩ | ⟨_, h⟩
  · exact .inl h
  · exact .inr h
end Go.Proofs.Ytaclncmkdpjnlaa

namespace Go.Proofs.Ytaclncmkdpjnlaa
open Go.RowKit Go.Shelf
set_option linter.unusedVariables false
set_option linter.unusedSimpArgs false

/-- The block of what is deferred. -/
def Dfr (w : World) (b : Nat) : Prop := w.heap[b]? = some (.deferred (some []))
section
variable {w w' : World} {b : Nat}
theorem Dfr.lt (h : Dfr w b) : b < w.heap.size := (Array.getElem?_eq_some_iff.1 h).1
theorem Dfr.old (h : Dfr w b) (hB : Below w.heap.size w w') : Dfr w' b := (hB.block b h.lt).trans h
theorem Dfr.only {k : Nat} (h : Dfr w b) (ho : Only k w w') (hb : b ≠ k) : Dfr w' b := (ho.block b hb).trans h
theorem Dfr.k2 {a c : Nat} (h : Dfr w b) (hK : Ktw a c w w') (hb : b ≠ a ∧ b ≠ c) : Dfr w' b := (hK.block b h.lt hb).trans h
theorem Dfr.mid {lo hi : Nat} (h : Dfr w b) (hM : Mid lo hi w w') (hb : b < lo ∨ hi ≤ b) : Dfr w' b := (hM.block b h.lt hb).trans h
end
/-- It is not too great. -/
def CT.ok (c : CT) : Prop := c.size ≤ 20000 ∧ c.dep ≤ 2000
instance (c : CT) : Decidable c.ok := inferInstanceAs (Decidable (_ ∧ _))
def CT.mN (c : CT) : Nat := if c.ok then c.size else 0
def CT.mD (c : CT) : Nat := if c.ok then c.dep else 0
def mxd (p : List (Int × CT)) : Int := p.foldl (fun d e => max d e.1) 0
theorem mxd_app (p : List (Int × CT)) (e : Int × CT) : mxd (p ++ [e]) = max (mxd p) e.1 := by simp [mxd]
mutual
theorem CT.nodes_len : ∀ (c : CT) (d : Int), (c.nodes d).length = c.size
  | .two k a b m, d => by simp [CT.nodes, CT.size, a.nodes_len, b.nodes_len]
  | .lt a b c m, d => by simp [CT.nodes, CT.size, a.nodes_len, b.nodes_len, c.nodes_len]; omega
  | .var .., d => rfl
  | .sort .., d => rfl
  | .cst .., d => rfl
  | .odd .., d => rfl
end
theorem CT.nodes_dep : ∀ (c : CT) (d : Int), (∀ e ∈ c.nodes d, d ≤ e.1 ∧ e.1 ≤ d + c.dep - 1) ∧ ∃ e ∈ c.nodes d, e.1 = d + c.dep - 1
  | .two k a b m, d => by
    obtain ⟨h1, e1, h2, h3⟩ := a.nodes_dep (d + 1)
    obtain ⟨h4, e2, h5, h6⟩ := b.nodes_dep (d + 1)
    have := a.dep_pos
    have := b.dep_pos
    refine ⟨?_, ?_⟩
    · intro e he
      simp only [CT.nodes, List.mem_cons, List.mem_append] at he
      simp only [CT.dep]
      rcases he with rfl | he | he
      · simp only; omega
      · have := h1 e he; omega
      · have := h4 e he; omega
    · simp only [CT.nodes, List.mem_cons, List.mem_append, CT.dep]
      rcases Nat.le_total a.dep b.dep with h | h
      · exact ⟨e2, .inr (.inr h5), by omega⟩
      · exact ⟨e1, .inr (.inl h2), by omega⟩
  | .lt a b c m, d => by
    obtain ⟨h1, e1, h2, h3⟩ := a.nodes_dep (d + 1)
    obtain ⟨h4, e2, h5, h6⟩ := b.nodes_dep (d + 1)
    obtain ⟨h7, e3, h8, h9⟩ := c.nodes_dep (d + 1)
    have := a.dep_pos
    have := b.dep_pos
    have := c.dep_pos
    refine ⟨?_, ?_⟩
    · intro e he
      simp only [CT.nodes, List.mem_cons, List.mem_append] at he
      simp only [CT.dep]
      rcases he with rfl | he | he | he
      · simp only; omega
      · have := h1 e he; omega
      · have := h4 e he; omega
      · have := h7 e he; omega
    · simp only [CT.nodes, List.mem_cons, List.mem_append, CT.dep]
      rcases (show (b.dep ≤ a.dep ∧ c.dep ≤ a.dep) ∨ (a.dep ≤ b.dep ∧ c.dep ≤ b.dep) ∨ (a.dep ≤ c.dep ∧ b.dep ≤ c.dep) by omega) with h | h | h
      · exact ⟨e1, .inr (.inl h2), by omega⟩
      · exact ⟨e2, .inr (.inr (.inl h5)), by omega⟩
      · exact ⟨e3, .inr (.inr (.inr h8)), by omega⟩
  | .var n m, d => ⟨by simp [CT.nodes, CT.dep], _, List.mem_singleton.2 rfl, by simp [CT.dep]⟩
  | .sort n m, d => ⟨by simp [CT.nodes, CT.dep], _, List.mem_singleton.2 rfl, by simp [CT.dep]⟩
  | .cst s n m, d => ⟨by simp [CT.nodes, CT.dep], _, List.mem_singleton.2 rfl, by simp [CT.dep]⟩
  | .odd n m, d => ⟨by simp [CT.nodes, CT.dep], _, List.mem_singleton.2 rfl, by simp [CT.dep]⟩
theorem mxd_ge : ∀ (p : List (Int × CT)), 0 ≤ mxd p ∧ ∀ e ∈ p, e.1 ≤ mxd p := by
  intro p
  suffices H : ∀ (p : List (Int × CT)) (z : Int), z ≤ p.foldl (fun d e => max d e.1) z ∧ ∀ e ∈ p, e.1 ≤ p.foldl (fun d e => max d e.1) z from H p 0
  intro p
  induction p with
  | nil => intro z; simp
  | cons u p ih =>
    intro z
    simp only [List.foldl_cons]
    obtain ⟨h1, h2⟩ := ih (max z u.1)
    refine ⟨by omega, ?_⟩
    intro e he
    rcases List.mem_cons.1 he with rfl | he
    · omega
    · exact h2 e he
theorem mxd_le : ∀ (p : List (Int × CT)) (M : Int), 0 ≤ M → (∀ e ∈ p, e.1 ≤ M) → mxd p ≤ M := by
  intro p M
  suffices H : ∀ (p : List (Int × CT)) (z : Int), z ≤ M → (∀ e ∈ p, e.1 ≤ M) → p.foldl (fun d e => max d e.1) z ≤ M from fun h0 h => H p 0 h0 h
  intro p
  induction p with
  | nil => intro z h _; exact h
  | cons u p ih =>
    intro z hz h
    simp only [List.foldl_cons]
    exact ih _ (by have := h u (by simp); omega) (fun e he => h e (by simp [he]))
theorem mxd_nodes (c : CT) : mxd (c.nodes 1) = c.dep := by
  obtain ⟨h1, e, h2, h3⟩ := c.nodes_dep 1
  have h4 := (mxd_ge (c.nodes 1)).2 e h2
  have h5 := mxd_le (c.nodes 1) c.dep (by omega) (fun e he => by have := (h1 e he).2; omega)
  omega
theorem prefix_ok {c : CT} {p : List (Int × CT)} (h : p <+: c.nodes 1) (hc : c.ok) : p.length ≤ 20000 ∧ mxd p ≤ 2000 := by
  obtain ⟨q, hq⟩ := h
  have h1 := congrArg List.length hq
  rw [c.nodes_len, List.length_append] at h1
  refine ⟨by have := hc.1; omega, mxd_le _ _ (by decide) fun e he => ?_⟩
  have h2 := ((c.nodes_dep 1).1 e (by rw [← hq]; exact List.mem_append_left _ he)).2
  have := hc.2
  omega
/-- The nodes, handed on. -/
theorem hands107 (w0 : World) (c : CT) (x : C8) (b1 hi : Nat) (hx : RC w0 (fun k => k < w0.heap.size) c x) (h1 : w0.heap.size ≤ b1) (h2 : b1 < hi) (w1 : World) (m1 : Blk w1 b1 27 (tc x)) (h3 : w0.heap.size ≤ hi) : Hands Try.prog 95 #[.pointer (some ⟨b1, 0, none⟩)] w0.heap.size hi w0 (fun W => Blk W b1 27 (tc x)) (fun e => e.1 ≤ 4611686018427387904) (encN w0) (c.nodes 1) :=
  fun L J Jx hJs hJxs hJb hY W hS hJ hWs hB => nodes107 w0 c x b1 hi hx h1 h2 w1 m1 h3 J Jx L hJs hJxs hJb hY W hJ hWs hB hS

set_option maxRecDepth 100000 in
set_option maxHeartbeats 1600000 in
theorem nodes71 (x : C8) (w0 : World) (h1x : ∀ u ∈ tc x, u.oneCell' = true) : Calls Try.prog 60 #[tv x] w0 fun e w' => ∃ v, e = .returned v ∧ (∃ b1, v = .func (.func 95) #[] #[.pointer (some ⟨b1, 0, none⟩)] ∧ w0.heap.size ≤ b1 ∧ Blk w' b1 27 (tc x)) ∧ Below w0.heap.size w0 w' := by
  have hB := Below.refl w0.heap.size w0
  have sB := hB.size
  refine calls_fs 4 [(0, tv x)] Try.func60 rfl rfl rfl rfl rfl fun a hF => ?_
  refine wp_rs fun K1 hK1 => ?_
  refine s_box (tc x) hF (by decide) rfl rfl fun w2 b1 a eb1 m1 B3 zb1 hF => ?_
  have sB3 := B3.size
  have hB := hB.trans (B3.mono hB.size)
  refine s_val hF (x_assign rfl) (by decide) fun a hF => ?_
  refine s_end (hK1 _ _ ?_)
  refine wp_rs fun K2 hK2 => ?_
  refine s_val hF (x_mkf [_] rfl) (by decide) fun a hF => ?_
  refine s_val hF (x_assign rfl) (by decide) fun a hF => ?_
  refine s_end (hK2 _ _ ?_)
  refine wp_ret (res_slot hF rfl rfl ⟨_, rfl, ⟨b1, rfl, by omega, m1⟩, hB⟩)

set_option maxRecDepth 100000 in
set_option maxHeartbeats 1600000 in
theorem measure62 (c : CT) (x : C8) (w0 : World) (hx : RC w0 (fun k => k < w0.heap.size) c x) : Calls Try.prog 51 #[tv x] w0 fun e w' => e = .returned (.tuple #[.agg [.int .i64 (c.mN : Int), .int .i64 (c.mD : Int)].toArray, .bool (decide c.ok)]) ∧ Below w0.heap.size w0 w' := by
  have hB := Below.refl w0.heap.size w0
  have sB := hB.size
  refine calls_fsM 24 [(0, tv x)] Try.func51 rfl rfl rfl rfl rfl fun a hF => ?_
  refine wp_rs fun K1 hK1 => ?_
  refine s_box (tc x) hF (by decide) rfl rfl fun w2 b1 a eb1 m1 B3 zb1 hF => ?_
  have sB3 := B3.size
  have hB := hB.trans (B3.mono hB.size)
  refine s_alloc hF (by decide) zero70 fun w4 b2 a eb2 m2 B5 zb2 hF => ?_
  have sB5 := B5.size
  have hB := hB.trans (B5.mono hB.size)
  have m1 := m1.old B5
  refine s_alloc1 hF (by decide) zero4 rfl fun w6 b3 a eb3 m3 B7 zb3 hF => ?_
  have sB7 := B7.size
  have hB := hB.trans (B7.mono hB.size)
  have m1 := m1.old B7
  have m2 := m2.old B7
  refine s_end (hK1 _ _ ?_)
  refine wp_rs fun K2 hK2 => ?_
  refine s_alloc hF (by decide) zero70 fun w8 b4 a eb4 m4 B9 zb4 hF => ?_
  have sB9 := B9.size
  have hB := hB.trans (B9.mono hB.size)
  have m1 := m1.old B9
  have m2 := m2.old B9
  have m3 := m3.old B9
  refine s_end (hK2 _ _ ?_)
  refine wp_seq_k fun K3 hK3 => ?_
  refine wp_rs fun K4 hK4 => ?_
  refine s_val hF (x_ldW wide27 m1 rfl rfl) (by decide) fun a hF => ?_
  refine s_callR (R := fun v w' => ∃ b1, v = .func (.func 95) #[] #[.pointer (some ⟨b1, 0, none⟩)] ∧ w8.heap.size ≤ b1 ∧ Blk w' b1 27 (tc x)) [_] hF (enters_of Try.func60 (by kernel_rfl) rfl) rfl (by decide) (nodes71 x w8 hx.one) ?_
  rintro v7 w10 a ⟨bx, hve, hbx, mx⟩ B11 hF
  have sB11 := B11.size
  have hB := hB.trans (B11.mono hB.size)
  have m1 := m1.old B11
  have m2 := m2.old B11
  have m3 := m3.old B11
  have m4 := m4.old B11
  subst hve
  refine s_end (hK4 _ _ ?_)
  refine wp_block ?_
  have sD := hB.size
  refine wp_range (w0 := w0) hF rfl (enters_of Try.func95 (by kernel_rfl) rfl) _ rfl hB (hands107 w0 c x bx _ hx (by omega) (by have := mx.lt; omega) _ mx (by omega)) (fun W' hW' => mx.old hW') (by decide) (fun e vs ⟨y, h, _⟩ => by rw [h]; rfl)
    (fun p W => p.length ≤ 20000 ∧ mxd p ≤ 2000 ∧ Blk W b4 67 [.int .i64 (p.length : Int), .int .i64 (mxd p)] ∧ Blk W b2 67 [.int .i64 0, .int .i64 0] ∧ Blk W b3 4 [.bool false])
    (fun c' p W => c' = .ret ∧ ¬ (p.length ≤ 20000 ∧ mxd p ≤ 2000) ∧ Blk W b2 67 [.int .i64 0, .int .i64 0] ∧ Blk W b3 4 [.bool false])
    (fun p W W' ⟨h1, h2, h3, h4, h5⟩ hW => ⟨h1, h2, h3.below hW (by omega), h4.below hW (by omega), h5.below hW (by omega)⟩) (fun c p W W' ⟨h1, h2, h4, h5⟩ hW => ⟨h1, h2, h4.below hW (by omega), h5.below hW (by omega)⟩) (fun p e W ⟨h1, h2, _⟩ => by have := mxd_app p e; omega) (⟨by simp, by simp [mxd], by simpa [mxd] using m4, m2, m3⟩) ?_ ?_ ?_
  · rintro L p e1 rest W a vs hL hq hv hI hWs hBr hF K hK
    obtain ⟨hl, hd, m4, m2, m3⟩ := hI
    obtain ⟨y, rfl, hy⟩ := hv
    have sBr := hBr.size
    have hlW : w10.heap.size + 1 < W.heap.size := by omega
    refine wpI_r (by repeat' first | exact rndPost.calm | exact false.calm | refine Calm.then ?_ _ | refine Calm.block ?_ _) rfl ?_
    refine s_val hF (x_assign rfl) (by decide) fun a hF => ?_
    refine s_end ?_
    refine hK _ _ (Mid.refl _ _ _) fun W3 hO3 => ?_
    have hM := Mid.refl w0.heap.size w10.heap.size W3
    have sO := hO3.size
    have m4 := m4.only hO3 (by omega)
    have m2 := m2.only hO3 (by omega)
    have m3 := m3.only hO3 (by omega)
    have hBr := hBr.trans (hO3.below (by omega))
    obtain ⟨hbd, _⟩ := (c.nodes_dep 1).1 e1 (by rw [hq]; simp)
    have hp0 := (mxd_ge p).1
    have hpl : (p ++ [e1]).length = p.length + 1 := by simp
    have hmx := mxd_app p e1
    refine wpIn_block ?_
    refine wpI_rs (by repeat' first | exact rndPost.calm | exact false.calm | refine Calm.then ?_ _ | refine Calm.block ?_ _) rfl fun K5 hK5 => ?_
    refine s_val hF (x_fa0 fa70_0 rfl) (by decide) fun a hF => ?_
    refine s_val hF (x_load rfl (m_load flat3 (m4.cell (j := 0) rfl))) (by decide) fun a hF => ?_
    refine s_val hF (x_add (by omega) (by omega) rfl rfl) (by decide) fun a hF => ?_
    refine s_val hF (x_fa0 fa70_0 rfl) (by decide) fun a hF => ?_
    refine s_put hF rfl rfl flat3 m4 (by first | (simp; done) | decide) rfl fun w12 m4 o13 => ?_
    have so13 := o13.size
    have hBr := hBr.trans (o13.below (by omega))
    have m2 := m2.only o13 (by omega)
    have m3 := m3.only o13 (by omega)
    have hM := hM.only o13 (by omega)
    refine s_end (hK5 _ _ ?_)
    refine wpI_rs (by repeat' first | exact rndPost.calm | exact false.calm | refine Calm.then ?_ _ | refine Calm.block ?_ _) rfl fun K6 hK6 => ?_
    refine s_val hF (x_fa0 fa70_1 rfl) (by decide) fun a hF => ?_
    refine s_val hF (x_load rfl (m_load flat3 (m4.cell (j := 1) rfl))) (by decide) fun a hF => ?_
    refine s_val hF (x_move rfl) (by decide) fun a hF => ?_
    refine s_val hF (x_imax rfl rfl) (by decide) fun a hF => ?_
    refine s_val hF (x_fa0 fa70_1 rfl) (by decide) fun a hF => ?_
    refine s_put hF rfl rfl flat3 m4 (by first | (simp; done) | decide) rfl fun w14 m4 o15 => ?_
    have so15 := o15.size
    have hBr := hBr.trans (o15.below (by omega))
    have m2 := m2.only o15 (by omega)
    have m3 := m3.only o15 (by omega)
    have hM := hM.only o15 (by omega)
    refine s_end (hK6 _ _ ?_)
    rcases (show (((p.length : Int) + 1 ≤ 20000 ∧ max (mxd p) e1.1 ≤ 2000) ∨ ¬ ((p.length : Int) + 1 ≤ 20000 ∧ max (mxd p) e1.1 ≤ 2000)) by omega) with hk | hk
    · have hin := decide_eq_true hk
      refine wpI_rs (by repeat' first | exact rndPost.calm | exact false.calm | refine Calm.then ?_ _ | refine Calm.block ?_ _) rfl fun K8 hK8 => ?_
      refine s_val hF (x_ldW wide70 m4 rfl rfl) (by decide) fun a hF => ?_
      refine s_callB [_] hF (enters_of Try.func93 (by kernel_rfl) rfl) rfl (by decide) ((isIn105 _ _ _).mono fun en W' h => ⟨by rw [h.1, hin], h.2⟩) fun w20 a B20 hF => ?_
      have sB20 := B20.size
      have hBr := hBr.trans (B20.mono hBr.size)
      have m4 := m4.old B20
      have m2 := m2.old B20
      have m3 := m3.old B20
      have hM := hM.old B20
      refine s_val hF (x_not rfl) (by decide) fun a hF => ?_
      refine s_end (hK8 _ _ ?_)
      refine wpI_if hF rfl ?_
      refine wpIn_skip ?_
      exact ⟨hM, by rw [hpl]; omega, by rw [hmx]; omega, by rw [hpl, hmx]; simpa using m4, m2, m3⟩
    · have hin := decide_eq_false hk
      refine wpI_rs (by repeat' first | exact rndPost.calm | exact false.calm | refine Calm.then ?_ _ | refine Calm.block ?_ _) rfl fun K9 hK9 => ?_
      refine s_val hF (x_ldW wide70 m4 rfl rfl) (by decide) fun a hF => ?_
      refine s_callB [_] hF (enters_of Try.func93 (by kernel_rfl) rfl) rfl (by decide) ((isIn105 _ _ _).mono fun en W' h => ⟨by rw [h.1, hin], h.2⟩) fun w20 a B20 hF => ?_
      have sB20 := B20.size
      have hBr := hBr.trans (B20.mono hBr.size)
      have m4 := m4.old B20
      have m2 := m2.old B20
      have m3 := m3.old B20
      have hM := hM.old B20
      refine s_val hF (x_not rfl) (by decide) fun a hF => ?_
      refine s_end (hK9 _ _ ?_)
      refine wpI_if hF rfl ?_
      refine wpI_rs (by repeat' first | exact rndPost.calm | exact false.calm | refine Calm.then ?_ _ | refine Calm.block ?_ _) rfl fun K10 hK10 => ?_
      refine s_val hF (x_build (vs := []) rfl (b70_ _)) (by decide) fun a hF => ?_
      refine s_putW hF rfl rfl (size_wide wide70) m2 rfl (oneII _ _) fun w18 m2 o19 => ?_
      have so19 := o19.size
      have hBr := hBr.trans (o19.below (by omega))
      have m4 := m4.only o19 (by omega)
      have m3 := m3.only o19 (by omega)
      have hM := hM.only o19 (by omega)
      refine s_put hF rfl rfl flat4 m3 (by first | (simp; done) | decide) rfl fun w20 m3 o21 => ?_
      have so21 := o21.size
      have hBr := hBr.trans (o21.below (by omega))
      have m4 := m4.only o21 (by omega)
      have m2 := m2.only o21 (by omega)
      have hM := hM.only o21 (by omega)
      refine s_end (hK10 _ _ ?_)
      refine wpIn_ret ⟨hM, rfl, by rw [hpl, hmx]; omega, m2, m3⟩
  · rintro a W hI hM hD hF
    obtain ⟨hl, hd, m4, m2, m3⟩ := hI
    have sM := hM.size
    have hB := hB.trans (hM.below (by omega))
    have hsz := c.nodes_len 1
    have hdp := mxd_nodes c
    have hok : c.ok := ⟨by omega, by omega⟩
    obtain ⟨bD, hbD⟩ : ∃ bD, bD = w10.heap.size := ⟨_, rfl⟩
    rw [← hbD] at hD hF
    have hD : Dfr W bD := hD
    rw [hsz, hdp] at m4
    refine hK3 _ _ ?_
    refine wp_rs fun K11 hK11 => ?_
    refine s_val hF (x_ldW wide70 m4 rfl rfl) (by decide) fun a hF => ?_
    refine s_putW hF rfl rfl (size_wide wide70) m2 rfl (oneII _ _) fun w24 m2 o25 => ?_
    have so25 := o25.size
    have hB := hB.trans (o25.below (by omega))
    have m4 := m4.only o25 (by omega)
    have m3 := m3.only o25 (by omega)
    have hD := hD.only o25 (by omega)
    refine s_put hF rfl rfl flat4 m3 (by first | (simp; done) | decide) rfl fun w26 m3 o27 => ?_
    have so27 := o27.size
    have hB := hB.trans (o27.below (by omega))
    have m4 := m4.only o27 (by omega)
    have m2 := m2.only o27 (by omega)
    have hD := hD.only o27 (by omega)
    refine s_end (hK11 _ _ ?_)
    refine wp_ret (resM hF hD fun w9 o9 => ⟨run_cell2 hF rfl rfl rfl (m_loadW (cs := [_, _]) wide70 (m2.only o9 (by omega))) (m_load flat4 ((m3.only o9 (by omega)).cell (j := 0) rfl)), by rw [decide_eq_true hok, show c.mN = c.size from if_pos hok, show c.mD = c.dep from if_pos hok], hB.trans (o9.below (by omega))⟩)
  · rintro a c p W hp hI hM hD hF
    obtain ⟨rfl, hno, m2, m3⟩ := hI
    have hB := hB.trans (hM.below (by omega))
    have hok : ¬ c.ok := fun h => hno (prefix_ok hp h)
    refine wp_ret (inb_ret (then_ret (resM hF hD fun w9 o9 => ⟨run_cell2 hF rfl rfl rfl (m_loadW (cs := [_, _]) wide70 (m2.only o9 (by omega))) (m_load flat4 ((m3.only o9 (by omega)).cell (j := 0) rfl)), by rw [decide_eq_false hok, show c.mN = 0 from if_neg hok, show c.mD = 0 from if_neg hok]; rfl, hB.trans (o9.below (by omega))⟩)))
end Go.Proofs.Ytaclncmkdpjnlaa

namespace Go.Proofs.Ytaclncmkdpjnlaa
open Go.RowKit Go.Shelf
set_option linter.unusedVariables false
set_option linter.unusedSimpArgs false

/-! ### Levels: what is sound, and what that is -/
mutual
def parse : Lv → Option SL
  | .mk k n ls => if k = 1 then some (.num n.toNat) else if k = 2 then some (.var n.toNat) else match parses ls with
    | [some a] => some (.succ n.toNat a)
    | [some a, some b] => some (.mx a b)
    | _ => none
def parses : List Lv → List (Option SL)
  | [] => []
  | l :: ls => parse l :: parses ls
end
/-- The sound level that it is. -/
def slO (l : Lv) : Option SL := if sndL l then parse l else none
theorem parse_rs {W : World} : ∀ {s : SL} {x : C3} {l : Lv}, RL W x l → RS W s x → parse l = some s
  | .num m, (k, n, v), _, .mk hR hl hk, ⟨h1, h2, h3⟩ => by
    simp only at h1 h2; subst h1 h2; simp [parse]
  | .var m, (k, n, v), _, .mk hR hl hk, ⟨h1, h2, h3⟩ => by
    simp only at h1 h2; subst h1 h2; simp [parse]
  | .succ m a, (k, n, v), _, @RL.mk _ _ _ _ xs ls hR hl hk, ⟨h1, h2, y, h3, h4⟩ => by
    simp only at h1 h2 h3; subst h1 h2
    obtain ⟨e1, e2⟩ := hR.inj h3
    obtain ⟨z, rfl⟩ : ∃ z, xs = [z] := List.length_eq_one_iff.1 e1
    obtain ⟨l, rfl⟩ : ∃ l, ls = [l] := List.length_eq_one_iff.1 (hl ▸ e1)
    have e3 : z = y := lc_inj (by simpa using e2)
    subst e3
    have := parse_rs (hk 0 z l rfl rfl) h4
    simp [parse, parses, this]
  | .mx a b, (k, n, v), _, @RL.mk _ _ _ _ xs ls hR hl hk, ⟨h1, y, z, h3, h4, h5⟩ => by
    simp only at h1 h3; subst h1
    obtain ⟨e1, e2⟩ := hR.inj h3
    obtain ⟨y', z', rfl⟩ := len2 e1
    obtain ⟨la, lb, rfl⟩ := len2 (hl ▸ e1)
    have e2 : lc y' ++ lc z' = lc y ++ lc z := by simpa using e2
    obtain ⟨e3, e4⟩ := List.append_inj e2 rfl
    have e3 := lc_inj e3
    have e4 := lc_inj e4
    subst e3 e4
    have h6 := parse_rs (hk 0 y' la rfl rfl) h4
    have h7 := parse_rs (hk 1 z' lb rfl rfl) h5
    simp [parse, parses, h6, h7]
theorem slO_of {W : World} {x : C3} {l : Lv} {s : SL} (hL : RL W x l) (hs : RS W s x) (hg : s.good) : slO l = some s := by
  unfold slO
  rw [if_pos (rs_snd hL hs hg), parse_rs hL hs]
/-- A sound one lies where the level lies. -/
theorem RSn.of {W : World} {A : Nat → Prop} : ∀ {s : SL} {x : C3} {l : Lv}, RLn W A x l → RS W s x → RSn W A s x
  | .num m, (k, n, v), _, .mk hR hl hk, h => h
  | .var m, (k, n, v), _, .mk hR hl hk, h => h
  | .succ m a, (k, n, v), _, @RLn.mk _ _ _ _ _ xs ls hR hl hk, ⟨h1, h2, y, h3, h4⟩ => by
    obtain ⟨e1, e2⟩ := hR.1.inj h3
    obtain ⟨z, rfl⟩ : ∃ z, xs = [z] := List.length_eq_one_iff.1 e1
    obtain ⟨l, rfl⟩ : ∃ l, ls = [l] := List.length_eq_one_iff.1 (hl ▸ e1)
    have e3 : z = y := lc_inj (by simpa using e2)
    subst e3
    exact ⟨h1, h2, z, h3, fun j hj => hR.2 (by simp) j hj, RSn.of (hk 0 z l rfl rfl) h4⟩
  | .mx a b, (k, n, v), _, @RLn.mk _ _ _ _ _ xs ls hR hl hk, ⟨h1, y, z, h3, h4, h5⟩ => by
    obtain ⟨e1, e2⟩ := hR.1.inj h3
    obtain ⟨y', z', rfl⟩ := len2 e1
    obtain ⟨la, lb, rfl⟩ := len2 (hl ▸ e1)
    have e2 : lc y' ++ lc z' = lc y ++ lc z := by simpa using e2
    obtain ⟨e3, e4⟩ := List.append_inj e2 rfl
    have e3 := lc_inj e3
    have e4 := lc_inj e4
    subst e3 e4
    exact ⟨h1, y', z', h3, fun j hj => hR.2 (by simp) j hj, RSn.of (hk 0 y' la rfl rfl) h4, RSn.of (hk 1 z' lb rfl rfl) h5⟩
/-- A sound one, as one of whatever form, where it lies. -/
theorem RSn.rln {W : World} {A : Nat → Prop} : ∀ {s : SL} {x : C3}, RSn W A s x → ∃ l, RLn W A x l
  | .num m, (k, n, v), ⟨h1, h2, h3⟩ => ⟨.mk k n [], .mk (xs := []) ⟨h3, fun h => by simp at h⟩ rfl (fun i x l h => by simp at h)⟩
  | .var m, (k, n, v), ⟨h1, h2, h3⟩ => ⟨.mk k n [], .mk (xs := []) ⟨h3, fun h => by simp at h⟩ rfl (fun i x l h => by simp at h)⟩
  | .succ m a, (k, n, v), ⟨h1, h2, y, h3, ha, h4⟩ => by
    obtain ⟨l, g1⟩ := RSn.rln h4
    refine ⟨.mk k n [l], .mk (xs := [y]) ⟨by simpa using h3, fun _ b hb => ha b hb⟩ rfl (fun i x l' e1 e2 => ?_)⟩
    cases i
    · simp at e1 e2; subst e1 e2; exact g1
    · simp at e1
  | .mx a b, (k, n, v), ⟨h1, y, z, h3, ha, h4, h5⟩ => by
    obtain ⟨la, g1⟩ := RSn.rln h4
    obtain ⟨lb, g3⟩ := RSn.rln h5
    refine ⟨.mk k n [la, lb], .mk (xs := [y, z]) ⟨by simpa using h3, fun _ b hb => ha b hb⟩ rfl (fun i x l' e1 e2 => ?_)⟩
    rcases i with _ | _ | i
    · simp at e1 e2; subst e1 e2; exact g1
    · simp at e1 e2; subst e1 e2; exact g3
    · simp at e1
/-- x reads as a level that says o. -/
def RO (W : World) (A : Nat → Prop) (o : Option SL) (x : C3) : Prop := ∃ l, RLn W A x l ∧ slO l = o
theorem RO.of {W : World} {A : Nat → Prop} {s : SL} {x : C3} (h : RSn W A s x) (hg : s.good) : RO W A (some s) x := by
  obtain ⟨l, hl⟩ := h.rln
  exact ⟨l, hl, slO_of hl.rl h.rs hg⟩

/-! ### Copies of levels -/
mutual
def cpy : Lv → Lv
  | .mk k n ls => if k = 1 ∨ k = 2 ∨ k = 3 then .mk k n (cpys ls) else if k = 4 then .mk 4 0 (cpys ls) else .mk k 0 []
def cpys : List Lv → List Lv
  | [] => []
  | l :: ls => cpy l :: cpys ls
end
theorem cpys_len : ∀ ls : List Lv, (cpys ls).length = ls.length
  | [] => rfl
  | l :: ls => by simp [cpys, cpys_len ls]
theorem nodeE_n4 {D top vars d n m : Int} {r : Nat} {len : Nat} : nodeE D top vars d r 4 n len = nodeE D top vars d r 4 m len := by simp [nodeE, numB]
theorem nodeE_odd {D top vars d n m : Int} {r : Nat} {k : Int} {len len' : Nat} (h : ¬ (k = 1 ∨ k = 2 ∨ k = 3) ∧ k ≠ 4) : nodeE D top vars d r k n len = nodeE D top vars d r k m len' ∧ nodeE D top vars d r k n len ≠ 0 := by
  have e : ∀ l, kidsB k l = false := by intro l; simp [kidsB]; omega
  simp only [nodeE, e, true_or, if_true]
  refine ⟨trivial, ?_⟩
  split <;> simp
mutual
theorem chk_cpy (D top vars : Int) (d : Int) (r : Nat) : ∀ l, chk D top vars d r (cpy l) = chk D top vars d r l
  | .mk k n ls => by
    unfold cpy
    split
    · unfold chk
      rw [cpys_len, chks_cpy D top vars (d + 1) (r - 1) ls]
    · next h1 =>
      split
      · next h2 =>
        subst h2
        unfold chk
        rw [cpys_len, chks_cpy D top vars (d + 1) (r - 1) ls, nodeE_n4 (n := 0) (m := n)]
      · next h2 =>
        obtain ⟨e1, e2⟩ := nodeE_odd (D := D) (top := top) (vars := vars) (d := d) (n := n) (m := 0) (r := r) (k := k) (len := ls.length) (len' := 0) ⟨h1, h2⟩
        unfold chk
        rw [List.length_nil, ← e1, if_pos e2, if_pos e2]
theorem chks_cpy (D top vars : Int) (d : Int) (r : Nat) : ∀ ls, chks D top vars d r (cpys ls) = chks D top vars d r ls
  | [] => rfl
  | l :: ls => by
    unfold cpys chks
    rw [chk_cpy D top vars d r l, chks_cpy D top vars d _ ls]
end
theorem snd_cpy (l : Lv) : sndL (cpy l) ↔ sndL l := by unfold sndL; rw [chk_cpy]
theorem parse_cpy {W : World} {A : Nat → Prop} : ∀ {s : SL} {x : C3} {l : Lv}, RL W x l → RS W s x → parse (cpy l) = some s
  | .num m, (k, n, v), _, .mk hR hl hk, ⟨h1, h2, h3⟩ => by
    simp only at h1 h2; subst h1 h2; simp [parse, cpy]
  | .var m, (k, n, v), _, .mk hR hl hk, ⟨h1, h2, h3⟩ => by
    simp only at h1 h2; subst h1 h2; simp [parse, cpy]
  | .succ m a, (k, n, v), _, @RL.mk _ _ _ _ xs ls hR hl hk, ⟨h1, h2, y, h3, h4⟩ => by
    simp only at h1 h2 h3; subst h1 h2
    obtain ⟨e1, e2⟩ := hR.inj h3
    obtain ⟨z, rfl⟩ : ∃ z, xs = [z] := List.length_eq_one_iff.1 e1
    obtain ⟨l, rfl⟩ : ∃ l, ls = [l] := List.length_eq_one_iff.1 (hl ▸ e1)
    have e3 : z = y := lc_inj (by simpa using e2)
    subst e3
    have := parse_cpy (A := A) (hk 0 z l rfl rfl) h4
    simp [parse, parses, cpy, cpys, this]
  | .mx a b, (k, n, v), _, @RL.mk _ _ _ _ xs ls hR hl hk, ⟨h1, y, z, h3, h4, h5⟩ => by
    simp only at h1 h3; subst h1
    obtain ⟨e1, e2⟩ := hR.inj h3
    obtain ⟨y', z', rfl⟩ := len2 e1
    obtain ⟨la, lb, rfl⟩ := len2 (hl ▸ e1)
    have e2 : lc y' ++ lc z' = lc y ++ lc z := by simpa using e2
    obtain ⟨e3, e4⟩ := List.append_inj e2 rfl
    have e3 := lc_inj e3
    have e4 := lc_inj e4
    subst e3 e4
    have h6 := parse_cpy (A := A) (hk 0 y' la rfl rfl) h4
    have h7 := parse_cpy (A := A) (hk 1 z' lb rfl rfl) h5
    simp [parse, parses, cpy, cpys, h6, h7]
theorem slO_cpy {W : World} {x : C3} {l : Lv} (hL : RL W x l) : slO (cpy l) = slO l := by
  by_cases h : sndL l
  · obtain ⟨s, h1, h2⟩ := sound_sl hL h
    rw [slO_of hL h1 h2]
    unfold slO
    rw [if_pos ((snd_cpy l).2 h), parse_cpy (A := fun _ => True) hL h1]
  · unfold slO
    rw [if_neg h, if_neg (fun h' => h ((snd_cpy l).1 h'))]

/-! ### Terms -/
inductive PT where
  | var (n : Int)
  | sort (o : Option SL)
  | cst (s : ByteArray) (os : List (Option SL))
  | odd (k : Int)
  | two (k : Int) (a b : PT)
  | lt (a b c : PT)
def CT.ess : CT → PT
  | .var n _ => .var n
  | .sort l _ => .sort (slO l)
  | .cst s ls _ => .cst s (ls.map slO)
  | .odd k _ => .odd k
  | .two k a b _ => .two k a.ess b.ess
  | .lt a b c _ => .lt a.ess b.ess c.ess
def PT.size : PT → Nat
  | .two _ a b => a.size + b.size + 1
  | .lt a b c => a.size + b.size + c.size + 1
  | _ => 1
def PT.dep : PT → Nat
  | .two _ a b => max a.dep b.dep + 1
  | .lt a b c => max a.dep (max b.dep c.dep) + 1
  | _ => 1
def PT.kids : PT → List PT
  | .two _ a b => [a, b]
  | .lt a b c => [a, b, c]
  | _ => []
theorem CT.ess_size : ∀ c : CT, c.ess.size = c.size
  | .two _ a b _ => by simp [CT.ess, PT.size, CT.size, a.ess_size, b.ess_size]
  | .lt a b c _ => by simp [CT.ess, PT.size, CT.size, a.ess_size, b.ess_size, c.ess_size]
  | .var .. => rfl
  | .sort .. => rfl
  | .cst .. => rfl
  | .odd .. => rfl
theorem CT.ess_dep : ∀ c : CT, c.ess.dep = c.dep
  | .two _ a b _ => by simp [CT.ess, PT.dep, CT.dep, a.ess_dep, b.ess_dep]
  | .lt a b c _ => by simp [CT.ess, PT.dep, CT.dep, a.ess_dep, b.ess_dep, c.ess_dep]
  | .var .. => rfl
  | .sort .. => rfl
  | .cst .. => rfl
  | .odd .. => rfl
/-- x reads as a term that says p. -/
def RE (W : World) (A : Nat → Prop) (p : PT) (x : C8) : Prop := ∃ c, RC W A c x ∧ c.ess = p
section
variable {W W' : World} {A B : Nat → Prop} {p : PT} {x : C8}
theorem RE.keep (hs : W.heap.size ≤ W'.heap.size) (hk : ∀ k, A k → k < W.heap.size → W'.heap[k]? = W.heap[k]?) (h : RE W A p x) : RE W' A p x := let ⟨c, h1, h2⟩ := h; ⟨c, h1.keep hs hk, h2⟩
theorem RE.mono (hAB : ∀ k, A k → B k) (h : RE W A p x) : RE W B p x := let ⟨c, h1, h2⟩ := h; ⟨c, h1.mono hAB, h2⟩
theorem RE.below (h : RE W A p x) (hB : Below W.heap.size W W') : RE W' A p x := h.keep hB.size (fun k _ hk => hB.block k hk)
theorem RE.only {b : Nat} (h : RE W A p x) (o : Only b W W') (hb : ¬ A b) : RE W' A p x := h.keep (Nat.le_of_eq o.size.symm) (fun k ha _ => o.block k (fun e => hb (e ▸ ha)))
theorem RE.k2 {a b : Nat} (h : RE W A p x) (hK : Ktw a b W W') (ha : ¬ A a) (hb : ¬ A b) : RE W' A p x := h.keep hK.size (fun k hA hk => hK.block k hk ⟨fun e => ha (e ▸ hA), fun e => hb (e ▸ hA)⟩)
theorem RE.one (h : RE W A p x) : ∀ u ∈ tc x, u.oneCell' = true := let ⟨_, h1, _⟩ := h; h1.one
theorem RC.re {c : CT} (h : RC W A c x) : RE W A c.ess x := ⟨c, h, rfl⟩
end

/-! ### Folds -/
section
variable {α : Type}
def CT.fold (G : CT → Int → List α → α) : CT → Int → α
  | .two k a b m, d => G (.two k a b m) d [a.fold G (d + (CT.two k a b m).bnd 0), b.fold G (d + (CT.two k a b m).bnd 1)]
  | .lt a b c m, d => G (.lt a b c m) d [a.fold G (d + (CT.lt a b c m).bnd 0), b.fold G (d + (CT.lt a b c m).bnd 1), c.fold G (d + (CT.lt a b c m).bnd 2)]
  | .var n m, d => G (.var n m) d []
  | .sort l m, d => G (.sort l m) d []
  | .cst s ls m, d => G (.cst s ls m) d []
  | .odd k m, d => G (.odd k m) d []
/-- What is made of the kids. -/
def CT.folds (G : CT → Int → List α → α) (c : CT) (d : Int) : List α := c.kids.mapIdx fun i k => k.fold G (d + c.bnd i)
theorem CT.fold_eq (G : CT → Int → List α → α) (c : CT) (d : Int) : c.fold G d = G c d (c.folds G d) := by
  cases c <;> simp [CT.fold, CT.folds, CT.kids, List.mapIdx_cons]
theorem CT.folds_len (G : CT → Int → List α → α) (c : CT) (d : Int) : (c.folds G d).length = c.kids.length := by simp [CT.folds]
theorem CT.folds_get (G : CT → Int → List α → α) {c k : CT} {d : Int} {i : Nat} (h : c.kids[i]? = some k) : (c.folds G d)[i]? = some (k.fold G (d + c.bnd i)) := by
  simp [CT.folds, h]
end
end Go.Proofs.Ytaclncmkdpjnlaa

namespace Go.Proofs.Ytaclncmkdpjnlaa
open Go.RowKit Go.Shelf
set_option linter.unusedVariables false
set_option linter.unusedSimpArgs false
section
variable {P : Program} {n d : Nat} {l : List (Nat × Value)} {w : World} {a : Act} {ops : Array Oper} {Q : Exit → Act → World → Prop} {rest : List Oper} {ty : TypeId} {pos : String} {af : Array Edge} {x y : Operand}
/-- A slice is made. -/
theorem s_mkG {ds : List Deferred} {t e k kb : Nat} {kl kc : IntKind} {p q : Int} (m : Nat) (hE : Elem P t e k kb) (hF : Fs n a l (ds := ds)) (hd : d < n) (hx : ov l x = some (.int kl p)) (hy : ov l y = some (.int kc q)) (hb : kb * m ≤ 281474976710656) (hm : m < 9223372036854775808) (hp : p = (m : Int)) (hq : q = (m : Int))
    (h : ∀ w' b a' cs, b = w.heap.size → cs.length = m * k → Blk w' b e cs → Below w.heap.size w w' → w'.heap.size = w.heap.size + 1 → Fs n a' ((d, .slice (some ⟨b, 0, none⟩) m m) :: l) (ds := ds) → wpList P ops Q rest a' w') :
    wpList P ops Q (⟨some d, .makeSlice t x y, ty, pos, af, none⟩ :: rest) a w := by
  obtain ⟨i, z, hi, hz, hs, hby, hzc⟩ := hE.info
  subst hp hq
  have hb' : (i.bytes : Int) * (m : Int) ≤ 281474976710656 := by
    have h : ((i.bytes * m : Nat) : Int) ≤ 281474976710656 := by rw [hby]; omega
    rwa [Int.natCast_mul] at h
  have hr := run_make (P := P) w t e i z hE.under hi hz kl kc m m (by omega) (by omega) hb' (by omega)
  simp only [Int.toNat_natCast] at hr
  refine s_new (w' := w.alloc (Obj.cells (madeCells z.cells (m * i.size)) e)) (v := .slice (some ⟨w.heap.size, 0, none⟩) m m) hF (fun o ho => by simp [execOp, ho, hF.ov hx, hF.ov hy, hr]) hd fun a' hF' => h _ _ a' (madeCells z.cells (m * i.size)).toList rfl ?_ ?_ (below_alloc _) (size_alloc _) hF'
  · rw [Array.length_toList, size_madeCells, hs]
  · have := blk_alloc (w := w) e (madeCells z.cells (m * i.size)).toList
    rwa [Array.toArray_toList] at this
end
theorem take_put {α : Type} {cs vs : List α} {o : Nat} (h : o ≤ cs.length) : (cs.take o ++ vs ++ cs.drop (o + vs.length)).take (o + vs.length) = cs.take o ++ vs := by
  rw [List.take_append_of_le_length (by simp; omega), List.take_of_length_le (by simp; omega)]
theorem put_len {α : Type} {cs vs : List α} {o : Nat} (h : o + vs.length ≤ cs.length) : (cs.take o ++ vs ++ cs.drop (o + vs.length)).length = cs.length := by
  simp; omega
section
variable {W : World} {A : Nat → Prop}
theorem RLn.valid {x : C3} {l : Lv} (h : RLn W A x l) : RLn W (fun k => A k ∧ k < W.heap.size) x l := by
  induction h with
  | mk hR hl hk ih => exact .mk hR.lt hl ih
theorem RVn.valid {v : Value} {ls : List Lv} : RVn W A v ls → RVn W (fun k => A k ∧ k < W.heap.size) v ls := fun ⟨xs, h1, h2, h3⟩ => ⟨xs, h1.lt, h2, fun i x l e1 e2 => (h3 i x l e1 e2).valid⟩
theorem Ok.valid {x : C8} : Ok W A x → Ok W (fun k => A k ∧ k < W.heap.size) x := fun ⟨⟨l, h1⟩, ls, h2⟩ => ⟨⟨l, h1.valid⟩, ls, h2.valid⟩
theorem RC.valid : ∀ {c : CT} {x : C8}, RC W A c x → RC W (fun k => A k ∧ k < W.heap.size) c x
  | .var .., x, ⟨h1, h2, h3, ⟨cs, h4⟩, h5⟩ => ⟨h1, h2, h3, ⟨cs, h4.lt⟩, h5.valid⟩
  | .sort .., x, ⟨h1, h2, ⟨cs, h4⟩, h5⟩ => ⟨h1, h2.valid, ⟨cs, h4.lt⟩, h5.valid⟩
  | .cst .., x, ⟨h1, h2, h3, ⟨cs, h4⟩, h5⟩ => ⟨h1, h2, h3.valid, ⟨cs, h4.lt⟩, h5.valid⟩
  | .odd .., x, ⟨h1, h2, ⟨cs, h4⟩, h5⟩ => ⟨h1, h2, ⟨cs, h4.lt⟩, h5.valid⟩
  | .two .., x, ⟨h1, h2, ⟨y, z, cs, h3, h4, h5⟩, h6⟩ => ⟨h1, h2, ⟨y, z, cs, h3.lt, RC.valid h4, RC.valid h5⟩, h6.valid⟩
  | .lt .., x, ⟨h1, ⟨y, z, u, cs, h3, h4, h5, h7⟩, h6⟩ => ⟨h1, ⟨y, z, u, cs, h3.lt, RC.valid h4, RC.valid h5, RC.valid h7⟩, h6.valid⟩
theorem RE.valid {p : PT} {x : C8} (h : RE W A p x) : RE W (fun k => A k ∧ k < W.heap.size) p x := let ⟨c, h1, h2⟩ := h; ⟨c, h1.valid, h2⟩
end
/-- What is left of a room. -/
def Room (W : World) (br : Nat) : Prop := ∃ r : Int, Blk W br 108 [.int .i64 r] ∧ 0 ≤ r ∧ r ≤ 2147483647
theorem Room.below {W W' : World} {br : Nat} (h : Room W br) (hB : Below W.heap.size W W') : Room W' br := let ⟨r, h1, h2⟩ := h; ⟨r, h1.old hB, h2⟩
theorem Room.only {W W' : World} {br b : Nat} (h : Room W br) (hO : Only b W W') (hb : br ≠ b) : Room W' br := let ⟨r, h1, h2⟩ := h; ⟨r, h1.only hO hb, h2⟩
theorem Room.lt {W : World} {br : Nat} (h : Room W br) : br < W.heap.size := let ⟨_, h1, _⟩ := h; h1.lt
/-- Where what is handed in lies, and what has come about since a block. -/
def Ar (lo br s : Nat) : Nat → Prop := fun k => k ≠ br ∧ (k < lo ∨ s ≤ k)
def Ai (lo br : Nat) : Nat → Prop := fun k => k ≠ br ∧ k < lo
theorem Ar.mono {lo br s s' : Nat} (h : s' ≤ s) : ∀ k, Ar lo br s k → Ar lo br s' k := fun k ⟨h1, h2⟩ => ⟨h1, by omega⟩
theorem Ai.ar {lo br s : Nat} : ∀ k, Ai lo br k → Ar lo br s k := fun k ⟨h1, h2⟩ => ⟨h1, .inl h2⟩
theorem Ar.nbr {lo br s : Nat} : ¬ Ar lo br s br := fun h => h.1 rfl
theorem Ai.nbr {lo br : Nat} : ¬ Ai lo br br := fun h => h.1 rfl
theorem Ar.no {lo br s b : Nat} (h : lo ≤ b ∧ b < s) : ¬ Ar lo br s b := fun h' => by have := h'.2; omega
theorem Ai.no {lo br b : Nat} (h : lo ≤ b) : ¬ Ai lo br b := fun h' => by have := h'.2; omega
/-- What was handed in, and what has come about since a block. -/
def AS (A : Nat → Prop) (s : Nat) : Nat → Prop := fun k => A k ∨ s ≤ k
theorem AS.mono {A : Nat → Prop} {s s' : Nat} (h : s' ≤ s) : ∀ k, AS A s k → AS A s' k := fun k hk => hk.elim .inl (fun h' => .inr (by omega))
/-- A slice of terms that say ps. -/
def RKE (W : World) (A : Nat → Prop) (v : Value) (ps : List PT) : Prop := ∃ xs : List C8, Rn W A v 8 xs.length (xs.flatMap tc) ∧ xs.length = ps.length ∧ ∀ (i : Nat) x p, xs[i]? = some x → ps[i]? = some p → RE W A p x
section
variable {W W' : World} {A B : Nat → Prop} {v : Value} {ps : List PT}
theorem RKE.keep (hs : W.heap.size ≤ W'.heap.size) (hk : ∀ k, A k → k < W.heap.size → W'.heap[k]? = W.heap[k]?) : RKE W A v ps → RKE W' A v ps :=
  fun ⟨xs, h1, h2, h3⟩ => ⟨xs, h1.keep hs hk, h2, fun i x c e1 e2 => (h3 i x c e1 e2).keep hs hk⟩
theorem RKE.mono (hAB : ∀ k, A k → B k) : RKE W A v ps → RKE W B v ps := fun ⟨xs, h1, h2, h3⟩ => ⟨xs, h1.mono hAB, h2, fun i x c e1 e2 => (h3 i x c e1 e2).mono hAB⟩
theorem RKE.below (h : RKE W A v ps) (hB : Below W.heap.size W W') : RKE W' A v ps := h.keep hB.size (fun k _ hk => hB.block k hk)
theorem RKE.only {b : Nat} (h : RKE W A v ps) (o : Only b W W') (hb : ¬ A b) : RKE W' A v ps := h.keep (Nat.le_of_eq o.size.symm) (fun k ha _ => o.block k (fun e => hb (e ▸ ha)))
theorem RKE.k2 {a b : Nat} (h : RKE W A v ps) (hK : Ktw a b W W') (ha : ¬ A a) (hb : ¬ A b) : RKE W' A v ps := h.keep hK.size (fun k hA hk => hK.block k hk ⟨fun e => ha (e ▸ hA), fun e => hb (e ▸ hA)⟩)
theorem RKE.nil (W : World) (A : Nat → Prop) : RKE W A nilS [] := ⟨[], Rn.nil W A 8, rfl, fun i x c h => by simp at h⟩
theorem RKE.form (h : RKE W A v ps) : ∃ a c, v = .slice a ps.length c ∧ ps.length ≤ c ∧ (a = none → c = 0) := by
  obtain ⟨xs, h1, h2, _⟩ := h
  rw [← h2]
  exact h1.1.form
theorem RKE.one (h : RKE W A v ps) : v.oneCell' = true := by
  obtain ⟨a, c, rfl, _⟩ := h.form
  rfl
/-- Exact ones that say so. -/
theorem RKE.ck (h : RKE W A v ps) : ∃ cs, RK W A v cs ∧ cs.map CT.ess = ps := by
  obtain ⟨xs, h1, h2, h3⟩ := h
  have : ∀ i : Nat, ∃ c : CT, ∀ x p, xs[i]? = some x → ps[i]? = some p → RC W A c x ∧ c.ess = p := by
    intro i
    by_cases hi : i < xs.length
    · obtain ⟨c, hc⟩ := h3 i xs[i] (ps[i]'(by omega)) (List.getElem?_eq_getElem hi) (List.getElem?_eq_getElem (by omega))
      refine ⟨c, fun x p e1 e2 => ?_⟩
      rw [List.getElem?_eq_getElem hi] at e1
      rw [List.getElem?_eq_getElem (by omega)] at e2
      cases e1; cases e2
      exact hc
    · exact ⟨.odd 0 0, fun x p e1 => by rw [List.getElem?_eq_none (by omega)] at e1; cases e1⟩
  obtain ⟨f, hf⟩ := Classical.axiomOfChoice this
  refine ⟨(List.range xs.length).map f, ⟨xs, h1, by simp, ?_⟩, ?_⟩
  · intro i x c e1 e2
    have hi := (List.getElem?_eq_some_iff.1 e1).1
    rw [List.getElem?_map, List.getElem?_range hi] at e2
    cases e2
    exact (hf i x (ps[i]'(by omega)) e1 (List.getElem?_eq_getElem (by omega))).1
  · apply List.ext_getElem?
    intro i
    by_cases hi : i < xs.length
    · rw [List.getElem?_map, List.getElem?_map, List.getElem?_range hi, List.getElem?_eq_getElem (by omega : i < ps.length)]
      exact congrArg some (hf i xs[i] (ps[i]'(by omega)) (List.getElem?_eq_getElem hi) (List.getElem?_eq_getElem (by omega))).2
    · rw [List.getElem?_eq_none (by simp; omega), List.getElem?_eq_none (by omega)]
end
/-- The first of the cells read as terms that say ps. -/
def MkT (W : World) (A : Nat → Prop) (cs : List Value) (ps : List PT) : Prop := ∃ ys : List C8, cs.take (ps.length * 8) = ys.flatMap tc ∧ ys.length = ps.length ∧ ∀ (j : Nat) y p, ys[j]? = some y → ps[j]? = some p → RE W A p y
section
variable {W W' : World} {A B : Nat → Prop} {cs : List Value} {ps : List PT}
theorem MkT.start (W : World) (A : Nat → Prop) (cs : List Value) : MkT W A cs [] := ⟨[], by simp, rfl, fun j y p h => by simp at h⟩
theorem MkT.valid : MkT W A cs ps → MkT W (fun k => A k ∧ k < W.heap.size) cs ps := fun ⟨xs, h1, h2, h3⟩ => ⟨xs, h1, h2, fun i x c e1 e2 => (h3 i x c e1 e2).valid⟩
theorem MkT.mono (hAB : ∀ k, A k → B k) : MkT W A cs ps → MkT W B cs ps := fun ⟨xs, h1, h2, h3⟩ => ⟨xs, h1, h2, fun i x c e1 e2 => (h3 i x c e1 e2).mono hAB⟩
theorem MkT.keep (hs : W.heap.size ≤ W'.heap.size) (hk : ∀ k, A k → k < W.heap.size → W'.heap[k]? = W.heap[k]?) : MkT W A cs ps → MkT W' A cs ps :=
  fun ⟨xs, h1, h2, h3⟩ => ⟨xs, h1, h2, fun i x c e1 e2 => (h3 i x c e1 e2).keep hs hk⟩
theorem MkT.below (h : MkT W A cs ps) (hB : Below W.heap.size W W') : MkT W' A cs ps := h.keep hB.size (fun k _ hk => hB.block k hk)
theorem MkT.only {b : Nat} (h : MkT W A cs ps) (o : Only b W W') (hb : ¬ A b) : MkT W' A cs ps := h.keep (Nat.le_of_eq o.size.symm) (fun k ha _ => o.block k (fun e => hb (e ▸ ha)))
theorem MkT.k2 {a b : Nat} (h : MkT W A cs ps) (hK : Ktw a b W W') (ha : ¬ A a) (hb : ¬ A b) : MkT W' A cs ps := h.keep hK.size (fun k hA hk => hK.block k hk ⟨fun e => ha (e ▸ hA), fun e => hb (e ▸ hA)⟩)
theorem MkT.snoc {p : PT} {y : C8} {o : Nat} (h : MkT W A cs ps) (hy : RE W A p y) (ho : o = ps.length * 8) (hl : ps.length * 8 + 8 ≤ cs.length) : MkT W A (cs.take o ++ tc y ++ cs.drop (o + (tc y).length)) (ps ++ [p]) := by
  subst ho
  obtain ⟨ys, h1, h2, h3⟩ := h
  refine ⟨ys ++ [y], ?_, by simp [h2], fun j z q e1 e2 => ?_⟩
  · rw [show (ps ++ [p]).length * 8 = ps.length * 8 + (tc y).length by simp [tc]; omega, take_put (by omega), h1]
    simp
  · rcases Nat.lt_trichotomy j ys.length with hj | hj | hj
    · rw [List.getElem?_append_left hj] at e1
      rw [List.getElem?_append_left (by omega)] at e2
      exact h3 j z q e1 e2
    · subst hj
      rw [List.getElem?_append_right (Nat.le_refl _)] at e1
      rw [h2, List.getElem?_append_right (Nat.le_refl _)] at e2
      simp at e1 e2
      subst e1 e2
      exact hy
    · rw [List.getElem?_eq_none (by simp; omega)] at e1
      cases e1
theorem MkT.rke {b n : Nat} (h : MkT W A cs ps) (hB : Blk W b 27 cs) (hl : cs.length = ps.length * 8) (hAB : ∀ k, A k → B k) (hb : B b) (hn : n = ps.length) : RKE W B (.slice (some ⟨b, 0, none⟩) n n) ps := by
  subst hn
  obtain ⟨ys, h1, h2, h3⟩ := h
  refine ⟨ys, ⟨?_, fun _ k hk => ?_⟩, h2, fun j y p e1 e2 => (h3 j y p e1 e2).mono hAB⟩
  · rw [List.take_of_length_le (by omega)] at h1
    rw [← h1, h2]
    exact Rd.blk hB hl
  · simp [Value.ownBlock] at hk
    subst hk
    exact hb
end
end Go.Proofs.Ytaclncmkdpjnlaa

namespace Go.Proofs.Ytaclncmkdpjnlaa
open Go.RowKit Go.Shelf
set_option linter.unusedVariables false
set_option linter.unusedSimpArgs false

/-- Its kids' list holds just so many. -/
def Tn (n : Nat) (y : C8) : Prop := ∃ a cp, y.ts = .slice a n cp
def Tt (c : CT) (y : C8) : Prop := 0 < c.kids.length → Tn c.kids.length y
theorem tt_var {n : Int} {m : Nat} {y : C8} : Tt (.var n m) y := fun h => by simp [CT.kids] at h
theorem tt_of {W : World} {A : Nat → Prop} {c : CT} {y : C8} {kv : Value} {ps : List PT} (hl : ps.length = c.kids.length) (h : RKE W A kv ps) (hy : y.ts = kv) : Tt c y := fun _ => by
  obtain ⟨a, cp, he, _⟩ := h.form
  exact ⟨a, cp, by rw [hy, he, hl]⟩
theorem take_snoc {α : Type} {l : List α} {i : Nat} {p : α} (h : l[i]? = some p) : l.take (i + 1) = l.take i ++ [p] := by
  rw [List.take_add_one, h]; rfl

set_option maxRecDepth 100000 in
set_option maxHeartbeats 400000 in
theorem fold88 (wl : World) (br : Nat) (hbr : br < wl.heap.size) (A : Nat → Prop) (hA : ∀ k, A k → k ≠ br ∧ k < wl.heap.size) (g : FuncId) (lb : List Value) (hg : Enters Try.prog g) (D : Int) (hD : D ≤ 4611686018427387904) (G : CT → Int → List PT → PT)
    (HJ : ∀ (W : World) (c : CT) (x : C8) (d : Int) (kv : Value) (ps : List PT) (s : Nat), Ktw br br wl W → Room W br → RC wl A c x → 0 ≤ d → d ≤ D → wl.heap.size ≤ s → s ≤ W.heap.size → RKE W (AS A s) kv ps → ps.length = c.kids.length →
      Calls Try.prog g ([tv x, .int .i64 d, kv] ++ lb).toArray W fun e w' => ∃ v, e = .returned v ∧ ((∃ y, v = tv y ∧ RE w' (AS A s) (G c d ps) y ∧ Tt c y) ∧ Room w' br) ∧ Ktw br br W w') :
    ∀ (N : Nat) (c : CT) (x : C8) (d : Int) (W : World), c.size < N → RC wl A c x → 0 ≤ d → d + c.dep ≤ D → Ktw br br wl W → Room W br →
      Calls Try.prog 69 #[tv x, .int .i64 d, .func (.func g) #[] lb.toArray] W fun e w' => ∃ v, e = .returned v ∧ ((∃ y, v = tv y ∧ RE w' (AS A W.heap.size) (c.fold G d) y ∧ Tt c y) ∧ Room w' br) ∧ Ktw br br W w' := by
  intro N
  induction N with
  | zero => intro c x d W h; omega
  | succ N ih =>
  intro c x d W hN hx hd0 hdD hK hR
  have h3 := c.kids_le
  have hdp := c.dep_pos
  have hQ := Ktw.refl br br W
  have sQ := hQ.size
  have sK := hK.size
  refine calls_fs 43 [(0, tv x), (1, .int .i64 d), (2, .func (.func g) #[] lb.toArray)] Try.func69 rfl rfl rfl rfl rfl fun a hF => ?_
  refine wp_rs fun K1 hK1 => ?_
  refine s_box (tc x) hF (by decide) rfl rfl fun w2 b3 a eb3 m3 B3 zb3 hF => ?_
  have sB3 := B3.size
  have hK := hK.below B3
  have hQ := hQ.below B3
  have hR := hR.below B3
  refine s_alloc hF (by decide) zero27 fun w4 b6 a eb6 m6 B5 zb6 hF => ?_
  have sB5 := B5.size
  have hK := hK.below B5
  have hQ := hQ.below B5
  have m3 := m3.old B5
  have hR := hR.below B5
  refine s_end (hK1 _ _ ?_)
  refine wp_rs fun K2 hK2 => ?_
  refine s_val hF (x_assign rfl) (by decide) fun a hF => ?_
  refine s_end (hK2 _ _ ?_)
  refine wp_seq_k fun K3 hK3 => ?_
  refine wp_rs fun K4 hK4 => ?_
  refine s_val hF (x_ldW wide27 m3 rfl rfl) (by decide) fun a hF => ?_
  refine s_callR (R := fun v w' => RK wl A v c.kids) [_] hF (enters_of Try.func89 (by kernel_rfl) rfl) rfl (by decide) (kidsOf101 c x A wl w4 hx) ?_
  rintro v12 w6 a hv12 B7 hF
  have sB7 := B7.size
  have hK := hK.below B7
  have hQ := hQ.below B7
  have m3 := m3.old B7
  have m6 := m6.old B7
  have hR := hR.below B7
  obtain ⟨a12, c12, hve, _⟩ := hv12.form
  subst hve
  refine s_val hF (x_assign rfl) (by decide) fun a hF => ?_
  refine s_end (hK4 _ _ ?_)
  rcases (show 0 < c.kids.length ∨ c.kids.length = 0 by omega) with hk | hk
  · skip
    refine wp_rs fun K6 hK6 => ?_
    refine s_val hF (x_move rfl) (by decide) fun a hF => ?_
    refine s_val hF (x_len Try.underlying25 rfl) (by decide) fun a hF => ?_
    refine s_val hF (x_gtr (b := true) (decide_eq_true (by omega)) rfl rfl) (by decide) fun a hF => ?_
    refine s_end (hK6 _ _ ?_)
    refine wp_if hF rfl ?_
    refine wp_rs fun K7 hK7 => ?_
    refine s_val hF (x_move rfl) (by decide) fun a hF => ?_
    refine s_val hF (x_len Try.underlying25 rfl) (by decide) fun a hF => ?_
    refine s_mkG c.kids.length el25 hF (by decide) rfl rfl (by omega) (by omega) rfl rfl fun w18 bm a cs18 eb18 hl18 mm B18 z18 hF => ?_
    have sB18 := B18.size
    have hK := hK.below B18
    have hQ := hQ.below B18
    have m3 := m3.old B18
    have m6 := m6.old B18
    have hR := hR.below B18
    refine s_val hF (x_assign rfl) (by decide) fun a hF => ?_
    refine s_end (hK7 _ _ ?_)
    refine wp_rs fun K8 hK8 => ?_
    refine s_val hF (x_move rfl) (by decide) fun a hF => ?_
    refine s_val hF (x_len Try.underlying25 rfl) (by decide) fun a hF => ?_
    refine s_val hF (x_move rfl) (by decide) fun a hF => ?_
    refine s_end (hK8 _ _ ?_)
    refine wp_block ?_
    refine wp_up c.kids.length (fun i a w => ∃ cs, cs.length = c.kids.length * 8 ∧ Blk w bm 27 cs ∧ MkT w (AS A (bm + 1)) cs ((c.folds G d).take i) ∧ Room w br ∧ Blk w b3 27 (tc x) ∧ Blk w b6 27 z8 ∧ Ktw br br wl w ∧ Ktw br br W w ∧ Fs 43 a [(1, .int .i64 d), (2, .func (.func g) #[] lb.toArray), (3, .pointer (some ⟨b3, 0, none⟩)), (6, .pointer (some ⟨b6, 0, none⟩)), (7, .slice (some ⟨bm, 0, none⟩) c.kids.length c.kids.length), (19, .slice a12 c.kids.length c12), (20, .int .i64 (c.kids.length : Int)), (21, .int .i64 (i : Int))]) ⟨cs18, hl18, mm, by rw [List.take_zero]; exact MkT.start _ _ _, hR, m3, m6, hK, hQ, hF.sub _ rfl⟩ ?_
    clear hF hR mm m3 m6 hK hQ
    rintro i a w hi ⟨cs, hl, mm, hM, hR, m3, m6, hK, hQ, hF⟩ K' hK'
    have sK := hK.size
    have sQ := hQ.size
    have hbmw := mm.lt
    have hb3w := m3.lt
    have hb6w := m6.lt
    have hM := hM.valid
    refine wp_rs fun K9 hK9 => ?_
    refine s_val hF (x_lss (b := decide (i < c.kids.length)) (decide_eq_decide.2 (by omega)) rfl rfl) (by decide) fun a hF => ?_
    refine s_end (hK9 _ _ ?_)
    refine wp_seq_k fun K10 hK10 => ?_
    refine wp_iff hF rfl (fun hc22 => ?_) (fun hc22 => ?_)
    · obtain ⟨b9, off9, c9, y, kd, hve, hyk, hry, hAb, hbl, hrow⟩ := hv12.row (i := i) (by omega)
      cases hve
      have hks := CT.kid_size hyk
      have hbd := c.bnd_is i
      have htk := take_snoc (CT.folds_get G (d := d) hyk)
      have hti : ((c.folds G d).take i).length = i := by rw [List.length_take, CT.folds_len]; omega
      refine wp_skip (hK10 _ _ ?_)
      refine wp_seq_k fun K11 hK11 => ?_
      refine wp_block ?_
      refine wp_rs fun K12 hK12 => ?_
      refine s_val hF (x_move rfl) (by decide) fun a hF => ?_
      refine s_val hF (x_ixa rfl rfl (m_ixsK i Try.underlying25 el25.size rfl (by omega))) (by decide) fun a hF => ?_
      refine s_val hF (x_ldA wide27 (hrow _ (hK.block _ hbl ⟨(hA _ hAb).1, (hA _ hAb).1⟩)) rfl rfl) (by decide) fun a hF => ?_
      refine s_alloc hF (by decide) zero27 fun w8 b10 a eb10 m10 B9 zb10 hF => ?_
      have sB9 := B9.size
      have hK := hK.below B9
      have hQ := hQ.below B9
      have mm := mm.old B9
      have m3 := m3.old B9
      have m6 := m6.old B9
      have hR := hR.below B9
      have hM := hM.below B9
      refine s_val hF (x_assign rfl) (by decide) fun a hF => ?_
      refine s_putW hF rfl rfl (size_wide wide27) m10 rfl hry.one fun w12 m10 o13 => ?_
      have so13 := o13.size
      have hK := hK.only o13 (by omega)
      have hQ := hQ.only o13 (by omega)
      have mm := mm.only o13 (by omega)
      have m3 := m3.only o13 (by omega)
      have m6 := m6.only o13 (by omega)
      have hR := hR.only o13 (by omega)
      have hM := hM.only o13 (by first | (intro h; have h2 := h.2; omega) | (intro h; rcases h.1 with h1 | h1; (have := hA _ h1; omega); (have := h.2; omega)) | (intro h; rcases h.1 with h1 | h1; (have := h1.2; omega); (have := h.2; omega)) | (intro h; rcases h.1 with h1 | h1; (exact hAS _ h1.1 rfl); (have := h.2; omega)) | (intro h; rcases h with h | h; (have := hA _ h; omega); omega) | (intro h; have := hA _ h; omega) | (intro h; rcases h with h | h; (have := h.2; omega); omega) | exact Ar.nbr | exact Ai.nbr | exact Ar.no (by omega) | exact Ai.no (by omega))
      refine s_end (hK12 _ _ ?_)
      refine dk2_one (br) (bm) (ops := regOps Try.f69 8) (N := 12) (by kernel_rfl) wide_orders (by kernel_rfl) fun w14 hw14 B15 hS K13 hK13 => ?_
      have zw14 : w14.heap.size = w12.heap.size := by rw [hw14]
      have sB15 := B15.size
      have hK := hK.below B15
      have hQ := hQ.below B15
      have mm := mm.old B15
      have m3 := m3.old B15
      have m6 := m6.old B15
      have m10 := m10.old B15
      have hR := hR.below B15
      have hM := hM.below B15
      have hR_d := hR
      have mm_d := mm
      have m3_d := m3
      have m6_d := m6
      have hM_d := hM
      have m10_d := m10
      have hK_d := hK
      have hQ_d := hQ
      refine d_val 0 26 (op := (Go.Op.move (Go.Operand.tmp 7))) hF hS (by kernel_rfl) (fun W hW => x_move rfl) (by kernel_rfl) (by decide) fun a hF => ?_
      refine d_val 1 27 (op := (Go.Op.move (Go.Operand.tmp 9))) hF hS (by kernel_rfl) (fun W hW => x_move rfl) (by kernel_rfl) (by decide) fun a hF => ?_
      refine d_val 2 28 (op := (Go.Op.load 27 (Go.Operand.tmp 10))) hF hS (by kernel_rfl) (fun W hW => x_ldW wide27 (m10_d.k2 hW (by omega)) rfl rfl) (by kernel_rfl) (by decide) fun a hF => ?_
      refine d_val 3 29 (op := (Go.Op.move (Go.Operand.tmp 1))) hF hS (by kernel_rfl) (fun W hW => x_move rfl) (by kernel_rfl) (by decide) fun a hF => ?_
      refine d_val 4 30 (op := (Go.Op.load 27 (Go.Operand.tmp 3))) hF hS (by kernel_rfl) (fun W hW => x_ldW wide27 (m3_d.k2 hW (by omega)) rfl rfl) (by kernel_rfl) (by decide) fun a hF => ?_
      refine d_val 5 31 (op := (Go.Op.move (Go.Operand.tmp 9))) hF hS (by kernel_rfl) (fun W hW => x_move rfl) (by kernel_rfl) (by decide) fun a hF => ?_
      refine d_val 8 34 (op := (Go.Op.move (Go.Operand.tmp 2))) hF hS (by kernel_rfl) (fun W hW => x_move rfl) (by kernel_rfl) (by decide) fun a hF => ?_
      refine d_one 6 (some 32) (Go.Op.call (Go.Call.mk (Go.Callee.value (Go.Operand.func 107)) #[(Go.Operand.tmp 30), (Go.Operand.tmp 31)] #[27, 3])) (by kernel_rfl) (by kernel_rfl) fun ty pos af => ?_
      refine s_callB [_, _] hF (enters_of Try.func107 (by kernel_rfl) rfl) rfl (by decide) (binds112 c x A i wl w14 hx (by omega)) fun w16 a B17 hF => ?_
      have sB17 := B17.size
      have hK := hK.below B17
      have hQ := hQ.below B17
      have mm := mm.old B17
      have m3 := m3.old B17
      have m6 := m6.old B17
      have m10 := m10.old B17
      have hS := hS.below B17
      have hR := hR.below B17
      have hM := hM.below B17
      refine s_end ⟨hS, ?_⟩
      refine d_val 7 33 (op := (Go.Op.binOp Go.BinOp.add 3 (Go.Operand.tmp 29) (Go.Operand.tmp 32) 3)) hF hS (by kernel_rfl) (fun W hW => x_add (by omega) (by omega) rfl rfl) (by kernel_rfl) (by decide) fun a hF => ?_
      refine d_one 9 (some 35) (Go.Op.call (Go.Call.mk (Go.Callee.value (Go.Operand.func 69)) #[(Go.Operand.tmp 28), (Go.Operand.tmp 33), (Go.Operand.tmp 34)] #[27, 3, 89])) (by kernel_rfl) (by kernel_rfl) fun ty pos af => ?_
      refine s_call (R := fun u w' => ((∃ y, u = tv y ∧ RE w' (AS A w16.heap.size) (kd.fold G (d + c.bnd i)) y ∧ Tt kd y) ∧ Room w' br) ∧ Ktw br br w16 w') hF [_, _, _] (enters_of Try.func69 (by kernel_rfl) rfl) rfl (by decide) (ih kd y (d + c.bnd i) w16 (by omega) hry (by omega) (by omega) hK hR) ?_
      rintro _ w18 a ⟨⟨⟨z35, rfl, hz35, _⟩, hR⟩, k19⟩ hF
      have sk19 := k19.size
      have hK := hK.trans k19 (by omega)
      have hQ := hQ.trans k19 (by omega)
      have mm := mm.k2 k19 (by omega)
      have m3 := m3.k2 k19 (by omega)
      have m6 := m6.k2 k19 (by omega)
      have m10 := m10.k2 k19 (by omega)
      have hS := hS.trans k19 (by omega)
      have hM := hM.k2 k19 (by first | (intro h; have h2 := h.2; omega) | (intro h; rcases h.1 with h1 | h1; (have := hA _ h1; omega); (have := h.2; omega)) | (intro h; rcases h.1 with h1 | h1; (have := h1.2; omega); (have := h.2; omega)) | (intro h; rcases h.1 with h1 | h1; (exact hAS _ h1.1 rfl); (have := h.2; omega)) | (intro h; rcases h with h | h; (have := hA _ h; omega); omega) | (intro h; have := hA _ h; omega) | (intro h; rcases h with h | h; (have := h.2; omega); omega) | exact Ar.nbr | exact Ai.nbr | exact Ar.no (by omega) | exact Ai.no (by omega)) (by first | (intro h; have h2 := h.2; omega) | (intro h; rcases h.1 with h1 | h1; (have := hA _ h1; omega); (have := h.2; omega)) | (intro h; rcases h.1 with h1 | h1; (have := h1.2; omega); (have := h.2; omega)) | (intro h; rcases h.1 with h1 | h1; (exact hAS _ h1.1 rfl); (have := h.2; omega)) | (intro h; rcases h with h | h; (have := hA _ h; omega); omega) | (intro h; have := hA _ h; omega) | (intro h; rcases h with h | h; (have := h.2; omega); omega) | exact Ar.nbr | exact Ai.nbr | exact Ar.no (by omega) | exact Ai.no (by omega))
      have hz35 := hz35.mono (AS.mono (s' := bm + 1) (by omega))
      refine s_end ⟨hS, ?_⟩
      refine d_val 10 36 (op := (Go.Op.indexAddr 25 (Go.Operand.tmp 26) (Go.Operand.tmp 27))) hF hS (by kernel_rfl) (fun W hW => x_ixa rfl rfl (m_ixsK i Try.underlying25 el25.size rfl (by omega))) (by kernel_rfl) (by decide) fun a hF => ?_
      refine d_one 11 none (Go.Op.store 27 (Go.Operand.tmp 36) (Go.Operand.tmp 35)) (by kernel_rfl) (by kernel_rfl) fun ty pos af => ?_
      refine s_putP hF rfl rfl (size_wide wide27) mm (by rw [hl]; simp only [tc_len]; omega) hz35.one fun w40 mm o40 => ?_
      have so40 := o40.size
      have hK := hK.only o40 (by omega)
      have hQ := hQ.only o40 (by omega)
      have m3 := m3.only o40 (by omega)
      have m6 := m6.only o40 (by omega)
      have m10 := m10.only o40 (by omega)
      have hS := hS.only o40 (by omega)
      have hR := hR.only o40 (by omega)
      have hM := hM.only o40 (by first | (intro h; have h2 := h.2; omega) | (intro h; rcases h.1 with h1 | h1; (have := hA _ h1; omega); (have := h.2; omega)) | (intro h; rcases h.1 with h1 | h1; (have := h1.2; omega); (have := h.2; omega)) | (intro h; rcases h.1 with h1 | h1; (exact hAS _ h1.1 rfl); (have := h.2; omega)) | (intro h; rcases h with h | h; (have := hA _ h; omega); omega) | (intro h; have := hA _ h; omega) | (intro h; rcases h with h | h; (have := h.2; omega); omega) | exact Ar.nbr | exact Ai.nbr | exact Ar.no (by omega) | exact Ai.no (by omega))
      have hz35 := hz35.only o40 (by first | (intro h; have h2 := h.2; omega) | (intro h; rcases h.1 with h1 | h1; (have := hA _ h1; omega); (have := h.2; omega)) | (intro h; rcases h.1 with h1 | h1; (have := h1.2; omega); (have := h.2; omega)) | (intro h; rcases h.1 with h1 | h1; (exact hAS _ h1.1 rfl); (have := h.2; omega)) | (intro h; rcases h with h | h; (have := hA _ h; omega); omega) | (intro h; have := hA _ h; omega) | (intro h; rcases h with h | h; (have := h.2; omega); omega) | exact Ar.nbr | exact Ai.nbr | exact Ar.no (by omega) | exact Ai.no (by omega))
      refine s_end ⟨hS, ?_⟩
      refine d_end (by kernel_rfl) (hK13 _ _ ?_)
      refine hK11 _ _ ?_
      refine wp_region_lit ?_
      refine s_val hF (x_add (by omega) (by omega) rfl rfl) (by decide) fun a hF => ?_
      refine s_val hF (x_move rfl) (by decide) fun a hF => ?_
      refine s_end (hK' _ _ (by omega) ⟨_, by rw [put_len (by rw [hl]; simp only [tc_len]; omega), hl], mm, by rw [htk]; exact (hM.mono fun k h => h.1).snoc hz35 (by rw [hti]; omega) (by rw [hti, hl]; omega), hR, m3, m6, hK, hQ, hF.sub _ rfl⟩)
    · obtain rfl : i = c.kids.length := by omega
      rw [List.take_of_length_le (by rw [CT.folds_len]; exact Nat.le_refl _)] at hM
      have hkv : RKE w (AS A (b6 + 1)) _ (c.folds G d) := (hM.mono fun k h => h.1).rke mm (by rw [hl, CT.folds_len]) (AS.mono (by omega)) (.inr (by omega)) (CT.folds_len G c d).symm
      refine wp_exit (hK3 _ _ ?_)
      refine wp_rs fun K14 hK14 => ?_
      refine s_val hF (x_move rfl) (by decide) fun a hF => ?_
      refine s_val hF (x_ldW wide27 m3 rfl rfl) (by decide) fun a hF => ?_
      refine s_val hF (x_move rfl) (by decide) fun a hF => ?_
      refine s_val hF (x_move rfl) (by decide) fun a hF => ?_
      refine s_callC (R := fun v w' => ((∃ y, v = tv y ∧ RE w' (AS A (b6 + 1)) (G c d (c.folds G d)) y ∧ Tt c y) ∧ Room w' br) ∧ Ktw br br w w') hF [_, _, _] rfl hg rfl (by decide) (HJ _ c x d _ _ _ hK hR hx (by omega) (by omega) (by omega) (by omega) hkv (CT.folds_len G c d)) ?_
      rintro _ w42 a ⟨⟨⟨y42, rfl, hy42, hT42⟩, hR⟩, k42⟩ hF
      have sk42 := k42.size
      have hK := hK.trans k42 (by omega)
      have hQ := hQ.trans k42 (by omega)
      have mm := mm.k2 k42 (by omega)
      have m3 := m3.k2 k42 (by omega)
      have m6 := m6.k2 k42 (by omega)
      refine s_putW hF rfl rfl (size_wide wide27) m6 rfl hy42.one fun w22 m6 o23 => ?_
      have so23 := o23.size
      have hK := hK.only o23 (by omega)
      have hQ := hQ.only o23 (by omega)
      have mm := mm.only o23 (by omega)
      have m3 := m3.only o23 (by omega)
      have hR := hR.only o23 (by omega)
      have hy42 := hy42.only o23 (by first | (intro h; have h2 := h.2; omega) | (intro h; rcases h.1 with h1 | h1; (have := hA _ h1; omega); (have := h.2; omega)) | (intro h; rcases h.1 with h1 | h1; (have := h1.2; omega); (have := h.2; omega)) | (intro h; rcases h.1 with h1 | h1; (exact hAS _ h1.1 rfl); (have := h.2; omega)) | (intro h; rcases h with h | h; (have := hA _ h; omega); omega) | (intro h; have := hA _ h; omega) | (intro h; rcases h with h | h; (have := h.2; omega); omega) | exact Ar.nbr | exact Ai.nbr | exact Ar.no (by omega) | exact Ai.no (by omega))
      refine s_end (hK14 _ _ ?_)
      refine wp_ret (res_cell hF rfl rfl m6 wide27 ⟨_, rfl, ⟨⟨y42, rfl, by rw [CT.fold_eq]; exact hy42.mono (AS.mono (by omega)), hT42⟩, hR⟩, hQ⟩)
  · have hkv : RKE w6 (AS A (b6 + 1)) nilS (c.folds G d) := by have e0 : c.folds G d = [] := List.eq_nil_of_length_eq_zero (by rw [CT.folds_len]; omega); rw [e0]; exact RKE.nil w6 _
    refine wp_rs fun K15 hK15 => ?_
    refine s_val hF (x_move rfl) (by decide) fun a hF => ?_
    refine s_val hF (x_len Try.underlying25 rfl) (by decide) fun a hF => ?_
    refine s_val hF (x_gtr (b := false) (decide_eq_false (by omega)) rfl rfl) (by decide) fun a hF => ?_
    refine s_end (hK15 _ _ ?_)
    refine wp_if hF rfl ?_
    refine wp_skip (hK3 _ _ ?_)
    refine wp_rs fun K16 hK16 => ?_
    refine s_val hF (x_move rfl) (by decide) fun a hF => ?_
    refine s_val hF (x_ldW wide27 m3 rfl rfl) (by decide) fun a hF => ?_
    refine s_val hF (x_move rfl) (by decide) fun a hF => ?_
    refine s_val hF (x_move rfl) (by decide) fun a hF => ?_
    refine s_callC (R := fun v w' => ((∃ y, v = tv y ∧ RE w' (AS A (b6 + 1)) (G c d (c.folds G d)) y ∧ Tt c y) ∧ Room w' br) ∧ Ktw br br w6 w') hF [_, _, _] rfl hg rfl (by decide) (HJ _ c x d _ _ _ hK hR hx (by omega) (by omega) (by omega) (by omega) hkv (CT.folds_len G c d)) ?_
    rintro _ w42 a ⟨⟨⟨y42, rfl, hy42, hT42⟩, hR⟩, k42⟩ hF
    have sk42 := k42.size
    have hK := hK.trans k42 (by omega)
    have hQ := hQ.trans k42 (by omega)
    have m3 := m3.k2 k42 (by omega)
    have m6 := m6.k2 k42 (by omega)
    refine s_putW hF rfl rfl (size_wide wide27) m6 rfl hy42.one fun w26 m6 o27 => ?_
    have so27 := o27.size
    have hK := hK.only o27 (by omega)
    have hQ := hQ.only o27 (by omega)
    have m3 := m3.only o27 (by omega)
    have hR := hR.only o27 (by omega)
    have hy42 := hy42.only o27 (by first | (intro h; have h2 := h.2; omega) | (intro h; rcases h.1 with h1 | h1; (have := hA _ h1; omega); (have := h.2; omega)) | (intro h; rcases h.1 with h1 | h1; (have := h1.2; omega); (have := h.2; omega)) | (intro h; rcases h.1 with h1 | h1; (exact hAS _ h1.1 rfl); (have := h.2; omega)) | (intro h; rcases h with h | h; (have := hA _ h; omega); omega) | (intro h; have := hA _ h; omega) | (intro h; rcases h with h | h; (have := h.2; omega); omega) | exact Ar.nbr | exact Ai.nbr | exact Ar.no (by omega) | exact Ai.no (by omega))
    refine s_end (hK16 _ _ ?_)
    refine wp_ret (res_cell hF rfl rfl m6 wide27 ⟨_, rfl, ⟨⟨y42, rfl, by rw [CT.fold_eq]; exact hy42.mono (AS.mono (by omega)), hT42⟩, hR⟩, hQ⟩)
end Go.Proofs.Ytaclncmkdpjnlaa

namespace Go.Proofs.Ytaclncmkdpjnlaa
open Go.RowKit Go.Shelf
set_option linter.unusedVariables false
set_option linter.unusedSimpArgs false

def enc2 (p : Int × Int) : List Value := [.int .i64 p.1, .int .i64 p.2]
def enc1 (z : Int) : List Value := [.int .i64 z]
set_option maxRecDepth 100000 in
set_option maxHeartbeats 1600000 in
theorem fold119 (wl : World) (g : FuncId) (lb : List Value) (hg : Enters Try.prog g) (D : Int) (hD : D ≤ 4611686018427387904) (Sz : Nat) (G : CT → Int → List (Int × Int) → (Int × Int)) (gv : Value) (hgv : gv = .func (.func g) #[] lb.toArray)
    (HJ : ∀ (W : World) (c : CT) (x : C8) (d : Int) (kv : Value), Below wl.heap.size wl W → RC wl (fun k => k < wl.heap.size) c x → c.size ≤ Sz → 0 ≤ d → d + c.dep ≤ D → Rd W kv 2 c.kids.length ((c.folds G d).flatMap enc2) →
      Calls Try.prog g ([tv x, .int .i64 d, kv] ++ lb).toArray W fun e w' => e = .returned (.agg (enc2 (G c d (c.folds G d))).toArray) ∧ Below W.heap.size W w') :
    ∀ (N : Nat) (c : CT) (x : C8) (d : Int) (W : World), c.size < N → c.size ≤ Sz → RC wl (fun k => k < wl.heap.size) c x → 0 ≤ d → d + c.dep ≤ D → Below wl.heap.size wl W →
      Calls Try.prog 100 #[tv x, .int .i64 d, gv] W fun e w' => e = .returned (.agg (enc2 (c.fold G d)).toArray) ∧ Below W.heap.size W w' := by
  subst hgv
  intro N
  induction N with
  | zero => intro c x d W h; omega
  | succ N ih =>
  intro c x d W hN hSz hx hd0 hdD hK
  have h3 := c.kids_le
  have hdp := c.dep_pos
  have hB := Below.refl W.heap.size W
  have sB := hB.size
  have sK := hK.size
  refine calls_fs 43 [(0, tv x), (1, .int .i64 d), (2, .func (.func g) #[] lb.toArray)] Try.func100 rfl rfl rfl rfl rfl fun a hF => ?_
  refine wp_rs fun K1 hK1 => ?_
  refine s_box (tc x) hF (by decide) rfl rfl fun w2 b3 a eb3 m3 B3 zb3 hF => ?_
  have sB3 := B3.size
  have hK := hK.trans (B3.mono hK.size)
  have hB := hB.trans (B3.mono hB.size)
  refine s_alloc hF (by decide) zero93 fun w4 b6 a eb6 m6 B5 zb6 hF => ?_
  have sB5 := B5.size
  have hK := hK.trans (B5.mono hK.size)
  have hB := hB.trans (B5.mono hB.size)
  have m3 := m3.old B5
  refine s_end (hK1 _ _ ?_)
  refine wp_rs fun K2 hK2 => ?_
  refine s_val hF (x_assign rfl) (by decide) fun a hF => ?_
  refine s_end (hK2 _ _ ?_)
  refine wp_seq_k fun K3 hK3 => ?_
  refine wp_rs fun K4 hK4 => ?_
  refine s_val hF (x_ldW wide27 m3 rfl rfl) (by decide) fun a hF => ?_
  refine s_callR (R := fun v w' => RK wl (fun k => k < wl.heap.size) v c.kids) [_] hF (enters_of Try.func89 (by kernel_rfl) rfl) rfl (by decide) (kidsOf101 c x (fun k => k < wl.heap.size) wl w4 hx) ?_
  rintro v12 w6 a hv12 B7 hF
  have sB7 := B7.size
  have hK := hK.trans (B7.mono hK.size)
  have hB := hB.trans (B7.mono hB.size)
  have m3 := m3.old B7
  have m6 := m6.old B7
  obtain ⟨a12, c12, hve, _⟩ := hv12.form
  subst hve
  refine s_val hF (x_assign rfl) (by decide) fun a hF => ?_
  refine s_end (hK4 _ _ ?_)
  rcases (show 0 < c.kids.length ∨ c.kids.length = 0 by omega) with hk | hk
  · skip
    refine wp_rs fun K6 hK6 => ?_
    refine s_val hF (x_move rfl) (by decide) fun a hF => ?_
    refine s_val hF (x_len Try.underlying25 rfl) (by decide) fun a hF => ?_
    refine s_val hF (x_gtr (b := true) (decide_eq_true (by omega)) rfl rfl) (by decide) fun a hF => ?_
    refine s_end (hK6 _ _ ?_)
    refine wp_if hF rfl ?_
    refine wp_rs fun K7 hK7 => ?_
    refine s_val hF (x_move rfl) (by decide) fun a hF => ?_
    refine s_val hF (x_len Try.underlying25 rfl) (by decide) fun a hF => ?_
    refine s_mkG c.kids.length el122 hF (by decide) rfl rfl (by omega) (by omega) rfl rfl fun w18 bm a cs18 eb18 hl18 mm B18 z18 hF => ?_
    have sB18 := B18.size
    have hK := hK.trans (B18.mono hK.size)
    have hB := hB.trans (B18.mono hB.size)
    have m3 := m3.old B18
    have m6 := m6.old B18
    refine s_val hF (x_assign rfl) (by decide) fun a hF => ?_
    refine s_end (hK7 _ _ ?_)
    refine wp_rs fun K8 hK8 => ?_
    refine s_val hF (x_move rfl) (by decide) fun a hF => ?_
    refine s_val hF (x_len Try.underlying25 rfl) (by decide) fun a hF => ?_
    refine s_val hF (x_move rfl) (by decide) fun a hF => ?_
    refine s_end (hK8 _ _ ?_)
    refine wp_block ?_
    refine wp_up c.kids.length (fun i a w => ∃ cs, cs.length = c.kids.length * 2 ∧ Blk w bm 81 cs ∧ cs.take (i * 2) = ((c.folds G d).take i).flatMap enc2 ∧ Blk w b3 27 (tc x) ∧ Blk w b6 81 [.int .i64 0, .int .i64 0] ∧ Below wl.heap.size wl w ∧ Below W.heap.size W w ∧ Fs 43 a [(1, .int .i64 d), (2, .func (.func g) #[] lb.toArray), (3, .pointer (some ⟨b3, 0, none⟩)), (6, .pointer (some ⟨b6, 0, none⟩)), (7, .slice (some ⟨bm, 0, none⟩) c.kids.length c.kids.length), (19, .slice a12 c.kids.length c12), (20, .int .i64 (c.kids.length : Int)), (21, .int .i64 (i : Int))]) ⟨cs18, hl18, mm, by simp, m3, m6, hK, hB, hF.sub _ rfl⟩ ?_
    clear hF mm m3 m6 hK hB
    rintro i a w hi ⟨cs, hl, mm, hM, m3, m6, hK, hB, hF⟩ K' hK'
    have sK := hK.size
    have sB := hB.size
    have hbmw := mm.lt
    have hb3w := m3.lt
    have hb6w := m6.lt
    refine wp_rs fun K9 hK9 => ?_
    refine s_val hF (x_lss (b := decide (i < c.kids.length)) (decide_eq_decide.2 (by omega)) rfl rfl) (by decide) fun a hF => ?_
    refine s_end (hK9 _ _ ?_)
    refine wp_seq_k fun K10 hK10 => ?_
    refine wp_iff hF rfl (fun hc22 => ?_) (fun hc22 => ?_)
    · obtain ⟨b9, off9, c9, y, kd, hve, hyk, hry, hAb, hbl, hrow⟩ := hv12.row (i := i) (by omega)
      cases hve
      have hks := CT.kid_size hyk
      have hbd := c.bnd_is i
      have htk := take_snoc (CT.folds_get G (d := d) hyk)
      have hti : ((c.folds G d).take i).length = i := by rw [List.length_take, CT.folds_len]; omega
      refine wp_skip (hK10 _ _ ?_)
      refine wp_seq_k fun K11 hK11 => ?_
      refine wp_block ?_
      refine wp_rs fun K12 hK12 => ?_
      refine s_val hF (x_move rfl) (by decide) fun a hF => ?_
      refine s_val hF (x_ixa rfl rfl (m_ixsK i Try.underlying25 el25.size rfl (by omega))) (by decide) fun a hF => ?_
      refine s_val hF (x_ldA wide27 (hrow _ (hK.block _ hbl)) rfl rfl) (by decide) fun a hF => ?_
      refine s_alloc hF (by decide) zero27 fun w8 b10 a eb10 m10 B9 zb10 hF => ?_
      have sB9 := B9.size
      have hK := hK.trans (B9.mono hK.size)
      have hB := hB.trans (B9.mono hB.size)
      have mm := mm.old B9
      have m3 := m3.old B9
      have m6 := m6.old B9
      refine s_val hF (x_assign rfl) (by decide) fun a hF => ?_
      refine s_putW hF rfl rfl (size_wide wide27) m10 rfl hry.one fun w12 m10 o13 => ?_
      have so13 := o13.size
      have hK := hK.trans (o13.below (by omega))
      have hB := hB.trans (o13.below (by omega))
      have mm := mm.only o13 (by omega)
      have m3 := m3.only o13 (by omega)
      have m6 := m6.only o13 (by omega)
      refine s_end (hK12 _ _ ?_)
      refine dk2_one (bm) (bm) (ops := regOps Try.f100 8) (N := 12) (by kernel_rfl) wide_orders (by kernel_rfl) fun w14 hw14 B15 hS K13 hK13 => ?_
      have zw14 : w14.heap.size = w12.heap.size := by rw [hw14]
      have sB15 := B15.size
      have hK := hK.trans (B15.mono hK.size)
      have hB := hB.trans (B15.mono hB.size)
      have mm := mm.old B15
      have m3 := m3.old B15
      have m6 := m6.old B15
      have m10 := m10.old B15
      have mm_d := mm
      have m3_d := m3
      have m6_d := m6
      have m10_d := m10
      have hK_d := hK
      have hB_d := hB
      refine d_val 0 26 (op := (Go.Op.move (Go.Operand.tmp 7))) hF hS (by kernel_rfl) (fun W hW => x_move rfl) (by kernel_rfl) (by decide) fun a hF => ?_
      refine d_val 1 27 (op := (Go.Op.move (Go.Operand.tmp 9))) hF hS (by kernel_rfl) (fun W hW => x_move rfl) (by kernel_rfl) (by decide) fun a hF => ?_
      refine d_val 2 28 (op := (Go.Op.load 27 (Go.Operand.tmp 10))) hF hS (by kernel_rfl) (fun W hW => x_ldW wide27 (m10_d.k2 hW (by omega)) rfl rfl) (by kernel_rfl) (by decide) fun a hF => ?_
      refine d_val 3 29 (op := (Go.Op.move (Go.Operand.tmp 1))) hF hS (by kernel_rfl) (fun W hW => x_move rfl) (by kernel_rfl) (by decide) fun a hF => ?_
      refine d_val 4 30 (op := (Go.Op.load 27 (Go.Operand.tmp 3))) hF hS (by kernel_rfl) (fun W hW => x_ldW wide27 (m3_d.k2 hW (by omega)) rfl rfl) (by kernel_rfl) (by decide) fun a hF => ?_
      refine d_val 5 31 (op := (Go.Op.move (Go.Operand.tmp 9))) hF hS (by kernel_rfl) (fun W hW => x_move rfl) (by kernel_rfl) (by decide) fun a hF => ?_
      refine d_val 8 34 (op := (Go.Op.move (Go.Operand.tmp 2))) hF hS (by kernel_rfl) (fun W hW => x_move rfl) (by kernel_rfl) (by decide) fun a hF => ?_
      refine d_one 6 (some 32) (Go.Op.call (Go.Call.mk (Go.Callee.value (Go.Operand.func 107)) #[(Go.Operand.tmp 30), (Go.Operand.tmp 31)] #[27, 3])) (by kernel_rfl) (by kernel_rfl) fun ty pos af => ?_
      refine s_callB [_, _] hF (enters_of Try.func107 (by kernel_rfl) rfl) rfl (by decide) (binds112 c x (fun k => k < wl.heap.size) i wl w14 hx (by omega)) fun w16 a B17 hF => ?_
      have sB17 := B17.size
      have hK := hK.trans (B17.mono hK.size)
      have hB := hB.trans (B17.mono hB.size)
      have mm := mm.old B17
      have m3 := m3.old B17
      have m6 := m6.old B17
      have m10 := m10.old B17
      have hS := hS.below B17
      refine s_end ⟨hS, ?_⟩
      refine d_val 7 33 (op := (Go.Op.binOp Go.BinOp.add 3 (Go.Operand.tmp 29) (Go.Operand.tmp 32) 3)) hF hS (by kernel_rfl) (fun W hW => x_add (by omega) (by omega) rfl rfl) (by kernel_rfl) (by decide) fun a hF => ?_
      refine d_one 9 (some 35) (Go.Op.call (Go.Call.mk (Go.Callee.value (Go.Operand.func 100)) #[(Go.Operand.tmp 28), (Go.Operand.tmp 33), (Go.Operand.tmp 34)] #[27, 3, 120])) (by kernel_rfl) (by kernel_rfl) fun ty pos af => ?_
      refine s_callB [_, _, _] hF (enters_of Try.func100 (by kernel_rfl) rfl) rfl (by decide) (ih kd y (d + c.bnd i) w16 (by omega) (by omega) hry (by omega) (by omega) hK) fun w18 a B19 hF => ?_
      have sB19 := B19.size
      have hK := hK.trans (B19.mono hK.size)
      have hB := hB.trans (B19.mono hB.size)
      have mm := mm.old B19
      have m3 := m3.old B19
      have m6 := m6.old B19
      have m10 := m10.old B19
      have hS := hS.below B19
      refine s_end ⟨hS, ?_⟩
      refine d_val 10 36 (op := (Go.Op.indexAddr 118 (Go.Operand.tmp 26) (Go.Operand.tmp 27))) hF hS (by kernel_rfl) (fun W hW => x_ixa rfl rfl (m_ixsK i Try.underlying118 el122.size rfl (by omega))) (by kernel_rfl) (by decide) fun a hF => ?_
      refine d_one 11 none (Go.Op.store 81 (Go.Operand.tmp 36) (Go.Operand.tmp 35)) (by kernel_rfl) (by kernel_rfl) fun ty pos af => ?_
      refine s_putP (vs := enc2 _) hF rfl rfl (size_wide wide93) mm (by rw [hl]; simp only [enc2, List.length_cons, List.length_nil]; omega) (oneII _ _) fun w40 mm o40 => ?_
      have so40 := o40.size
      have hK := hK.trans (o40.below (by omega))
      have hB := hB.trans (o40.below (by omega))
      have m3 := m3.only o40 (by omega)
      have m6 := m6.only o40 (by omega)
      have m10 := m10.only o40 (by omega)
      have hS := hS.only o40 (by omega)
      refine s_end ⟨hS, ?_⟩
      refine d_end (by kernel_rfl) (hK13 _ _ ?_)
      refine hK11 _ _ ?_
      refine wp_region_lit ?_
      refine s_val hF (x_add (by omega) (by omega) rfl rfl) (by decide) fun a hF => ?_
      refine s_val hF (x_move rfl) (by decide) fun a hF => ?_
      refine s_end (hK' _ _ (by omega) ⟨_, by rw [put_len (by rw [hl]; simp only [enc2, List.length_cons, List.length_nil]; omega), hl], mm, by rw [htk, List.flatMap_append, ← hM, show (i + 1) * 2 = (0 + i * 2) + (enc2 (kd.fold G (d + c.bnd i))).length by simp only [enc2, List.length_cons, List.length_nil]; omega, take_put (by rw [hl]; omega), Nat.zero_add]; simp, m3, m6, hK, hB, hF.sub _ rfl⟩)
    · obtain rfl : i = c.kids.length := by omega
      rw [List.take_of_length_le (by rw [hl]; exact Nat.le_refl _), List.take_of_length_le (by rw [CT.folds_len]; exact Nat.le_refl _)] at hM
      have hkv : Rd w (.slice (some ⟨bm, 0, none⟩) c.kids.length c.kids.length) 2 c.kids.length ((c.folds G d).flatMap enc2) := by rw [← hM]; exact Rd.blk mm hl
      refine wp_exit (hK3 _ _ ?_)
      refine wp_rs fun K14 hK14 => ?_
      refine s_val hF (x_move rfl) (by decide) fun a hF => ?_
      refine s_val hF (x_ldW wide27 m3 rfl rfl) (by decide) fun a hF => ?_
      refine s_val hF (x_move rfl) (by decide) fun a hF => ?_
      refine s_val hF (x_move rfl) (by decide) fun a hF => ?_
      refine s_callC (R := fun v w' => v = .agg (enc2 (G c d (c.folds G d))).toArray ∧ Below w.heap.size w w') hF [_, _, _] rfl hg rfl (by decide) ((HJ _ c x d _ hK hx hSz (by omega) (by omega) hkv).mono fun e w' h => ⟨_, h.1, rfl, h.2⟩) ?_
      rintro _ w42 a ⟨rfl, B42⟩ hF
      have sB42 := B42.size
      have hK := hK.trans (B42.mono hK.size)
      have hB := hB.trans (B42.mono hB.size)
      have mm := mm.old B42
      have m3 := m3.old B42
      have m6 := m6.old B42
      refine s_putW hF rfl rfl (size_wide wide93) m6 rfl (oneII _ _) fun w22 m6 o23 => ?_
      have so23 := o23.size
      have hK := hK.trans (o23.below (by omega))
      have hB := hB.trans (o23.below (by omega))
      have mm := mm.only o23 (by omega)
      have m3 := m3.only o23 (by omega)
      refine s_end (hK14 _ _ ?_)
      refine wp_ret (res_cell (cs := enc2 _) hF rfl rfl m6 wide93 ⟨by rw [CT.fold_eq], hB⟩)
  · have hkv : Rd w6 nilS 2 c.kids.length ((c.folds G d).flatMap enc2) := by have e0 : c.folds G d = [] := List.eq_nil_of_length_eq_zero (by rw [CT.folds_len]; omega); rw [e0, hk]; exact Rd.nil w6 2
    refine wp_rs fun K15 hK15 => ?_
    refine s_val hF (x_move rfl) (by decide) fun a hF => ?_
    refine s_val hF (x_len Try.underlying25 rfl) (by decide) fun a hF => ?_
    refine s_val hF (x_gtr (b := false) (decide_eq_false (by omega)) rfl rfl) (by decide) fun a hF => ?_
    refine s_end (hK15 _ _ ?_)
    refine wp_if hF rfl ?_
    refine wp_skip (hK3 _ _ ?_)
    refine wp_rs fun K16 hK16 => ?_
    refine s_val hF (x_move rfl) (by decide) fun a hF => ?_
    refine s_val hF (x_ldW wide27 m3 rfl rfl) (by decide) fun a hF => ?_
    refine s_val hF (x_move rfl) (by decide) fun a hF => ?_
    refine s_val hF (x_move rfl) (by decide) fun a hF => ?_
    refine s_callC (R := fun v w' => v = .agg (enc2 (G c d (c.folds G d))).toArray ∧ Below w6.heap.size w6 w') hF [_, _, _] rfl hg rfl (by decide) ((HJ _ c x d _ hK hx hSz (by omega) (by omega) hkv).mono fun e w' h => ⟨_, h.1, rfl, h.2⟩) ?_
    rintro _ w42 a ⟨rfl, B42⟩ hF
    have sB42 := B42.size
    have hK := hK.trans (B42.mono hK.size)
    have hB := hB.trans (B42.mono hB.size)
    have m3 := m3.old B42
    have m6 := m6.old B42
    refine s_putW hF rfl rfl (size_wide wide93) m6 rfl (oneII _ _) fun w26 m6 o27 => ?_
    have so27 := o27.size
    have hK := hK.trans (o27.below (by omega))
    have hB := hB.trans (o27.below (by omega))
    have m3 := m3.only o27 (by omega)
    refine s_end (hK16 _ _ ?_)
    refine wp_ret (res_cell (cs := enc2 _) hF rfl rfl m6 wide93 ⟨by rw [CT.fold_eq], hB⟩)

end Go.Proofs.Ytaclncmkdpjnlaa
