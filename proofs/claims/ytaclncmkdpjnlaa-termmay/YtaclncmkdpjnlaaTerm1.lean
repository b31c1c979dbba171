/- Small functions of terms. -/
import Derived.Test.YtaclncmkdpjnlaaTermB
namespace Go.Proofs.Ytaclncmkdpjnlaa
open Go.RowKit Go.Shelf
set_option linter.unusedVariables false
set_option linter.unusedSimpArgs false

theorem arT_rng (k : Int) : -1 ≤ arT k ∧ arT k ≤ 3 := by
  unfold arT
  split
  · omega
  · split
    · omega
    · split <;> omega
theorem CT.bnd_eq {W : World} {A : Nat → Prop} : ∀ {c : CT} {x : C8} {i : Nat}, RC W A c x → i < c.kids.length → (c.bnd i = 1 ∧ (c.kd = 3 ∨ c.kd = 4 ∨ c.kd = 5) ∧ i + 1 = c.kids.length) ∨ (c.bnd i = 0 ∧ ¬ ((c.kd = 3 ∨ c.kd = 4 ∨ c.kd = 5) ∧ i + 1 = c.kids.length))
  | .two k a b m, x, i, h, hi => by
    have hk := h.2.1
    have e1 : (CT.two k a b m).kids.length = 2 := rfl
    have e2 : (CT.two k a b m).kd = k := rfl
    rw [e1] at hi ⊢
    rw [e2]
    simp only [CT.bnd]
    split <;> omega
  | .lt a b c m, x, i, h, hi => by
    have e1 : (CT.lt a b c m).kids.length = 3 := rfl
    have e2 : (CT.lt a b c m).kd = 5 := rfl
    rw [e1] at hi ⊢
    rw [e2]
    have e3 : (CT.lt a b c m).bnd i = if i = 2 then 1 else 0 := rfl
    rw [e3]
    split
    · next h => exact .inl ⟨rfl, .inr (.inr rfl), by omega⟩
    · next h => exact .inr ⟨rfl, fun h' => h (by omega)⟩
  | .var .., x, i, h, hi => by simp [CT.kids] at hi
  | .sort .., x, i, h, hi => by simp [CT.kids] at hi
  | .cst .., x, i, h, hi => by simp [CT.kids] at hi
  | .odd .., x, i, h, hi => by simp [CT.kids] at hi
/-- Is it the variable that is d? -/
def CT.isV : CT → Int → Bool
  | .var n _, d => decide (n = d)
  | _, _ => false
theorem CT.isV_eq {W : World} {A : Nat → Prop} {c : CT} {x : C8} (h : RC W A c x) (d : Int) : c.isV d = (decide (x.k = 1) && decide (x.n = d)) := by
  cases c with
  | var n m => simp [CT.isV, h.1, h.2.1]
  | sort l m => simp [CT.isV, h.1]
  | cst s ls m => simp [CT.isV, h.1]
  | odd k m =>
    have h1 := h.1
    have h2 := h.2.1
    simp only [CT.isV]
    rw [decide_eq_false]
    · rfl
    · intro e; rw [e] at h1; subst h1; simp [arT] at h2; omega
  | two k a b m =>
    have h1 := h.1
    have h2 := h.2.1
    simp only [CT.isV]
    rw [decide_eq_false]
    · rfl
    · omega
  | lt a b c m => simp [CT.isV, h.1]

set_option maxRecDepth 100000 in
set_option maxHeartbeats 1600000 in
theorem arity109 (k : Int) (w0 : World) : Calls Try.prog 97 #[.int .i64 k] w0 fun e w' => e = .returned (.tuple #[.int .i64 (max 0 (arT k)), .bool (decide (0 ≤ arT k))]) ∧ w' = w0 := by
  refine calls_fs 15 [(0, .int .i64 k)] Try.func97 rfl rfl rfl rfl rfl fun a hF => ?_
  rcases (show k = 1 ∨ k = 2 ∨ k = 7 ∨ k = 3 ∨ k = 4 ∨ k = 6 ∨ k = 5 ∨ (k ≠ 1 ∧ k ≠ 2 ∧ k ≠ 7 ∧ k ≠ 3 ∧ k ≠ 4 ∧ k ≠ 6 ∧ k ≠ 5) by omega) with hk | hk | hk | hk | hk | hk | hk | hk
  · skip
    refine wp_rs fun K2 hK2 => ?_
    refine s_val hF (x_assign rfl) (by decide) fun a hF => ?_
    refine s_val hF (x_assign rfl) (by decide) fun a hF => ?_
    refine s_end (hK2 _ _ ?_)
    refine wp_seq_k fun K3 hK3 => ?_
    refine wp_rs fun K4 hK4 => ?_
    refine s_val hF (x_move rfl) (by decide) fun a hF => ?_
    refine s_end (hK4 _ _ ?_)
    refine wp_block ?_
    refine wp_seq_k fun K5 hK5 => ?_
    refine wp_rs fun K6 hK6 => ?_
    refine s_val hF (x_eql (b := true) (decide_eq_true (by omega)) rfl rfl) (by decide) fun a hF => ?_
    refine s_val hF (x_assign rfl) (by decide) fun a hF => ?_
    refine s_end (hK6 _ _ ?_)
    refine wp_if hF rfl ?_
    refine wp_skip (hK5 _ _ ?_)
    refine wp_if hF rfl ?_
    refine wp_rs fun K7 hK7 => ?_
    refine s_val hF (x_assign rfl) (by decide) fun a hF => ?_
    refine s_val hF (x_assign rfl) (by decide) fun a hF => ?_
    refine s_end (hK7 _ _ ?_)
    refine wp_ret (inb_ret (then_ret (res_two hF rfl rfl rfl ⟨by first | (rw [show arT k = 0 by simp [arT, hk]]; rfl) | (rw [show arT k = 2 by simp [arT, hk]]; rfl) | (rw [show arT k = 3 by simp [arT, hk]]; rfl) | (rw [show arT k = -1 by simp [arT, hk]]; rfl), rfl⟩)))
  · skip
    refine wp_rs fun K8 hK8 => ?_
    refine s_val hF (x_assign rfl) (by decide) fun a hF => ?_
    refine s_val hF (x_assign rfl) (by decide) fun a hF => ?_
    refine s_end (hK8 _ _ ?_)
    refine wp_seq_k fun K9 hK9 => ?_
    refine wp_rs fun K10 hK10 => ?_
    refine s_val hF (x_move rfl) (by decide) fun a hF => ?_
    refine s_end (hK10 _ _ ?_)
    refine wp_block ?_
    refine wp_seq_k fun K11 hK11 => ?_
    refine wp_rs fun K12 hK12 => ?_
    refine s_val hF (x_eql (b := false) (decide_eq_false (by omega)) rfl rfl) (by decide) fun a hF => ?_
    refine s_val hF (x_assign rfl) (by decide) fun a hF => ?_
    refine s_end (hK12 _ _ ?_)
    refine wp_if hF rfl ?_
    refine wp_rs fun K13 hK13 => ?_
    refine s_val hF (x_eql (b := true) (decide_eq_true (by omega)) rfl rfl) (by decide) fun a hF => ?_
    refine s_val hF (x_assign rfl) (by decide) fun a hF => ?_
    refine s_end (hK13 _ _ ?_)
    refine wp_if hF rfl ?_
    refine wp_skip (hK11 _ _ ?_)
    refine wp_if hF rfl ?_
    refine wp_rs fun K14 hK14 => ?_
    refine s_val hF (x_assign rfl) (by decide) fun a hF => ?_
    refine s_val hF (x_assign rfl) (by decide) fun a hF => ?_
    refine s_end (hK14 _ _ ?_)
    refine wp_ret (inb_ret (then_ret (res_two hF rfl rfl rfl ⟨by first | (rw [show arT k = 0 by simp [arT, hk]]; rfl) | (rw [show arT k = 2 by simp [arT, hk]]; rfl) | (rw [show arT k = 3 by simp [arT, hk]]; rfl) | (rw [show arT k = -1 by simp [arT, hk]]; rfl), rfl⟩)))
  · skip
    refine wp_rs fun K15 hK15 => ?_
    refine s_val hF (x_assign rfl) (by decide) fun a hF => ?_
    refine s_val hF (x_assign rfl) (by decide) fun a hF => ?_
    refine s_end (hK15 _ _ ?_)
    refine wp_seq_k fun K16 hK16 => ?_
    refine wp_rs fun K17 hK17 => ?_
    refine s_val hF (x_move rfl) (by decide) fun a hF => ?_
    refine s_end (hK17 _ _ ?_)
    refine wp_block ?_
    refine wp_seq_k fun K18 hK18 => ?_
    refine wp_rs fun K19 hK19 => ?_
    refine s_val hF (x_eql (b := false) (decide_eq_false (by omega)) rfl rfl) (by decide) fun a hF => ?_
    refine s_val hF (x_assign rfl) (by decide) fun a hF => ?_
    refine s_end (hK19 _ _ ?_)
    refine wp_if hF rfl ?_
    refine wp_rs fun K20 hK20 => ?_
    refine s_val hF (x_eql (b := false) (decide_eq_false (by omega)) rfl rfl) (by decide) fun a hF => ?_
    refine s_val hF (x_assign rfl) (by decide) fun a hF => ?_
    refine s_end (hK20 _ _ ?_)
    refine wp_if hF rfl ?_
    refine wp_region_lit ?_
    refine s_val hF (x_eql (b := true) (decide_eq_true (by omega)) rfl rfl) (by decide) fun a hF => ?_
    refine s_val hF (x_assign rfl) (by decide) fun a hF => ?_
    refine s_end (hK18 _ _ ?_)
    refine wp_if hF rfl ?_
    refine wp_rs fun K21 hK21 => ?_
    refine s_val hF (x_assign rfl) (by decide) fun a hF => ?_
    refine s_val hF (x_assign rfl) (by decide) fun a hF => ?_
    refine s_end (hK21 _ _ ?_)
    refine wp_ret (inb_ret (then_ret (res_two hF rfl rfl rfl ⟨by first | (rw [show arT k = 0 by simp [arT, hk]]; rfl) | (rw [show arT k = 2 by simp [arT, hk]]; rfl) | (rw [show arT k = 3 by simp [arT, hk]]; rfl) | (rw [show arT k = -1 by simp [arT, hk]]; rfl), rfl⟩)))
  · skip
    refine wp_rs fun K22 hK22 => ?_
    refine s_val hF (x_assign rfl) (by decide) fun a hF => ?_
    refine s_val hF (x_assign rfl) (by decide) fun a hF => ?_
    refine s_end (hK22 _ _ ?_)
    refine wp_seq_k fun K23 hK23 => ?_
    refine wp_rs fun K24 hK24 => ?_
    refine s_val hF (x_move rfl) (by decide) fun a hF => ?_
    refine s_end (hK24 _ _ ?_)
    refine wp_block ?_
    refine wp_seq_k fun K25 hK25 => ?_
    refine wp_rs fun K26 hK26 => ?_
    refine s_val hF (x_eql (b := false) (decide_eq_false (by omega)) rfl rfl) (by decide) fun a hF => ?_
    refine s_val hF (x_assign rfl) (by decide) fun a hF => ?_
    refine s_end (hK26 _ _ ?_)
    refine wp_if hF rfl ?_
    refine wp_rs fun K27 hK27 => ?_
    refine s_val hF (x_eql (b := false) (decide_eq_false (by omega)) rfl rfl) (by decide) fun a hF => ?_
    refine s_val hF (x_assign rfl) (by decide) fun a hF => ?_
    refine s_end (hK27 _ _ ?_)
    refine wp_if hF rfl ?_
    refine wp_region_lit ?_
    refine s_val hF (x_eql (b := false) (decide_eq_false (by omega)) rfl rfl) (by decide) fun a hF => ?_
    refine s_val hF (x_assign rfl) (by decide) fun a hF => ?_
    refine s_end (hK25 _ _ ?_)
    refine wp_if hF rfl ?_
    refine wp_seq_k fun K28 hK28 => ?_
    refine wp_rs fun K29 hK29 => ?_
    refine s_val hF (x_eql (b := true) (decide_eq_true (by omega)) rfl rfl) (by decide) fun a hF => ?_
    refine s_val hF (x_assign rfl) (by decide) fun a hF => ?_
    refine s_end (hK29 _ _ ?_)
    refine wp_if hF rfl ?_
    refine wp_skip (hK28 _ _ ?_)
    refine wp_if hF rfl ?_
    refine wp_rs fun K30 hK30 => ?_
    refine s_val hF (x_assign rfl) (by decide) fun a hF => ?_
    refine s_val hF (x_assign rfl) (by decide) fun a hF => ?_
    refine s_end (hK30 _ _ ?_)
    refine wp_ret (inb_ret (then_ret (res_two hF rfl rfl rfl ⟨by first | (rw [show arT k = 0 by simp [arT, hk]]; rfl) | (rw [show arT k = 2 by simp [arT, hk]]; rfl) | (rw [show arT k = 3 by simp [arT, hk]]; rfl) | (rw [show arT k = -1 by simp [arT, hk]]; rfl), rfl⟩)))
  · skip
    refine wp_rs fun K31 hK31 => ?_
    refine s_val hF (x_assign rfl) (by decide) fun a hF => ?_
    refine s_val hF (x_assign rfl) (by decide) fun a hF => ?_
    refine s_end (hK31 _ _ ?_)
    refine wp_seq_k fun K32 hK32 => ?_
    refine wp_rs fun K33 hK33 => ?_
    refine s_val hF (x_move rfl) (by decide) fun a hF => ?_
    refine s_end (hK33 _ _ ?_)
    refine wp_block ?_
    refine wp_seq_k fun K34 hK34 => ?_
    refine wp_rs fun K35 hK35 => ?_
    refine s_val hF (x_eql (b := false) (decide_eq_false (by omega)) rfl rfl) (by decide) fun a hF => ?_
    refine s_val hF (x_assign rfl) (by decide) fun a hF => ?_
    refine s_end (hK35 _ _ ?_)
    refine wp_if hF rfl ?_
    refine wp_rs fun K36 hK36 => ?_
    refine s_val hF (x_eql (b := false) (decide_eq_false (by omega)) rfl rfl) (by decide) fun a hF => ?_
    refine s_val hF (x_assign rfl) (by decide) fun a hF => ?_
    refine s_end (hK36 _ _ ?_)
    refine wp_if hF rfl ?_
    refine wp_region_lit ?_
    refine s_val hF (x_eql (b := false) (decide_eq_false (by omega)) rfl rfl) (by decide) fun a hF => ?_
    refine s_val hF (x_assign rfl) (by decide) fun a hF => ?_
    refine s_end (hK34 _ _ ?_)
    refine wp_if hF rfl ?_
    refine wp_seq_k fun K37 hK37 => ?_
    refine wp_rs fun K38 hK38 => ?_
    refine s_val hF (x_eql (b := false) (decide_eq_false (by omega)) rfl rfl) (by decide) fun a hF => ?_
    refine s_val hF (x_assign rfl) (by decide) fun a hF => ?_
    refine s_end (hK38 _ _ ?_)
    refine wp_if hF rfl ?_
    refine wp_rs fun K39 hK39 => ?_
    refine s_val hF (x_eql (b := true) (decide_eq_true (by omega)) rfl rfl) (by decide) fun a hF => ?_
    refine s_val hF (x_assign rfl) (by decide) fun a hF => ?_
    refine s_end (hK39 _ _ ?_)
    refine wp_if hF rfl ?_
    refine wp_skip (hK37 _ _ ?_)
    refine wp_if hF rfl ?_
    refine wp_rs fun K40 hK40 => ?_
    refine s_val hF (x_assign rfl) (by decide) fun a hF => ?_
    refine s_val hF (x_assign rfl) (by decide) fun a hF => ?_
    refine s_end (hK40 _ _ ?_)
    refine wp_ret (inb_ret (then_ret (res_two hF rfl rfl rfl ⟨by first | (rw [show arT k = 0 by simp [arT, hk]]; rfl) | (rw [show arT k = 2 by simp [arT, hk]]; rfl) | (rw [show arT k = 3 by simp [arT, hk]]; rfl) | (rw [show arT k = -1 by simp [arT, hk]]; rfl), rfl⟩)))
  · skip
    refine wp_rs fun K41 hK41 => ?_
    refine s_val hF (x_assign rfl) (by decide) fun a hF => ?_
    refine s_val hF (x_assign rfl) (by decide) fun a hF => ?_
    refine s_end (hK41 _ _ ?_)
    refine wp_seq_k fun K42 hK42 => ?_
    refine wp_rs fun K43 hK43 => ?_
    refine s_val hF (x_move rfl) (by decide) fun a hF => ?_
    refine s_end (hK43 _ _ ?_)
    refine wp_block ?_
    refine wp_seq_k fun K44 hK44 => ?_
    refine wp_rs fun K45 hK45 => ?_
    refine s_val hF (x_eql (b := false) (decide_eq_false (by omega)) rfl rfl) (by decide) fun a hF => ?_
    refine s_val hF (x_assign rfl) (by decide) fun a hF => ?_
    refine s_end (hK45 _ _ ?_)
    refine wp_if hF rfl ?_
    refine wp_rs fun K46 hK46 => ?_
    refine s_val hF (x_eql (b := false) (decide_eq_false (by omega)) rfl rfl) (by decide) fun a hF => ?_
    refine s_val hF (x_assign rfl) (by decide) fun a hF => ?_
    refine s_end (hK46 _ _ ?_)
    refine wp_if hF rfl ?_
    refine wp_region_lit ?_
    refine s_val hF (x_eql (b := false) (decide_eq_false (by omega)) rfl rfl) (by decide) fun a hF => ?_
    refine s_val hF (x_assign rfl) (by decide) fun a hF => ?_
    refine s_end (hK44 _ _ ?_)
    refine wp_if hF rfl ?_
    refine wp_seq_k fun K47 hK47 => ?_
    refine wp_rs fun K48 hK48 => ?_
    refine s_val hF (x_eql (b := false) (decide_eq_false (by omega)) rfl rfl) (by decide) fun a hF => ?_
    refine s_val hF (x_assign rfl) (by decide) fun a hF => ?_
    refine s_end (hK48 _ _ ?_)
    refine wp_if hF rfl ?_
    refine wp_rs fun K49 hK49 => ?_
    refine s_val hF (x_eql (b := false) (decide_eq_false (by omega)) rfl rfl) (by decide) fun a hF => ?_
    refine s_val hF (x_assign rfl) (by decide) fun a hF => ?_
    refine s_end (hK49 _ _ ?_)
    refine wp_if hF rfl ?_
    refine wp_region_lit ?_
    refine s_val hF (x_eql (b := true) (decide_eq_true (by omega)) rfl rfl) (by decide) fun a hF => ?_
    refine s_val hF (x_assign rfl) (by decide) fun a hF => ?_
    refine s_end (hK47 _ _ ?_)
    refine wp_if hF rfl ?_
    refine wp_rs fun K50 hK50 => ?_
    refine s_val hF (x_assign rfl) (by decide) fun a hF => ?_
    refine s_val hF (x_assign rfl) (by decide) fun a hF => ?_
    refine s_end (hK50 _ _ ?_)
    refine wp_ret (inb_ret (then_ret (res_two hF rfl rfl rfl ⟨by first | (rw [show arT k = 0 by simp [arT, hk]]; rfl) | (rw [show arT k = 2 by simp [arT, hk]]; rfl) | (rw [show arT k = 3 by simp [arT, hk]]; rfl) | (rw [show arT k = -1 by simp [arT, hk]]; rfl), rfl⟩)))
  · skip
    refine wp_rs fun K51 hK51 => ?_
    refine s_val hF (x_assign rfl) (by decide) fun a hF => ?_
    refine s_val hF (x_assign rfl) (by decide) fun a hF => ?_
    refine s_end (hK51 _ _ ?_)
    refine wp_seq_k fun K52 hK52 => ?_
    refine wp_rs fun K53 hK53 => ?_
    refine s_val hF (x_move rfl) (by decide) fun a hF => ?_
    refine s_end (hK53 _ _ ?_)
    refine wp_block ?_
    refine wp_seq_k fun K54 hK54 => ?_
    refine wp_rs fun K55 hK55 => ?_
    refine s_val hF (x_eql (b := false) (decide_eq_false (by omega)) rfl rfl) (by decide) fun a hF => ?_
    refine s_val hF (x_assign rfl) (by decide) fun a hF => ?_
    refine s_end (hK55 _ _ ?_)
    refine wp_if hF rfl ?_
    refine wp_rs fun K56 hK56 => ?_
    refine s_val hF (x_eql (b := false) (decide_eq_false (by omega)) rfl rfl) (by decide) fun a hF => ?_
    refine s_val hF (x_assign rfl) (by decide) fun a hF => ?_
    refine s_end (hK56 _ _ ?_)
    refine wp_if hF rfl ?_
    refine wp_region_lit ?_
    refine s_val hF (x_eql (b := false) (decide_eq_false (by omega)) rfl rfl) (by decide) fun a hF => ?_
    refine s_val hF (x_assign rfl) (by decide) fun a hF => ?_
    refine s_end (hK54 _ _ ?_)
    refine wp_if hF rfl ?_
    refine wp_seq_k fun K57 hK57 => ?_
    refine wp_rs fun K58 hK58 => ?_
    refine s_val hF (x_eql (b := false) (decide_eq_false (by omega)) rfl rfl) (by decide) fun a hF => ?_
    refine s_val hF (x_assign rfl) (by decide) fun a hF => ?_
    refine s_end (hK58 _ _ ?_)
    refine wp_if hF rfl ?_
    refine wp_rs fun K59 hK59 => ?_
    refine s_val hF (x_eql (b := false) (decide_eq_false (by omega)) rfl rfl) (by decide) fun a hF => ?_
    refine s_val hF (x_assign rfl) (by decide) fun a hF => ?_
    refine s_end (hK59 _ _ ?_)
    refine wp_if hF rfl ?_
    refine wp_region_lit ?_
    refine s_val hF (x_eql (b := false) (decide_eq_false (by omega)) rfl rfl) (by decide) fun a hF => ?_
    refine s_val hF (x_assign rfl) (by decide) fun a hF => ?_
    refine s_end (hK57 _ _ ?_)
    refine wp_if hF rfl ?_
    refine wp_rs fun K60 hK60 => ?_
    refine s_val hF (x_eql (b := true) (decide_eq_true (by omega)) rfl rfl) (by decide) fun a hF => ?_
    refine s_val hF (x_assign rfl) (by decide) fun a hF => ?_
    refine s_end (hK60 _ _ ?_)
    refine wp_if hF rfl ?_
    refine wp_rs fun K61 hK61 => ?_
    refine s_val hF (x_assign rfl) (by decide) fun a hF => ?_
    refine s_val hF (x_assign rfl) (by decide) fun a hF => ?_
    refine s_end (hK61 _ _ ?_)
    refine wp_ret (inb_ret (then_ret (res_two hF rfl rfl rfl ⟨by first | (rw [show arT k = 0 by simp [arT, hk]]; rfl) | (rw [show arT k = 2 by simp [arT, hk]]; rfl) | (rw [show arT k = 3 by simp [arT, hk]]; rfl) | (rw [show arT k = -1 by simp [arT, hk]]; rfl), rfl⟩)))
  · skip
    refine wp_rs fun K62 hK62 => ?_
    refine s_val hF (x_assign rfl) (by decide) fun a hF => ?_
    refine s_val hF (x_assign rfl) (by decide) fun a hF => ?_
    refine s_end (hK62 _ _ ?_)
    refine wp_seq_k fun K63 hK63 => ?_
    refine wp_rs fun K64 hK64 => ?_
    refine s_val hF (x_move rfl) (by decide) fun a hF => ?_
    refine s_end (hK64 _ _ ?_)
    refine wp_block ?_
    refine wp_seq_k fun K65 hK65 => ?_
    refine wp_rs fun K66 hK66 => ?_
    refine s_val hF (x_eql (b := false) (decide_eq_false (by omega)) rfl rfl) (by decide) fun a hF => ?_
    refine s_val hF (x_assign rfl) (by decide) fun a hF => ?_
    refine s_end (hK66 _ _ ?_)
    refine wp_if hF rfl ?_
    refine wp_rs fun K67 hK67 => ?_
    refine s_val hF (x_eql (b := false) (decide_eq_false (by omega)) rfl rfl) (by decide) fun a hF => ?_
    refine s_val hF (x_assign rfl) (by decide) fun a hF => ?_
    refine s_end (hK67 _ _ ?_)
    refine wp_if hF rfl ?_
    refine wp_region_lit ?_
    refine s_val hF (x_eql (b := false) (decide_eq_false (by omega)) rfl rfl) (by decide) fun a hF => ?_
    refine s_val hF (x_assign rfl) (by decide) fun a hF => ?_
    refine s_end (hK65 _ _ ?_)
    refine wp_if hF rfl ?_
    refine wp_seq_k fun K68 hK68 => ?_
    refine wp_rs fun K69 hK69 => ?_
    refine s_val hF (x_eql (b := false) (decide_eq_false (by omega)) rfl rfl) (by decide) fun a hF => ?_
    refine s_val hF (x_assign rfl) (by decide) fun a hF => ?_
    refine s_end (hK69 _ _ ?_)
    refine wp_if hF rfl ?_
    refine wp_rs fun K70 hK70 => ?_
    refine s_val hF (x_eql (b := false) (decide_eq_false (by omega)) rfl rfl) (by decide) fun a hF => ?_
    refine s_val hF (x_assign rfl) (by decide) fun a hF => ?_
    refine s_end (hK70 _ _ ?_)
    refine wp_if hF rfl ?_
    refine wp_region_lit ?_
    refine s_val hF (x_eql (b := false) (decide_eq_false (by omega)) rfl rfl) (by decide) fun a hF => ?_
    refine s_val hF (x_assign rfl) (by decide) fun a hF => ?_
    refine s_end (hK68 _ _ ?_)
    refine wp_if hF rfl ?_
    refine wp_rs fun K71 hK71 => ?_
    refine s_val hF (x_eql (b := false) (decide_eq_false (by omega)) rfl rfl) (by decide) fun a hF => ?_
    refine s_val hF (x_assign rfl) (by decide) fun a hF => ?_
    refine s_end (hK71 _ _ ?_)
    refine wp_if hF rfl ?_
    refine wp_skip (hK63 _ _ ?_)
    refine wp_rs fun K72 hK72 => ?_
    refine s_val hF (x_assign rfl) (by decide) fun a hF => ?_
    refine s_val hF (x_assign rfl) (by decide) fun a hF => ?_
    refine s_end (hK72 _ _ ?_)
    refine wp_ret (res_two hF rfl rfl rfl ⟨by first | (rw [show arT k = 0 by simp [arT, hk]]; rfl) | (rw [show arT k = 2 by simp [arT, hk]]; rfl) | (rw [show arT k = 3 by simp [arT, hk]]; rfl) | (rw [show arT k = -1 by simp [arT, hk]]; rfl), rfl⟩)

set_option maxRecDepth 100000 in
set_option maxHeartbeats 1600000 in
theorem kids54 (k : Int) (w0 : World) : Calls Try.prog 87 #[.int .i64 k] w0 fun e w' => e = .returned (.int .i64 (arT k)) ∧ w' = w0 := by
  refine calls_fs 14 [(0, .int .i64 k)] Try.func87 rfl rfl rfl rfl rfl fun a hF => ?_
  rcases (show k = 1 ∨ k = 2 ∨ k = 7 ∨ k = 3 ∨ k = 4 ∨ k = 6 ∨ k = 5 ∨ (k ≠ 1 ∧ k ≠ 2 ∧ k ≠ 7 ∧ k ≠ 3 ∧ k ≠ 4 ∧ k ≠ 6 ∧ k ≠ 5) by omega) with hk | hk | hk | hk | hk | hk | hk | hk
  · skip
    refine wp_rs fun K2 hK2 => ?_
    refine s_val hF (x_assign rfl) (by decide) fun a hF => ?_
    refine s_end (hK2 _ _ ?_)
    refine wp_seq_k fun K3 hK3 => ?_
    refine wp_rs fun K4 hK4 => ?_
    refine s_val hF (x_move rfl) (by decide) fun a hF => ?_
    refine s_end (hK4 _ _ ?_)
    refine wp_block ?_
    refine wp_seq_k fun K5 hK5 => ?_
    refine wp_rs fun K6 hK6 => ?_
    refine s_val hF (x_eql (b := true) (decide_eq_true (by omega)) rfl rfl) (by decide) fun a hF => ?_
    refine s_val hF (x_assign rfl) (by decide) fun a hF => ?_
    refine s_end (hK6 _ _ ?_)
    refine wp_if hF rfl ?_
    refine wp_skip (hK5 _ _ ?_)
    refine wp_if hF rfl ?_
    refine wp_rs fun K7 hK7 => ?_
    refine s_val hF (x_assign rfl) (by decide) fun a hF => ?_
    refine s_end (hK7 _ _ ?_)
    refine wp_ret (inb_ret (then_ret (res_slot hF rfl rfl ⟨by simp [arT, hk], rfl⟩)))
  · skip
    refine wp_rs fun K8 hK8 => ?_
    refine s_val hF (x_assign rfl) (by decide) fun a hF => ?_
    refine s_end (hK8 _ _ ?_)
    refine wp_seq_k fun K9 hK9 => ?_
    refine wp_rs fun K10 hK10 => ?_
    refine s_val hF (x_move rfl) (by decide) fun a hF => ?_
    refine s_end (hK10 _ _ ?_)
    refine wp_block ?_
    refine wp_seq_k fun K11 hK11 => ?_
    refine wp_rs fun K12 hK12 => ?_
    refine s_val hF (x_eql (b := false) (decide_eq_false (by omega)) rfl rfl) (by decide) fun a hF => ?_
    refine s_val hF (x_assign rfl) (by decide) fun a hF => ?_
    refine s_end (hK12 _ _ ?_)
    refine wp_if hF rfl ?_
    refine wp_rs fun K13 hK13 => ?_
    refine s_val hF (x_eql (b := true) (decide_eq_true (by omega)) rfl rfl) (by decide) fun a hF => ?_
    refine s_val hF (x_assign rfl) (by decide) fun a hF => ?_
    refine s_end (hK13 _ _ ?_)
    refine wp_if hF rfl ?_
    refine wp_skip (hK11 _ _ ?_)
    refine wp_if hF rfl ?_
    refine wp_rs fun K14 hK14 => ?_
    refine s_val hF (x_assign rfl) (by decide) fun a hF => ?_
    refine s_end (hK14 _ _ ?_)
    refine wp_ret (inb_ret (then_ret (res_slot hF rfl rfl ⟨by simp [arT, hk], rfl⟩)))
  · skip
    refine wp_rs fun K15 hK15 => ?_
    refine s_val hF (x_assign rfl) (by decide) fun a hF => ?_
    refine s_end (hK15 _ _ ?_)
    refine wp_seq_k fun K16 hK16 => ?_
    refine wp_rs fun K17 hK17 => ?_
    refine s_val hF (x_move rfl) (by decide) fun a hF => ?_
    refine s_end (hK17 _ _ ?_)
    refine wp_block ?_
    refine wp_seq_k fun K18 hK18 => ?_
    refine wp_rs fun K19 hK19 => ?_
    refine s_val hF (x_eql (b := false) (decide_eq_false (by omega)) rfl rfl) (by decide) fun a hF => ?_
    refine s_val hF (x_assign rfl) (by decide) fun a hF => ?_
    refine s_end (hK19 _ _ ?_)
    refine wp_if hF rfl ?_
    refine wp_rs fun K20 hK20 => ?_
    refine s_val hF (x_eql (b := false) (decide_eq_false (by omega)) rfl rfl) (by decide) fun a hF => ?_
    refine s_val hF (x_assign rfl) (by decide) fun a hF => ?_
    refine s_end (hK20 _ _ ?_)
    refine wp_if hF rfl ?_
    refine wp_region_lit ?_
    refine s_val hF (x_eql (b := true) (decide_eq_true (by omega)) rfl rfl) (by decide) fun a hF => ?_
    refine s_val hF (x_assign rfl) (by decide) fun a hF => ?_
    refine s_end (hK18 _ _ ?_)
    refine wp_if hF rfl ?_
    refine wp_rs fun K21 hK21 => ?_
    refine s_val hF (x_assign rfl) (by decide) fun a hF => ?_
    refine s_end (hK21 _ _ ?_)
    refine wp_ret (inb_ret (then_ret (res_slot hF rfl rfl ⟨by simp [arT, hk], rfl⟩)))
  · skip
    refine wp_rs fun K22 hK22 => ?_
    refine s_val hF (x_assign rfl) (by decide) fun a hF => ?_
    refine s_end (hK22 _ _ ?_)
    refine wp_seq_k fun K23 hK23 => ?_
    refine wp_rs fun K24 hK24 => ?_
    refine s_val hF (x_move rfl) (by decide) fun a hF => ?_
    refine s_end (hK24 _ _ ?_)
    refine wp_block ?_
    refine wp_seq_k fun K25 hK25 => ?_
    refine wp_rs fun K26 hK26 => ?_
    refine s_val hF (x_eql (b := false) (decide_eq_false (by omega)) rfl rfl) (by decide) fun a hF => ?_
    refine s_val hF (x_assign rfl) (by decide) fun a hF => ?_
    refine s_end (hK26 _ _ ?_)
    refine wp_if hF rfl ?_
    refine wp_rs fun K27 hK27 => ?_
    refine s_val hF (x_eql (b := false) (decide_eq_false (by omega)) rfl rfl) (by decide) fun a hF => ?_
    refine s_val hF (x_assign rfl) (by decide) fun a hF => ?_
    refine s_end (hK27 _ _ ?_)
    refine wp_if hF rfl ?_
    refine wp_region_lit ?_
    refine s_val hF (x_eql (b := false) (decide_eq_false (by omega)) rfl rfl) (by decide) fun a hF => ?_
    refine s_val hF (x_assign rfl) (by decide) fun a hF => ?_
    refine s_end (hK25 _ _ ?_)
    refine wp_if hF rfl ?_
    refine wp_seq_k fun K28 hK28 => ?_
    refine wp_rs fun K29 hK29 => ?_
    refine s_val hF (x_eql (b := true) (decide_eq_true (by omega)) rfl rfl) (by decide) fun a hF => ?_
    refine s_val hF (x_assign rfl) (by decide) fun a hF => ?_
    refine s_end (hK29 _ _ ?_)
    refine wp_if hF rfl ?_
    refine wp_skip (hK28 _ _ ?_)
    refine wp_if hF rfl ?_
    refine wp_rs fun K30 hK30 => ?_
    refine s_val hF (x_assign rfl) (by decide) fun a hF => ?_
    refine s_end (hK30 _ _ ?_)
    refine wp_ret (inb_ret (then_ret (res_slot hF rfl rfl ⟨by simp [arT, hk], rfl⟩)))
  · skip
    refine wp_rs fun K31 hK31 => ?_
    refine s_val hF (x_assign rfl) (by decide) fun a hF => ?_
    refine s_end (hK31 _ _ ?_)
    refine wp_seq_k fun K32 hK32 => ?_
    refine wp_rs fun K33 hK33 => ?_
    refine s_val hF (x_move rfl) (by decide) fun a hF => ?_
    refine s_end (hK33 _ _ ?_)
    refine wp_block ?_
    refine wp_seq_k fun K34 hK34 => ?_
    refine wp_rs fun K35 hK35 => ?_
    refine s_val hF (x_eql (b := false) (decide_eq_false (by omega)) rfl rfl) (by decide) fun a hF => ?_
    refine s_val hF (x_assign rfl) (by decide) fun a hF => ?_
    refine s_end (hK35 _ _ ?_)
    refine wp_if hF rfl ?_
    refine wp_rs fun K36 hK36 => ?_
    refine s_val hF (x_eql (b := false) (decide_eq_false (by omega)) rfl rfl) (by decide) fun a hF => ?_
    refine s_val hF (x_assign rfl) (by decide) fun a hF => ?_
    refine s_end (hK36 _ _ ?_)
    refine wp_if hF rfl ?_
    refine wp_region_lit ?_
    refine s_val hF (x_eql (b := false) (decide_eq_false (by omega)) rfl rfl) (by decide) fun a hF => ?_
    refine s_val hF (x_assign rfl) (by decide) fun a hF => ?_
    refine s_end (hK34 _ _ ?_)
    refine wp_if hF rfl ?_
    refine wp_seq_k fun K37 hK37 => ?_
    refine wp_rs fun K38 hK38 => ?_
    refine s_val hF (x_eql (b := false) (decide_eq_false (by omega)) rfl rfl) (by decide) fun a hF => ?_
    refine s_val hF (x_assign rfl) (by decide) fun a hF => ?_
    refine s_end (hK38 _ _ ?_)
    refine wp_if hF rfl ?_
    refine wp_rs fun K39 hK39 => ?_
    refine s_val hF (x_eql (b := true) (decide_eq_true (by omega)) rfl rfl) (by decide) fun a hF => ?_
    refine s_val hF (x_assign rfl) (by decide) fun a hF => ?_
    refine s_end (hK39 _ _ ?_)
    refine wp_if hF rfl ?_
    refine wp_skip (hK37 _ _ ?_)
    refine wp_if hF rfl ?_
    refine wp_rs fun K40 hK40 => ?_
    refine s_val hF (x_assign rfl) (by decide) fun a hF => ?_
    refine s_end (hK40 _ _ ?_)
    refine wp_ret (inb_ret (then_ret (res_slot hF rfl rfl ⟨by simp [arT, hk], rfl⟩)))
  · skip
    refine wp_rs fun K41 hK41 => ?_
    refine s_val hF (x_assign rfl) (by decide) fun a hF => ?_
    refine s_end (hK41 _ _ ?_)
    refine wp_seq_k fun K42 hK42 => ?_
    refine wp_rs fun K43 hK43 => ?_
    refine s_val hF (x_move rfl) (by decide) fun a hF => ?_
    refine s_end (hK43 _ _ ?_)
    refine wp_block ?_
    refine wp_seq_k fun K44 hK44 => ?_
    refine wp_rs fun K45 hK45 => ?_
    refine s_val hF (x_eql (b := false) (decide_eq_false (by omega)) rfl rfl) (by decide) fun a hF => ?_
    refine s_val hF (x_assign rfl) (by decide) fun a hF => ?_
    refine s_end (hK45 _ _ ?_)
    refine wp_if hF rfl ?_
    refine wp_rs fun K46 hK46 => ?_
    refine s_val hF (x_eql (b := false) (decide_eq_false (by omega)) rfl rfl) (by decide) fun a hF => ?_
    refine s_val hF (x_assign rfl) (by decide) fun a hF => ?_
    refine s_end (hK46 _ _ ?_)
    refine wp_if hF rfl ?_
    refine wp_region_lit ?_
    refine s_val hF (x_eql (b := false) (decide_eq_false (by omega)) rfl rfl) (by decide) fun a hF => ?_
    refine s_val hF (x_assign rfl) (by decide) fun a hF => ?_
    refine s_end (hK44 _ _ ?_)
    refine wp_if hF rfl ?_
    refine wp_seq_k fun K47 hK47 => ?_
    refine wp_rs fun K48 hK48 => ?_
    refine s_val hF (x_eql (b := false) (decide_eq_false (by omega)) rfl rfl) (by decide) fun a hF => ?_
    refine s_val hF (x_assign rfl) (by decide) fun a hF => ?_
    refine s_end (hK48 _ _ ?_)
    refine wp_if hF rfl ?_
    refine wp_rs fun K49 hK49 => ?_
    refine s_val hF (x_eql (b := false) (decide_eq_false (by omega)) rfl rfl) (by decide) fun a hF => ?_
    refine s_val hF (x_assign rfl) (by decide) fun a hF => ?_
    refine s_end (hK49 _ _ ?_)
    refine wp_if hF rfl ?_
    refine wp_region_lit ?_
    refine s_val hF (x_eql (b := true) (decide_eq_true (by omega)) rfl rfl) (by decide) fun a hF => ?_
    refine s_val hF (x_assign rfl) (by decide) fun a hF => ?_
    refine s_end (hK47 _ _ ?_)
    refine wp_if hF rfl ?_
    refine wp_rs fun K50 hK50 => ?_
    refine s_val hF (x_assign rfl) (by decide) fun a hF => ?_
    refine s_end (hK50 _ _ ?_)
    refine wp_ret (inb_ret (then_ret (res_slot hF rfl rfl ⟨by simp [arT, hk], rfl⟩)))
  · skip
    refine wp_rs fun K51 hK51 => ?_
    refine s_val hF (x_assign rfl) (by decide) fun a hF => ?_
    refine s_end (hK51 _ _ ?_)
    refine wp_seq_k fun K52 hK52 => ?_
    refine wp_rs fun K53 hK53 => ?_
    refine s_val hF (x_move rfl) (by decide) fun a hF => ?_
    refine s_end (hK53 _ _ ?_)
    refine wp_block ?_
    refine wp_seq_k fun K54 hK54 => ?_
    refine wp_rs fun K55 hK55 => ?_
    refine s_val hF (x_eql (b := false) (decide_eq_false (by omega)) rfl rfl) (by decide) fun a hF => ?_
    refine s_val hF (x_assign rfl) (by decide) fun a hF => ?_
    refine s_end (hK55 _ _ ?_)
    refine wp_if hF rfl ?_
    refine wp_rs fun K56 hK56 => ?_
    refine s_val hF (x_eql (b := false) (decide_eq_false (by omega)) rfl rfl) (by decide) fun a hF => ?_
    refine s_val hF (x_assign rfl) (by decide) fun a hF => ?_
    refine s_end (hK56 _ _ ?_)
    refine wp_if hF rfl ?_
    refine wp_region_lit ?_
    refine s_val hF (x_eql (b := false) (decide_eq_false (by omega)) rfl rfl) (by decide) fun a hF => ?_
    refine s_val hF (x_assign rfl) (by decide) fun a hF => ?_
    refine s_end (hK54 _ _ ?_)
    refine wp_if hF rfl ?_
    refine wp_seq_k fun K57 hK57 => ?_
    refine wp_rs fun K58 hK58 => ?_
    refine s_val hF (x_eql (b := false) (decide_eq_false (by omega)) rfl rfl) (by decide) fun a hF => ?_
    refine s_val hF (x_assign rfl) (by decide) fun a hF => ?_
    refine s_end (hK58 _ _ ?_)
    refine wp_if hF rfl ?_
    refine wp_rs fun K59 hK59 => ?_
    refine s_val hF (x_eql (b := false) (decide_eq_false (by omega)) rfl rfl) (by decide) fun a hF => ?_
    refine s_val hF (x_assign rfl) (by decide) fun a hF => ?_
    refine s_end (hK59 _ _ ?_)
    refine wp_if hF rfl ?_
    refine wp_region_lit ?_
    refine s_val hF (x_eql (b := false) (decide_eq_false (by omega)) rfl rfl) (by decide) fun a hF => ?_
    refine s_val hF (x_assign rfl) (by decide) fun a hF => ?_
    refine s_end (hK57 _ _ ?_)
    refine wp_if hF rfl ?_
    refine wp_rs fun K60 hK60 => ?_
    refine s_val hF (x_eql (b := true) (decide_eq_true (by omega)) rfl rfl) (by decide) fun a hF => ?_
    refine s_val hF (x_assign rfl) (by decide) fun a hF => ?_
    refine s_end (hK60 _ _ ?_)
    refine wp_if hF rfl ?_
    refine wp_rs fun K61 hK61 => ?_
    refine s_val hF (x_assign rfl) (by decide) fun a hF => ?_
    refine s_end (hK61 _ _ ?_)
    refine wp_ret (inb_ret (then_ret (res_slot hF rfl rfl ⟨by simp [arT, hk], rfl⟩)))
  · skip
    refine wp_rs fun K62 hK62 => ?_
    refine s_val hF (x_assign rfl) (by decide) fun a hF => ?_
    refine s_end (hK62 _ _ ?_)
    refine wp_seq_k fun K63 hK63 => ?_
    refine wp_rs fun K64 hK64 => ?_
    refine s_val hF (x_move rfl) (by decide) fun a hF => ?_
    refine s_end (hK64 _ _ ?_)
    refine wp_block ?_
    refine wp_seq_k fun K65 hK65 => ?_
    refine wp_rs fun K66 hK66 => ?_
    refine s_val hF (x_eql (b := false) (decide_eq_false (by omega)) rfl rfl) (by decide) fun a hF => ?_
    refine s_val hF (x_assign rfl) (by decide) fun a hF => ?_
    refine s_end (hK66 _ _ ?_)
    refine wp_if hF rfl ?_
    refine wp_rs fun K67 hK67 => ?_
    refine s_val hF (x_eql (b := false) (decide_eq_false (by omega)) rfl rfl) (by decide) fun a hF => ?_
    refine s_val hF (x_assign rfl) (by decide) fun a hF => ?_
    refine s_end (hK67 _ _ ?_)
    refine wp_if hF rfl ?_
    refine wp_region_lit ?_
    refine s_val hF (x_eql (b := false) (decide_eq_false (by omega)) rfl rfl) (by decide) fun a hF => ?_
    refine s_val hF (x_assign rfl) (by decide) fun a hF => ?_
    refine s_end (hK65 _ _ ?_)
    refine wp_if hF rfl ?_
    refine wp_seq_k fun K68 hK68 => ?_
    refine wp_rs fun K69 hK69 => ?_
    refine s_val hF (x_eql (b := false) (decide_eq_false (by omega)) rfl rfl) (by decide) fun a hF => ?_
    refine s_val hF (x_assign rfl) (by decide) fun a hF => ?_
    refine s_end (hK69 _ _ ?_)
    refine wp_if hF rfl ?_
    refine wp_rs fun K70 hK70 => ?_
    refine s_val hF (x_eql (b := false) (decide_eq_false (by omega)) rfl rfl) (by decide) fun a hF => ?_
    refine s_val hF (x_assign rfl) (by decide) fun a hF => ?_
    refine s_end (hK70 _ _ ?_)
    refine wp_if hF rfl ?_
    refine wp_region_lit ?_
    refine s_val hF (x_eql (b := false) (decide_eq_false (by omega)) rfl rfl) (by decide) fun a hF => ?_
    refine s_val hF (x_assign rfl) (by decide) fun a hF => ?_
    refine s_end (hK68 _ _ ?_)
    refine wp_if hF rfl ?_
    refine wp_rs fun K71 hK71 => ?_
    refine s_val hF (x_eql (b := false) (decide_eq_false (by omega)) rfl rfl) (by decide) fun a hF => ?_
    refine s_val hF (x_assign rfl) (by decide) fun a hF => ?_
    refine s_end (hK71 _ _ ?_)
    refine wp_if hF rfl ?_
    refine wp_skip (hK63 _ _ ?_)
    refine wp_rs fun K72 hK72 => ?_
    refine s_val hF (x_assign rfl) (by decide) fun a hF => ?_
    refine s_end (hK72 _ _ ?_)
    refine wp_ret (res_slot hF rfl rfl ⟨by simp [arT, hk], rfl⟩)

set_option maxRecDepth 100000 in
set_option maxHeartbeats 1600000 in
theorem kidsOf101 (c : CT) (x : C8) (A : Nat → Prop) (wa w0 : World) (hx : RC wa A c x) : Calls Try.prog 89 #[tv x] w0 fun e w' => ∃ v, e = .returned v ∧ RK wa A v c.kids ∧ Below w0.heap.size w0 w' := by
  obtain ⟨av, nv, cv, hts, hle, hlen, hcap, hkid⟩ := hx.kids
  obtain ⟨xk, xn, xs, xl, xls, xts⟩ := x
  simp only at hts
  subst hts
  have hkd : xk = c.kd := hx.kd
  have hone := hx.one
  have hB := Below.refl w0.heap.size w0
  have sB := hB.size
  refine calls_fs 20 [(0, tv ⟨xk, xn, xs, xl, xls, .slice av nv cv⟩)] Try.func89 rfl rfl rfl rfl rfl fun a hF => ?_
  rcases (show (arT xk ≤ nv ∧ (c.kids.length : Int) = max 0 (arT xk)) ∨ ((nv : Int) < arT xk ∧ c.kids.length = 0) by rw [hkd, hlen]; rcases CT.kids_arT hx with h | h <;> omega) with hk | hk
  · skip
    refine wp_rs fun K2 hK2 => ?_
    refine s_box ([.int .i64 xk, .int .i64 xn, .string xs, .int .i64 xl.1, .int .i64 xl.2.1, xl.2.2, xls, .slice av nv cv]) hF (by decide) rfl rfl fun w2 b1 a eb1 m1 B3 zb1 hF => ?_
    have sB3 := B3.size
    have hB := hB.trans (B3.mono hB.size)
    refine s_val hF (x_assign rfl) (by decide) fun a hF => ?_
    refine s_end (hK2 _ _ ?_)
    refine wp_rs fun K3 hK3 => ?_
    refine s_val hF (x_fa0 fa27_0 rfl) (by decide) fun a hF => ?_
    refine s_val hF (x_load rfl (m_load flat3 (m1.cell (j := 0) rfl))) (by decide) fun a hF => ?_
    refine s_callS [_] hF (enters_of Try.func97 (by kernel_rfl) rfl) rfl (by decide) (arity109 xk w2) fun a hF => ?_
    refine s_val hF (x_move rfl) (by decide) fun a hF => ?_
    refine s_val hF (x_ext rfl rfl) (by decide) fun a hF => ?_
    refine s_val hF (x_ext rfl rfl) (by decide) fun a hF => ?_
    refine s_val hF (x_assign rfl) (by decide) fun a hF => ?_
    refine s_val hF (x_assign rfl) (by decide) fun a hF => ?_
    refine s_end (hK3 _ _ ?_)
    refine wp_seq_k fun K4 hK4 => ?_
    refine wp_rs fun K5 hK5 => ?_
    refine s_val hF (x_fa0 fa27_5 rfl) (by decide) fun a hF => ?_
    refine s_val hF (x_load rfl (m_load flat25 (m1.cell (j := 7) rfl))) (by decide) fun a hF => ?_
    refine s_val hF (x_len Try.underlying25 rfl) (by decide) fun a hF => ?_
    refine s_val hF (x_move rfl) (by decide) fun a hF => ?_
    refine s_val hF (x_lss (b := false) (decide_eq_false (by omega)) rfl rfl) (by decide) fun a hF => ?_
    refine s_end (hK5 _ _ ?_)
    refine wp_if hF rfl ?_
    refine wp_skip (hK4 _ _ ?_)
    refine wp_rs fun K6 hK6 => ?_
    refine s_val hF (x_fa0 fa27_5 rfl) (by decide) fun a hF => ?_
    refine s_val hF (x_load rfl (m_load flat25 (m1.cell (j := 7) rfl))) (by decide) fun a hF => ?_
    refine s_val hF (x_move rfl) (by decide) fun a hF => ?_
    refine s_val hF (x_slice (vlo := none) (vhi := some _) (vmx := none) rfl rfl rfl rfl (m_sliceUK c.kids.length Try.underlying25 el25.size (by omega) (by omega))) (by decide) fun a hF => ?_
    refine s_val hF (x_assign rfl) (by decide) fun a hF => ?_
    refine s_end (hK6 _ _ ?_)
    refine wp_ret (res_slot hF rfl rfl ⟨_, rfl, hkid, hB⟩)
  · skip
    refine wp_rs fun K7 hK7 => ?_
    refine s_box ([.int .i64 xk, .int .i64 xn, .string xs, .int .i64 xl.1, .int .i64 xl.2.1, xl.2.2, xls, .slice av nv cv]) hF (by decide) rfl rfl fun w4 b1 a eb1 m1 B5 zb1 hF => ?_
    have sB5 := B5.size
    have hB := hB.trans (B5.mono hB.size)
    refine s_val hF (x_assign rfl) (by decide) fun a hF => ?_
    refine s_end (hK7 _ _ ?_)
    refine wp_rs fun K8 hK8 => ?_
    refine s_val hF (x_fa0 fa27_0 rfl) (by decide) fun a hF => ?_
    refine s_val hF (x_load rfl (m_load flat3 (m1.cell (j := 0) rfl))) (by decide) fun a hF => ?_
    refine s_callS [_] hF (enters_of Try.func97 (by kernel_rfl) rfl) rfl (by decide) (arity109 xk w4) fun a hF => ?_
    refine s_val hF (x_move rfl) (by decide) fun a hF => ?_
    refine s_val hF (x_ext rfl rfl) (by decide) fun a hF => ?_
    refine s_val hF (x_ext rfl rfl) (by decide) fun a hF => ?_
    refine s_val hF (x_assign rfl) (by decide) fun a hF => ?_
    refine s_val hF (x_assign rfl) (by decide) fun a hF => ?_
    refine s_end (hK8 _ _ ?_)
    refine wp_seq_k fun K9 hK9 => ?_
    refine wp_rs fun K10 hK10 => ?_
    refine s_val hF (x_fa0 fa27_5 rfl) (by decide) fun a hF => ?_
    refine s_val hF (x_load rfl (m_load flat25 (m1.cell (j := 7) rfl))) (by decide) fun a hF => ?_
    refine s_val hF (x_len Try.underlying25 rfl) (by decide) fun a hF => ?_
    refine s_val hF (x_move rfl) (by decide) fun a hF => ?_
    refine s_val hF (x_lss (b := true) (decide_eq_true (by omega)) rfl rfl) (by decide) fun a hF => ?_
    refine s_end (hK10 _ _ ?_)
    refine wp_if hF rfl ?_
    refine wp_rs fun K11 hK11 => ?_
    refine s_val hF (x_assign rfl) (by decide) fun a hF => ?_
    refine s_end (hK11 _ _ ?_)
    refine wp_ret (then_ret (res_slot hF rfl rfl ⟨_, rfl, (by rw [List.eq_nil_of_length_eq_zero hk.2]; exact RK.nil _ _), hB⟩))

set_option maxRecDepth 100000 in
set_option maxHeartbeats 1600000 in
theorem binds112 (c : CT) (x : C8) (A : Nat → Prop) (i : Nat) (wa w0 : World) (hx : RC wa A c x) (hi : i < c.kids.length) : Calls Try.prog 107 #[tv x, .int .i64 (i : Int)] w0 fun e w' => e = .returned (.int .i64 (c.bnd i)) ∧ Below w0.heap.size w0 w' := by
  have hx0 := hx
  have hbd := CT.bnd_eq hx hi
  have h3 := c.kids_le
  obtain ⟨av, nv, cv, hts, hle, hlen, hcap, hkid⟩ := hx.kids
  obtain ⟨xk, xn, xs, xl, xls, xts⟩ := x
  simp only at hts
  subst hts
  have hkd : xk = c.kd := hx.kd
  have hone := hx.one
  have hB := Below.refl w0.heap.size w0
  have sB := hB.size
  refine calls_fs 17 [(0, tv ⟨xk, xn, xs, xl, xls, .slice av nv cv⟩), (1, .int .i64 (i : Int))] Try.func107 rfl rfl rfl rfl rfl fun a hF => ?_
  rcases (show xk = 3 ∧ i + 1 = c.kids.length ∨ xk = 3 ∧ i + 1 ≠ c.kids.length ∨ xk = 4 ∧ i + 1 = c.kids.length ∨ xk = 4 ∧ i + 1 ≠ c.kids.length ∨ xk = 5 ∧ i + 1 = c.kids.length ∨ xk = 5 ∧ i + 1 ≠ c.kids.length ∨ xk ≠ 3 ∧ xk ≠ 4 ∧ xk ≠ 5 by omega) with hk | hk | hk | hk | hk | hk | hk
  · have hb9 : c.bnd i = 1 := by omega
    refine wp_rs fun K2 hK2 => ?_
    refine s_box ([.int .i64 xk, .int .i64 xn, .string xs, .int .i64 xl.1, .int .i64 xl.2.1, xl.2.2, xls, .slice av nv cv]) hF (by decide) rfl rfl fun w2 b2 a eb2 m2 B3 zb2 hF => ?_
    have sB3 := B3.size
    have hB := hB.trans (B3.mono hB.size)
    refine s_val hF (x_assign rfl) (by decide) fun a hF => ?_
    refine s_end (hK2 _ _ ?_)
    refine wp_seq_k fun K3 hK3 => ?_
    refine wp_rs fun K4 hK4 => ?_
    refine s_val hF (x_fa0 fa27_0 rfl) (by decide) fun a hF => ?_
    refine s_val hF (x_load rfl (m_load flat3 (m2.cell (j := 0) rfl))) (by decide) fun a hF => ?_
    refine s_end (hK4 _ _ ?_)
    refine wp_block ?_
    refine wp_seq_k fun K5 hK5 => ?_
    refine wp_rs fun K6 hK6 => ?_
    refine s_val hF (x_eql (b := true) (decide_eq_true (by omega)) rfl rfl) (by decide) fun a hF => ?_
    refine s_val hF (x_assign rfl) (by decide) fun a hF => ?_
    refine s_end (hK6 _ _ ?_)
    refine wp_if hF rfl ?_
    refine wp_skip (hK5 _ _ ?_)
    refine wp_if hF rfl ?_
    refine wp_rs fun K7 hK7 => ?_
    refine s_val hF (x_move rfl) (by decide) fun a hF => ?_
    refine s_val hF (x_ldW wide27 m2 rfl rfl) (by decide) fun a hF => ?_
    refine s_callR (R := fun v w' => RK wa A v c.kids) [_] hF (enters_of Try.func89 (by kernel_rfl) rfl) rfl (by decide) (kidsOf101 c ⟨xk, xn, xs, xl, xls, .slice av nv cv⟩ A wa w2 hx) ?_
    rintro v13 w4 a hv13 B5 hF
    have sB5 := B5.size
    have hB := hB.trans (B5.mono hB.size)
    have m2 := m2.old B5
    obtain ⟨a13, c13, hve, _⟩ := hv13.form
    subst hve
    refine s_val hF (x_len Try.underlying25 rfl) (by decide) fun a hF => ?_
    refine s_val hF (x_sub (by omega) (by omega) rfl rfl) (by decide) fun a hF => ?_
    refine s_val hF (x_eql (b := true) (decide_eq_true (by omega)) rfl rfl) (by decide) fun a hF => ?_
    refine s_end (hK7 _ _ ?_)
    refine wp_if hF rfl ?_
    refine wp_rs fun K8 hK8 => ?_
    refine s_val hF (x_assign rfl) (by decide) fun a hF => ?_
    refine s_end (hK8 _ _ ?_)
    refine wp_ret (inb_ret (then_ret (res_slot hF rfl rfl ⟨by rw [hb9], hB⟩)))
  · have hb9 : c.bnd i = 0 := by omega
    refine wp_rs fun K9 hK9 => ?_
    refine s_box ([.int .i64 xk, .int .i64 xn, .string xs, .int .i64 xl.1, .int .i64 xl.2.1, xl.2.2, xls, .slice av nv cv]) hF (by decide) rfl rfl fun w6 b2 a eb2 m2 B7 zb2 hF => ?_
    have sB7 := B7.size
    have hB := hB.trans (B7.mono hB.size)
    refine s_val hF (x_assign rfl) (by decide) fun a hF => ?_
    refine s_end (hK9 _ _ ?_)
    refine wp_seq_k fun K10 hK10 => ?_
    refine wp_rs fun K11 hK11 => ?_
    refine s_val hF (x_fa0 fa27_0 rfl) (by decide) fun a hF => ?_
    refine s_val hF (x_load rfl (m_load flat3 (m2.cell (j := 0) rfl))) (by decide) fun a hF => ?_
    refine s_end (hK11 _ _ ?_)
    refine wp_block ?_
    refine wp_seq_k fun K12 hK12 => ?_
    refine wp_rs fun K13 hK13 => ?_
    refine s_val hF (x_eql (b := true) (decide_eq_true (by omega)) rfl rfl) (by decide) fun a hF => ?_
    refine s_val hF (x_assign rfl) (by decide) fun a hF => ?_
    refine s_end (hK13 _ _ ?_)
    refine wp_if hF rfl ?_
    refine wp_skip (hK12 _ _ ?_)
    refine wp_if hF rfl ?_
    refine wp_rs fun K14 hK14 => ?_
    refine s_val hF (x_move rfl) (by decide) fun a hF => ?_
    refine s_val hF (x_ldW wide27 m2 rfl rfl) (by decide) fun a hF => ?_
    refine s_callR (R := fun v w' => RK wa A v c.kids) [_] hF (enters_of Try.func89 (by kernel_rfl) rfl) rfl (by decide) (kidsOf101 c ⟨xk, xn, xs, xl, xls, .slice av nv cv⟩ A wa w6 hx) ?_
    rintro v13 w8 a hv13 B9 hF
    have sB9 := B9.size
    have hB := hB.trans (B9.mono hB.size)
    have m2 := m2.old B9
    obtain ⟨a13, c13, hve, _⟩ := hv13.form
    subst hve
    refine s_val hF (x_len Try.underlying25 rfl) (by decide) fun a hF => ?_
    refine s_val hF (x_sub (by omega) (by omega) rfl rfl) (by decide) fun a hF => ?_
    refine s_val hF (x_eql (b := false) (decide_eq_false (by omega)) rfl rfl) (by decide) fun a hF => ?_
    refine s_end (hK14 _ _ ?_)
    refine wp_if hF rfl ?_
    refine wp_skip (hK10 _ _ ?_)
    refine wp_rs fun K15 hK15 => ?_
    refine s_val hF (x_assign rfl) (by decide) fun a hF => ?_
    refine s_end (hK15 _ _ ?_)
    refine wp_ret (res_slot hF rfl rfl ⟨by rw [hb9], hB⟩)
  · have hb9 : c.bnd i = 1 := by omega
    refine wp_rs fun K16 hK16 => ?_
    refine s_box ([.int .i64 xk, .int .i64 xn, .string xs, .int .i64 xl.1, .int .i64 xl.2.1, xl.2.2, xls, .slice av nv cv]) hF (by decide) rfl rfl fun w10 b2 a eb2 m2 B11 zb2 hF => ?_
    have sB11 := B11.size
    have hB := hB.trans (B11.mono hB.size)
    refine s_val hF (x_assign rfl) (by decide) fun a hF => ?_
    refine s_end (hK16 _ _ ?_)
    refine wp_seq_k fun K17 hK17 => ?_
    refine wp_rs fun K18 hK18 => ?_
    refine s_val hF (x_fa0 fa27_0 rfl) (by decide) fun a hF => ?_
    refine s_val hF (x_load rfl (m_load flat3 (m2.cell (j := 0) rfl))) (by decide) fun a hF => ?_
    refine s_end (hK18 _ _ ?_)
    refine wp_block ?_
    refine wp_seq_k fun K19 hK19 => ?_
    refine wp_rs fun K20 hK20 => ?_
    refine s_val hF (x_eql (b := false) (decide_eq_false (by omega)) rfl rfl) (by decide) fun a hF => ?_
    refine s_val hF (x_assign rfl) (by decide) fun a hF => ?_
    refine s_end (hK20 _ _ ?_)
    refine wp_if hF rfl ?_
    refine wp_rs fun K21 hK21 => ?_
    refine s_val hF (x_eql (b := true) (decide_eq_true (by omega)) rfl rfl) (by decide) fun a hF => ?_
    refine s_val hF (x_assign rfl) (by decide) fun a hF => ?_
    refine s_end (hK21 _ _ ?_)
    refine wp_if hF rfl ?_
    refine wp_skip (hK19 _ _ ?_)
    refine wp_if hF rfl ?_
    refine wp_rs fun K22 hK22 => ?_
    refine s_val hF (x_move rfl) (by decide) fun a hF => ?_
    refine s_val hF (x_ldW wide27 m2 rfl rfl) (by decide) fun a hF => ?_
    refine s_callR (R := fun v w' => RK wa A v c.kids) [_] hF (enters_of Try.func89 (by kernel_rfl) rfl) rfl (by decide) (kidsOf101 c ⟨xk, xn, xs, xl, xls, .slice av nv cv⟩ A wa w10 hx) ?_
    rintro v13 w12 a hv13 B13 hF
    have sB13 := B13.size
    have hB := hB.trans (B13.mono hB.size)
    have m2 := m2.old B13
    obtain ⟨a13, c13, hve, _⟩ := hv13.form
    subst hve
    refine s_val hF (x_len Try.underlying25 rfl) (by decide) fun a hF => ?_
    refine s_val hF (x_sub (by omega) (by omega) rfl rfl) (by decide) fun a hF => ?_
    refine s_val hF (x_eql (b := true) (decide_eq_true (by omega)) rfl rfl) (by decide) fun a hF => ?_
    refine s_end (hK22 _ _ ?_)
    refine wp_if hF rfl ?_
    refine wp_rs fun K23 hK23 => ?_
    refine s_val hF (x_assign rfl) (by decide) fun a hF => ?_
    refine s_end (hK23 _ _ ?_)
    refine wp_ret (inb_ret (then_ret (res_slot hF rfl rfl ⟨by rw [hb9], hB⟩)))
  · have hb9 : c.bnd i = 0 := by omega
    refine wp_rs fun K24 hK24 => ?_
    refine s_box ([.int .i64 xk, .int .i64 xn, .string xs, .int .i64 xl.1, .int .i64 xl.2.1, xl.2.2, xls, .slice av nv cv]) hF (by decide) rfl rfl fun w14 b2 a eb2 m2 B15 zb2 hF => ?_
    have sB15 := B15.size
    have hB := hB.trans (B15.mono hB.size)
    refine s_val hF (x_assign rfl) (by decide) fun a hF => ?_
    refine s_end (hK24 _ _ ?_)
    refine wp_seq_k fun K25 hK25 => ?_
    refine wp_rs fun K26 hK26 => ?_
    refine s_val hF (x_fa0 fa27_0 rfl) (by decide) fun a hF => ?_
    refine s_val hF (x_load rfl (m_load flat3 (m2.cell (j := 0) rfl))) (by decide) fun a hF => ?_
    refine s_end (hK26 _ _ ?_)
    refine wp_block ?_
    refine wp_seq_k fun K27 hK27 => ?_
    refine wp_rs fun K28 hK28 => ?_
    refine s_val hF (x_eql (b := false) (decide_eq_false (by omega)) rfl rfl) (by decide) fun a hF => ?_
    refine s_val hF (x_assign rfl) (by decide) fun a hF => ?_
    refine s_end (hK28 _ _ ?_)
    refine wp_if hF rfl ?_
    refine wp_rs fun K29 hK29 => ?_
    refine s_val hF (x_eql (b := true) (decide_eq_true (by omega)) rfl rfl) (by decide) fun a hF => ?_
    refine s_val hF (x_assign rfl) (by decide) fun a hF => ?_
    refine s_end (hK29 _ _ ?_)
    refine wp_if hF rfl ?_
    refine wp_skip (hK27 _ _ ?_)
    refine wp_if hF rfl ?_
    refine wp_rs fun K30 hK30 => ?_
    refine s_val hF (x_move rfl) (by decide) fun a hF => ?_
    refine s_val hF (x_ldW wide27 m2 rfl rfl) (by decide) fun a hF => ?_
    refine s_callR (R := fun v w' => RK wa A v c.kids) [_] hF (enters_of Try.func89 (by kernel_rfl) rfl) rfl (by decide) (kidsOf101 c ⟨xk, xn, xs, xl, xls, .slice av nv cv⟩ A wa w14 hx) ?_
    rintro v13 w16 a hv13 B17 hF
    have sB17 := B17.size
    have hB := hB.trans (B17.mono hB.size)
    have m2 := m2.old B17
    obtain ⟨a13, c13, hve, _⟩ := hv13.form
    subst hve
    refine s_val hF (x_len Try.underlying25 rfl) (by decide) fun a hF => ?_
    refine s_val hF (x_sub (by omega) (by omega) rfl rfl) (by decide) fun a hF => ?_
    refine s_val hF (x_eql (b := false) (decide_eq_false (by omega)) rfl rfl) (by decide) fun a hF => ?_
    refine s_end (hK30 _ _ ?_)
    refine wp_if hF rfl ?_
    refine wp_skip (hK25 _ _ ?_)
    refine wp_rs fun K31 hK31 => ?_
    refine s_val hF (x_assign rfl) (by decide) fun a hF => ?_
    refine s_end (hK31 _ _ ?_)
    refine wp_ret (res_slot hF rfl rfl ⟨by rw [hb9], hB⟩)
  · have hb9 : c.bnd i = 1 := by omega
    refine wp_rs fun K32 hK32 => ?_
    refine s_box ([.int .i64 xk, .int .i64 xn, .string xs, .int .i64 xl.1, .int .i64 xl.2.1, xl.2.2, xls, .slice av nv cv]) hF (by decide) rfl rfl fun w18 b2 a eb2 m2 B19 zb2 hF => ?_
    have sB19 := B19.size
    have hB := hB.trans (B19.mono hB.size)
    refine s_val hF (x_assign rfl) (by decide) fun a hF => ?_
    refine s_end (hK32 _ _ ?_)
    refine wp_seq_k fun K33 hK33 => ?_
    refine wp_rs fun K34 hK34 => ?_
    refine s_val hF (x_fa0 fa27_0 rfl) (by decide) fun a hF => ?_
    refine s_val hF (x_load rfl (m_load flat3 (m2.cell (j := 0) rfl))) (by decide) fun a hF => ?_
    refine s_end (hK34 _ _ ?_)
    refine wp_block ?_
    refine wp_seq_k fun K35 hK35 => ?_
    refine wp_rs fun K36 hK36 => ?_
    refine s_val hF (x_eql (b := false) (decide_eq_false (by omega)) rfl rfl) (by decide) fun a hF => ?_
    refine s_val hF (x_assign rfl) (by decide) fun a hF => ?_
    refine s_end (hK36 _ _ ?_)
    refine wp_if hF rfl ?_
    refine wp_rs fun K37 hK37 => ?_
    refine s_val hF (x_eql (b := false) (decide_eq_false (by omega)) rfl rfl) (by decide) fun a hF => ?_
    refine s_val hF (x_assign rfl) (by decide) fun a hF => ?_
    refine s_end (hK37 _ _ ?_)
    refine wp_if hF rfl ?_
    refine wp_region_lit ?_
    refine s_val hF (x_eql (b := true) (decide_eq_true (by omega)) rfl rfl) (by decide) fun a hF => ?_
    refine s_val hF (x_assign rfl) (by decide) fun a hF => ?_
    refine s_end (hK35 _ _ ?_)
    refine wp_if hF rfl ?_
    refine wp_rs fun K38 hK38 => ?_
    refine s_val hF (x_move rfl) (by decide) fun a hF => ?_
    refine s_val hF (x_ldW wide27 m2 rfl rfl) (by decide) fun a hF => ?_
    refine s_callR (R := fun v w' => RK wa A v c.kids) [_] hF (enters_of Try.func89 (by kernel_rfl) rfl) rfl (by decide) (kidsOf101 c ⟨xk, xn, xs, xl, xls, .slice av nv cv⟩ A wa w18 hx) ?_
    rintro v13 w20 a hv13 B21 hF
    have sB21 := B21.size
    have hB := hB.trans (B21.mono hB.size)
    have m2 := m2.old B21
    obtain ⟨a13, c13, hve, _⟩ := hv13.form
    subst hve
    refine s_val hF (x_len Try.underlying25 rfl) (by decide) fun a hF => ?_
    refine s_val hF (x_sub (by omega) (by omega) rfl rfl) (by decide) fun a hF => ?_
    refine s_val hF (x_eql (b := true) (decide_eq_true (by omega)) rfl rfl) (by decide) fun a hF => ?_
    refine s_end (hK38 _ _ ?_)
    refine wp_if hF rfl ?_
    refine wp_rs fun K39 hK39 => ?_
    refine s_val hF (x_assign rfl) (by decide) fun a hF => ?_
    refine s_end (hK39 _ _ ?_)
    refine wp_ret (inb_ret (then_ret (res_slot hF rfl rfl ⟨by rw [hb9], hB⟩)))
  · have hb9 : c.bnd i = 0 := by omega
    refine wp_rs fun K40 hK40 => ?_
    refine s_box ([.int .i64 xk, .int .i64 xn, .string xs, .int .i64 xl.1, .int .i64 xl.2.1, xl.2.2, xls, .slice av nv cv]) hF (by decide) rfl rfl fun w22 b2 a eb2 m2 B23 zb2 hF => ?_
    have sB23 := B23.size
    have hB := hB.trans (B23.mono hB.size)
    refine s_val hF (x_assign rfl) (by decide) fun a hF => ?_
    refine s_end (hK40 _ _ ?_)
    refine wp_seq_k fun K41 hK41 => ?_
    refine wp_rs fun K42 hK42 => ?_
    refine s_val hF (x_fa0 fa27_0 rfl) (by decide) fun a hF => ?_
    refine s_val hF (x_load rfl (m_load flat3 (m2.cell (j := 0) rfl))) (by decide) fun a hF => ?_
    refine s_end (hK42 _ _ ?_)
    refine wp_block ?_
    refine wp_seq_k fun K43 hK43 => ?_
    refine wp_rs fun K44 hK44 => ?_
    refine s_val hF (x_eql (b := false) (decide_eq_false (by omega)) rfl rfl) (by decide) fun a hF => ?_
    refine s_val hF (x_assign rfl) (by decide) fun a hF => ?_
    refine s_end (hK44 _ _ ?_)
    refine wp_if hF rfl ?_
    refine wp_rs fun K45 hK45 => ?_
    refine s_val hF (x_eql (b := false) (decide_eq_false (by omega)) rfl rfl) (by decide) fun a hF => ?_
    refine s_val hF (x_assign rfl) (by decide) fun a hF => ?_
    refine s_end (hK45 _ _ ?_)
    refine wp_if hF rfl ?_
    refine wp_region_lit ?_
    refine s_val hF (x_eql (b := true) (decide_eq_true (by omega)) rfl rfl) (by decide) fun a hF => ?_
    refine s_val hF (x_assign rfl) (by decide) fun a hF => ?_
    refine s_end (hK43 _ _ ?_)
    refine wp_if hF rfl ?_
    refine wp_rs fun K46 hK46 => ?_
    refine s_val hF (x_move rfl) (by decide) fun a hF => ?_
    refine s_val hF (x_ldW wide27 m2 rfl rfl) (by decide) fun a hF => ?_
    refine s_callR (R := fun v w' => RK wa A v c.kids) [_] hF (enters_of Try.func89 (by kernel_rfl) rfl) rfl (by decide) (kidsOf101 c ⟨xk, xn, xs, xl, xls, .slice av nv cv⟩ A wa w22 hx) ?_
    rintro v13 w24 a hv13 B25 hF
    have sB25 := B25.size
    have hB := hB.trans (B25.mono hB.size)
    have m2 := m2.old B25
    obtain ⟨a13, c13, hve, _⟩ := hv13.form
    subst hve
    refine s_val hF (x_len Try.underlying25 rfl) (by decide) fun a hF => ?_
    refine s_val hF (x_sub (by omega) (by omega) rfl rfl) (by decide) fun a hF => ?_
    refine s_val hF (x_eql (b := false) (decide_eq_false (by omega)) rfl rfl) (by decide) fun a hF => ?_
    refine s_end (hK46 _ _ ?_)
    refine wp_if hF rfl ?_
    refine wp_skip (hK41 _ _ ?_)
    refine wp_rs fun K47 hK47 => ?_
    refine s_val hF (x_assign rfl) (by decide) fun a hF => ?_
    refine s_end (hK47 _ _ ?_)
    refine wp_ret (res_slot hF rfl rfl ⟨by rw [hb9], hB⟩)
  · have hb9 : c.bnd i = 0 := by omega
    refine wp_rs fun K48 hK48 => ?_
    refine s_box ([.int .i64 xk, .int .i64 xn, .string xs, .int .i64 xl.1, .int .i64 xl.2.1, xl.2.2, xls, .slice av nv cv]) hF (by decide) rfl rfl fun w26 b2 a eb2 m2 B27 zb2 hF => ?_
    have sB27 := B27.size
    have hB := hB.trans (B27.mono hB.size)
    refine s_val hF (x_assign rfl) (by decide) fun a hF => ?_
    refine s_end (hK48 _ _ ?_)
    refine wp_seq_k fun K49 hK49 => ?_
    refine wp_rs fun K50 hK50 => ?_
    refine s_val hF (x_fa0 fa27_0 rfl) (by decide) fun a hF => ?_
    refine s_val hF (x_load rfl (m_load flat3 (m2.cell (j := 0) rfl))) (by decide) fun a hF => ?_
    refine s_end (hK50 _ _ ?_)
    refine wp_block ?_
    refine wp_seq_k fun K51 hK51 => ?_
    refine wp_rs fun K52 hK52 => ?_
    refine s_val hF (x_eql (b := false) (decide_eq_false (by omega)) rfl rfl) (by decide) fun a hF => ?_
    refine s_val hF (x_assign rfl) (by decide) fun a hF => ?_
    refine s_end (hK52 _ _ ?_)
    refine wp_if hF rfl ?_
    refine wp_rs fun K53 hK53 => ?_
    refine s_val hF (x_eql (b := false) (decide_eq_false (by omega)) rfl rfl) (by decide) fun a hF => ?_
    refine s_val hF (x_assign rfl) (by decide) fun a hF => ?_
    refine s_end (hK53 _ _ ?_)
    refine wp_if hF rfl ?_
    refine wp_region_lit ?_
    refine s_val hF (x_eql (b := false) (decide_eq_false (by omega)) rfl rfl) (by decide) fun a hF => ?_
    refine s_val hF (x_assign rfl) (by decide) fun a hF => ?_
    refine s_end (hK51 _ _ ?_)
    refine wp_if hF rfl ?_
    refine wp_skip (hK49 _ _ ?_)
    refine wp_rs fun K54 hK54 => ?_
    refine s_val hF (x_assign rfl) (by decide) fun a hF => ?_
    refine s_end (hK54 _ _ ?_)
    refine wp_ret (res_slot hF rfl rfl ⟨by rw [hb9], hB⟩)

set_option maxRecDepth 100000 in
set_option maxHeartbeats 1600000 in
theorem isIn105 (n d : Int) (w0 : World) : Calls Try.prog 93 #[.agg [.int .i64 n, .int .i64 d].toArray] w0 fun e w' => e = .returned (.bool (decide (n ≤ 20000 ∧ d ≤ 2000))) ∧ Below w0.heap.size w0 w' := by
  have hB := Below.refl w0.heap.size w0
  have sB := hB.size
  refine calls_fs 11 [(0, .agg [.int .i64 n, .int .i64 d].toArray)] Try.func93 rfl rfl rfl rfl rfl fun a hF => ?_
  rcases (show (n ≤ 20000 ∧ d ≤ 2000) ∨ (n ≤ 20000 ∧ ¬ d ≤ 2000) ∨ ¬ n ≤ 20000 by omega) with hk | hk | hk
  · skip
    refine wp_rs fun K2 hK2 => ?_
    refine s_box ([.int .i64 n, .int .i64 d]) hF (by decide) rfl rfl fun w2 b1 a eb1 m1 B3 zb1 hF => ?_
    have sB3 := B3.size
    have hB := hB.trans (B3.mono hB.size)
    refine s_val hF (x_assign rfl) (by decide) fun a hF => ?_
    refine s_end (hK2 _ _ ?_)
    refine wp_rs fun K3 hK3 => ?_
    refine s_val hF (x_fa0 fa70_0 rfl) (by decide) fun a hF => ?_
    refine s_val hF (x_load rfl (m_load flat3 (m1.cell (j := 0) rfl))) (by decide) fun a hF => ?_
    refine s_val hF (x_leq (b := true) (decide_eq_true (by omega)) rfl rfl) (by decide) fun a hF => ?_
    refine s_val hF (x_move rfl) (by decide) fun a hF => ?_
    refine s_grd 6 hF rfl rfl rfl ?_
    refine s_val hF (x_fa0 fa70_1 rfl) (by decide) fun a hF => ?_
    refine s_grd 6 hF rfl rfl rfl ?_
    refine s_val hF (x_load rfl (m_load flat3 (m1.cell (j := 1) rfl))) (by decide) fun a hF => ?_
    refine s_grd 6 hF rfl rfl rfl ?_
    refine s_val hF (x_leq (b := true) (decide_eq_true (by omega)) rfl rfl) (by decide) fun a hF => ?_
    refine s_val hF (x_pick (b := true) rfl rfl) (by decide) fun a hF => ?_
    refine s_val hF (x_assign rfl) (by decide) fun a hF => ?_
    refine s_end (hK3 _ _ ?_)
    refine wp_ret (res_slot hF rfl rfl ⟨by rw [decide_eq_true (by omega)], hB⟩)
  · skip
    refine wp_rs fun K4 hK4 => ?_
    refine s_box ([.int .i64 n, .int .i64 d]) hF (by decide) rfl rfl fun w4 b1 a eb1 m1 B5 zb1 hF => ?_
    have sB5 := B5.size
    have hB := hB.trans (B5.mono hB.size)
    refine s_val hF (x_assign rfl) (by decide) fun a hF => ?_
    refine s_end (hK4 _ _ ?_)
    refine wp_rs fun K5 hK5 => ?_
    refine s_val hF (x_fa0 fa70_0 rfl) (by decide) fun a hF => ?_
    refine s_val hF (x_load rfl (m_load flat3 (m1.cell (j := 0) rfl))) (by decide) fun a hF => ?_
    refine s_val hF (x_leq (b := true) (decide_eq_true (by omega)) rfl rfl) (by decide) fun a hF => ?_
    refine s_val hF (x_move rfl) (by decide) fun a hF => ?_
    refine s_grd 6 hF rfl rfl rfl ?_
    refine s_val hF (x_fa0 fa70_1 rfl) (by decide) fun a hF => ?_
    refine s_grd 6 hF rfl rfl rfl ?_
    refine s_val hF (x_load rfl (m_load flat3 (m1.cell (j := 1) rfl))) (by decide) fun a hF => ?_
    refine s_grd 6 hF rfl rfl rfl ?_
    refine s_val hF (x_leq (b := false) (decide_eq_false (by omega)) rfl rfl) (by decide) fun a hF => ?_
    refine s_val hF (x_pick (b := true) rfl rfl) (by decide) fun a hF => ?_
    refine s_val hF (x_assign rfl) (by decide) fun a hF => ?_
    refine s_end (hK5 _ _ ?_)
    refine wp_ret (res_slot hF rfl rfl ⟨by rw [decide_eq_false (by omega)], hB⟩)
  · skip
    refine wp_rs fun K6 hK6 => ?_
    refine s_box ([.int .i64 n, .int .i64 d]) hF (by decide) rfl rfl fun w6 b1 a eb1 m1 B7 zb1 hF => ?_
    have sB7 := B7.size
    have hB := hB.trans (B7.mono hB.size)
    refine s_val hF (x_assign rfl) (by decide) fun a hF => ?_
    refine s_end (hK6 _ _ ?_)
    refine wp_rs fun K7 hK7 => ?_
    refine s_val hF (x_fa0 fa70_0 rfl) (by decide) fun a hF => ?_
    refine s_val hF (x_load rfl (m_load flat3 (m1.cell (j := 0) rfl))) (by decide) fun a hF => ?_
    refine s_val hF (x_leq (b := false) (decide_eq_false (by omega)) rfl rfl) (by decide) fun a hF => ?_
    refine s_val hF (x_move rfl) (by decide) fun a hF => ?_
    refine s_grdn 6 hF rfl rfl (by decide) fun a hF => ?_
    refine s_grdn 6 hF rfl rfl (by decide) fun a hF => ?_
    refine s_grdn 6 hF rfl rfl (by decide) fun a hF => ?_
    refine s_val hF (x_pick (b := false) rfl rfl) (by decide) fun a hF => ?_
    refine s_val hF (x_assign rfl) (by decide) fun a hF => ?_
    refine s_end (hK7 _ _ ?_)
    refine wp_ret (res_slot hF rfl rfl ⟨by rw [decide_eq_false (by omega)], hB⟩)

set_option maxRecDepth 100000 in
set_option maxHeartbeats 1600000 in
theorem isPlace121 (c : CT) (x : C8) (A : Nat → Prop) (d : Int) (wa w0 : World) (hx : RC wa A c x) : Calls Try.prog 102 #[tv x, .int .i64 d] w0 fun e w' => e = .returned (.bool (c.isV d)) ∧ Below w0.heap.size w0 w' := by
  have hV := CT.isV_eq hx d
  have hB := Below.refl w0.heap.size w0
  have sB := hB.size
  refine calls_fs 14 [(0, tv x), (1, .int .i64 d)] Try.func102 rfl rfl rfl rfl rfl fun a hF => ?_
  rcases (show (x.k = 1 ∧ x.n = d) ∨ (x.k = 1 ∧ x.n ≠ d) ∨ x.k ≠ 1 by omega) with hk | hk | hk
  · skip
    refine wp_rs fun K2 hK2 => ?_
    refine s_box ([.int .i64 x.k, .int .i64 x.n, .string x.s, .int .i64 x.l.1, .int .i64 x.l.2.1, x.l.2.2, x.ls, x.ts]) hF (by decide) rfl rfl fun w2 b2 a eb2 m2 B3 zb2 hF => ?_
    have sB3 := B3.size
    have hB := hB.trans (B3.mono hB.size)
    refine s_val hF (x_assign rfl) (by decide) fun a hF => ?_
    refine s_end (hK2 _ _ ?_)
    refine wp_rs fun K3 hK3 => ?_
    refine s_val hF (x_fa0 fa27_0 rfl) (by decide) fun a hF => ?_
    refine s_val hF (x_load rfl (m_load flat3 (m2.cell (j := 0) rfl))) (by decide) fun a hF => ?_
    refine s_val hF (x_eql (b := true) (decide_eq_true (by omega)) rfl rfl) (by decide) fun a hF => ?_
    refine s_val hF (x_move rfl) (by decide) fun a hF => ?_
    refine s_grd 8 hF rfl rfl rfl ?_
    refine s_val hF (x_fa0 fa27_1 rfl) (by decide) fun a hF => ?_
    refine s_grd 8 hF rfl rfl rfl ?_
    refine s_val hF (x_load rfl (m_load flat3 (m2.cell (j := 1) rfl))) (by decide) fun a hF => ?_
    refine s_grd 8 hF rfl rfl rfl ?_
    refine s_val hF (x_move rfl) (by decide) fun a hF => ?_
    refine s_grd 8 hF rfl rfl rfl ?_
    refine s_val hF (x_eql (b := true) (decide_eq_true (by omega)) rfl rfl) (by decide) fun a hF => ?_
    refine s_val hF (x_pick (b := true) rfl rfl) (by decide) fun a hF => ?_
    refine s_val hF (x_assign rfl) (by decide) fun a hF => ?_
    refine s_end (hK3 _ _ ?_)
    refine wp_ret (res_slot hF rfl rfl ⟨by rw [hV]; simp [hk], hB⟩)
  · skip
    refine wp_rs fun K4 hK4 => ?_
    refine s_box ([.int .i64 x.k, .int .i64 x.n, .string x.s, .int .i64 x.l.1, .int .i64 x.l.2.1, x.l.2.2, x.ls, x.ts]) hF (by decide) rfl rfl fun w4 b2 a eb2 m2 B5 zb2 hF => ?_
    have sB5 := B5.size
    have hB := hB.trans (B5.mono hB.size)
    refine s_val hF (x_assign rfl) (by decide) fun a hF => ?_
    refine s_end (hK4 _ _ ?_)
    refine wp_rs fun K5 hK5 => ?_
    refine s_val hF (x_fa0 fa27_0 rfl) (by decide) fun a hF => ?_
    refine s_val hF (x_load rfl (m_load flat3 (m2.cell (j := 0) rfl))) (by decide) fun a hF => ?_
    refine s_val hF (x_eql (b := true) (decide_eq_true (by omega)) rfl rfl) (by decide) fun a hF => ?_
    refine s_val hF (x_move rfl) (by decide) fun a hF => ?_
    refine s_grd 8 hF rfl rfl rfl ?_
    refine s_val hF (x_fa0 fa27_1 rfl) (by decide) fun a hF => ?_
    refine s_grd 8 hF rfl rfl rfl ?_
    refine s_val hF (x_load rfl (m_load flat3 (m2.cell (j := 1) rfl))) (by decide) fun a hF => ?_
    refine s_grd 8 hF rfl rfl rfl ?_
    refine s_val hF (x_move rfl) (by decide) fun a hF => ?_
    refine s_grd 8 hF rfl rfl rfl ?_
    refine s_val hF (x_eql (b := false) (decide_eq_false (by omega)) rfl rfl) (by decide) fun a hF => ?_
    refine s_val hF (x_pick (b := true) rfl rfl) (by decide) fun a hF => ?_
    refine s_val hF (x_assign rfl) (by decide) fun a hF => ?_
    refine s_end (hK5 _ _ ?_)
    refine wp_ret (res_slot hF rfl rfl ⟨by rw [hV]; simp [hk], hB⟩)
  · skip
    refine wp_rs fun K6 hK6 => ?_
    refine s_box ([.int .i64 x.k, .int .i64 x.n, .string x.s, .int .i64 x.l.1, .int .i64 x.l.2.1, x.l.2.2, x.ls, x.ts]) hF (by decide) rfl rfl fun w6 b2 a eb2 m2 B7 zb2 hF => ?_
    have sB7 := B7.size
    have hB := hB.trans (B7.mono hB.size)
    refine s_val hF (x_assign rfl) (by decide) fun a hF => ?_
    refine s_end (hK6 _ _ ?_)
    refine wp_rs fun K7 hK7 => ?_
    refine s_val hF (x_fa0 fa27_0 rfl) (by decide) fun a hF => ?_
    refine s_val hF (x_load rfl (m_load flat3 (m2.cell (j := 0) rfl))) (by decide) fun a hF => ?_
    refine s_val hF (x_eql (b := false) (decide_eq_false (by omega)) rfl rfl) (by decide) fun a hF => ?_
    refine s_val hF (x_move rfl) (by decide) fun a hF => ?_
    refine s_grdn 8 hF rfl rfl (by decide) fun a hF => ?_
    refine s_grdn 8 hF rfl rfl (by decide) fun a hF => ?_
    refine s_grdn 8 hF rfl rfl (by decide) fun a hF => ?_
    refine s_grdn 8 hF rfl rfl (by decide) fun a hF => ?_
    refine s_val hF (x_pick (b := false) rfl rfl) (by decide) fun a hF => ?_
    refine s_val hF (x_assign rfl) (by decide) fun a hF => ?_
    refine s_end (hK7 _ _ ?_)
    refine wp_ret (res_slot hF rfl rfl ⟨by rw [hV]; simp [hk], hB⟩)

set_option maxRecDepth 100000 in
set_option maxHeartbeats 1600000 in
theorem plus78 (n b : Int) (w0 : World) (hn : 0 ≤ n) (hn2 : n < 9223372036854775808) (hb : -9223372036854775808 ≤ b) : Calls Try.prog 80 #[.int .i64 n, .int .i64 b] w0 fun e w' => e = .returned (.int .i64 (min (n + b) 9223372036854775807)) ∧ w' = w0 := by
  refine calls_fs 12 [(0, .int .i64 n), (1, .int .i64 b)] Try.func80 rfl rfl rfl rfl rfl fun a hF => ?_
  rcases (show 9223372036854775807 - n < b ∨ ¬ 9223372036854775807 - n < b by omega) with hk | hk
  · skip
    refine wp_rs fun K2 hK2 => ?_
    refine s_val hF (x_assign rfl) (by decide) fun a hF => ?_
    refine s_end (hK2 _ _ ?_)
    refine wp_seq_k fun K3 hK3 => ?_
    refine wp_rs fun K4 hK4 => ?_
    refine s_val hF (x_move rfl) (by decide) fun a hF => ?_
    refine s_val hF (x_move rfl) (by decide) fun a hF => ?_
    refine s_val hF (x_sub (by omega) (by omega) rfl rfl) (by decide) fun a hF => ?_
    refine s_val hF (x_gtr (b := true) (decide_eq_true (by omega)) rfl rfl) (by decide) fun a hF => ?_
    refine s_end (hK4 _ _ ?_)
    refine wp_if hF rfl ?_
    refine wp_rs fun K5 hK5 => ?_
    refine s_val hF (x_assign rfl) (by decide) fun a hF => ?_
    refine s_end (hK5 _ _ ?_)
    refine wp_ret (then_ret (res_slot hF rfl rfl ⟨by rw [show min (n + b) 9223372036854775807 = 9223372036854775807 by omega], rfl⟩))
  · skip
    refine wp_rs fun K6 hK6 => ?_
    refine s_val hF (x_assign rfl) (by decide) fun a hF => ?_
    refine s_end (hK6 _ _ ?_)
    refine wp_seq_k fun K7 hK7 => ?_
    refine wp_rs fun K8 hK8 => ?_
    refine s_val hF (x_move rfl) (by decide) fun a hF => ?_
    refine s_val hF (x_move rfl) (by decide) fun a hF => ?_
    refine s_val hF (x_sub (by omega) (by omega) rfl rfl) (by decide) fun a hF => ?_
    refine s_val hF (x_gtr (b := false) (decide_eq_false (by omega)) rfl rfl) (by decide) fun a hF => ?_
    refine s_end (hK8 _ _ ?_)
    refine wp_if hF rfl ?_
    refine wp_skip (hK7 _ _ ?_)
    refine wp_rs fun K9 hK9 => ?_
    refine s_val hF (x_move rfl) (by decide) fun a hF => ?_
    refine s_val hF (x_move rfl) (by decide) fun a hF => ?_
    refine s_val hF (x_add (by omega) (by omega) rfl rfl) (by decide) fun a hF => ?_
    refine s_val hF (x_assign rfl) (by decide) fun a hF => ?_
    refine s_end (hK9 _ _ ?_)
    refine wp_ret (res_slot hF rfl rfl ⟨by rw [show min (n + b) 9223372036854775807 = n + b by omega], rfl⟩)

set_option maxRecDepth 100000 in
set_option maxHeartbeats 1600000 in
theorem var16 (n : Int) (w0 : World) (hn : in64 n) : Calls Try.prog 12 #[.int .i64 n] w0 fun e w' => ∃ v, e = .returned v ∧ (∃ y, v = tv y ∧ RC w' (fun _ => False) (.var n 0) y) ∧ Below w0.heap.size w0 w' := by
  have hB := Below.refl w0.heap.size w0
  have sB := hB.size
  refine calls_fs 5 [(0, .int .i64 n)] Try.func12 rfl rfl rfl rfl rfl fun a hF => ?_
  refine wp_rs fun K1 hK1 => ?_
  refine s_alloc hF (by decide) zero27 fun w2 b2 a eb2 m2 B3 zb2 hF => ?_
  have sB3 := B3.size
  have hB := hB.trans (B3.mono hB.size)
  refine s_end (hK1 _ _ ?_)
  refine wp_rs fun K2 hK2 => ?_
  refine s_val hF (x_move rfl) (by decide) fun a hF => ?_
  refine s_val hF (x_build (vs := [(0, _), (1, _)]) rfl (b27_01 _ _ _)) (by decide) fun a hF => ?_
  refine s_putW hF rfl rfl (size_wide wide27) m2 rfl (one_tc0 _ _ _ _ rfl) fun w6 m2 o7 => ?_
  have so7 := o7.size
  have hB := hB.trans (o7.below (by omega))
  refine s_end (hK2 _ _ ?_)
  refine wp_ret (res_cell hF rfl rfl m2 wide27 ⟨_, rfl, ⟨⟨1, n, emptyB, (0, 0, nilS), nilS, nilS⟩, rfl, rfl, rfl, hn, ⟨[], Rn.nil _ _ _⟩, ok0 _ _ _ _ _ _⟩, hB⟩)

set_option maxRecDepth 100000 in
set_option maxHeartbeats 1600000 in
theorem newRoom56 (w0 : World) : Calls Try.prog 45 #[] w0 fun e w' => ∃ v, e = .returned v ∧ (∃ br, v = .pointer (some ⟨br, 0, none⟩) ∧ w0.heap.size ≤ br ∧ Blk w' br 108 [.int .i64 2147483647]) ∧ Below w0.heap.size w0 w' := by
  have hB := Below.refl w0.heap.size w0
  have sB := hB.size
  refine calls_fs 3 [] Try.func45 rfl rfl rfl rfl rfl fun a hF => ?_
  refine wp_rs fun K1 hK1 => ?_
  refine s_val hF (x_assign rfl) (by decide) fun a hF => ?_
  refine s_end (hK1 _ _ ?_)
  refine wp_rs fun K2 hK2 => ?_
  refine s_val hF (x_build (vs := [(0, _)]) rfl (b110_0 _ _)) (by decide) fun a hF => ?_
  refine s_box ([.int .i64 2147483647]) hF (by decide) rfl rfl fun w2 b2 a eb2 m2 B3 zb2 hF => ?_
  have sB3 := B3.size
  have hB := hB.trans (B3.mono hB.size)
  refine s_val hF (x_assign rfl) (by decide) fun a hF => ?_
  refine s_end (hK2 _ _ ?_)
  refine wp_ret (res_slot hF rfl rfl ⟨_, rfl, ⟨b2, rfl, by omega, m2⟩, hB⟩)
end Go.Proofs.Ytaclncmkdpjnlaa
