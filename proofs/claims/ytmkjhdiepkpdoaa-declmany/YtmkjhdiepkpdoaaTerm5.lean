/- Num, Var, sum, hasKids, hasNumber, arity, join, succ. -/
import Derived.Test.YtmkjhdiepkpdoaaLevB
namespace Go.Proofs.Ytmkjhdiepkpdoaa
set_option maxRecDepth 100000
set_option maxHeartbeats 1600000
open Go.RowKit Go.Shelf
set_option linter.unusedVariables false
set_option linter.unusedSimpArgs false
def arI (k : Int) : Int := if k = 1 ∨ k = 2 then 0 else if k = 3 then 1 else if k = 4 then 2 else -1
theorem arity58 (k : Int) (w0 : World) : Calls Try.prog 123 #[.int .i64 k] w0 fun e w' => e = .returned (.int .i64 (arI k)) ∧ w' = w0 := by
 refine calls_fs 11 [(0, .int .i64 k)] Try.func123 rfl rfl rfl rfl rfl fun a F => ?_
 rcases (show k = 1 ∨ k = 2 ∨ k = 3 ∨ k = 4 ∨ (k ≠ 1 ∧ k ≠ 2 ∧ k ≠ 3 ∧ k ≠ 4) by omega) with hk | hk | hk | hk | hk
 ·
  skip
  refine wp_rs fun _ K2 => F.sg rfl fun a F => ?_
  refine s_end (K2 _ _ ?_)
  refine wp_seq_k fun _ K3 => ?_
  refine wp_rs fun _ K4 => F.mv rfl fun a F => ?_
  refine s_end (K4 _ _ ?_)
  refine wp_block ?_
  refine wp_seq_k fun _ K5 => ?_
  refine wp_rs fun _ K6 => F.vl (eqlT (by omega) rfl rfl) fun a F => F.sg rfl fun a F => ?_
  refine s_end (K6 _ _ ?_)
  refine wp_if F rfl ?_
  refine wp_skip (K5 _ _ ?_)
  refine wp_if F rfl ?_
  refine wp_rs fun _ K7 => F.sg rfl fun a F => ?_
  refine s_end (K7 _ _ ?_)
  refine wp_ret (inb_ret (then_ret (res_slot F rfl rfl ⟨by simp [arI, hk], rfl⟩)))
 ·
  skip
  refine wp_rs fun _ K8 => F.sg rfl fun a F => ?_
  refine s_end (K8 _ _ ?_)
  refine wp_seq_k fun _ K9 => ?_
  refine wp_rs fun _ K10 => F.mv rfl fun a F => ?_
  refine s_end (K10 _ _ ?_)
  refine wp_block ?_
  refine wp_seq_k fun _ K11 => ?_
  refine wp_rs fun _ K12 => F.vl (eqlF (by omega) rfl rfl) fun a F => F.sg rfl fun a F => ?_
  refine s_end (K12 _ _ ?_)
  refine wp_if F rfl ?_
  refine wp_region_lit ?_
  refine F.vl (eqlT (by omega) rfl rfl) fun a F => F.sg rfl fun a F => ?_
  refine s_end (K11 _ _ ?_)
  refine wp_if F rfl ?_
  refine wp_rs fun _ K13 => F.sg rfl fun a F => ?_
  refine s_end (K13 _ _ ?_)
  refine wp_ret (inb_ret (then_ret (res_slot F rfl rfl ⟨by simp [arI, hk], rfl⟩)))
 ·
  skip
  refine wp_rs fun _ K14 => F.sg rfl fun a F => ?_
  refine s_end (K14 _ _ ?_)
  refine wp_seq_k fun _ K15 => ?_
  refine wp_rs fun _ K16 => F.mv rfl fun a F => ?_
  refine s_end (K16 _ _ ?_)
  refine wp_block ?_
  refine wp_seq_k fun _ K17 => ?_
  refine wp_rs fun _ K18 => F.vl (eqlF (by omega) rfl rfl) fun a F => F.sg rfl fun a F => ?_
  refine s_end (K18 _ _ ?_)
  refine wp_if F rfl ?_
  refine wp_region_lit ?_
  refine F.vl (eqlF (by omega) rfl rfl) fun a F => F.sg rfl fun a F => ?_
  refine s_end (K17 _ _ ?_)
  refine wp_if F rfl ?_
  refine wp_rs fun _ K19 => F.vl (eqlT (by omega) rfl rfl) fun a F => F.sg rfl fun a F => ?_
  refine s_end (K19 _ _ ?_)
  refine wp_if F rfl ?_
  refine wp_rs fun _ K20 => F.sg rfl fun a F => ?_
  refine s_end (K20 _ _ ?_)
  refine wp_ret (inb_ret (then_ret (res_slot F rfl rfl ⟨by simp [arI, hk], rfl⟩)))
 ·
  skip
  refine wp_rs fun _ K21 => F.sg rfl fun a F => ?_
  refine s_end (K21 _ _ ?_)
  refine wp_seq_k fun _ K22 => ?_
  refine wp_rs fun _ K23 => F.mv rfl fun a F => ?_
  refine s_end (K23 _ _ ?_)
  refine wp_block ?_
  refine wp_seq_k fun _ K24 => ?_
  refine wp_rs fun _ K25 => F.vl (eqlF (by omega) rfl rfl) fun a F => F.sg rfl fun a F => ?_
  refine s_end (K25 _ _ ?_)
  refine wp_if F rfl ?_
  refine wp_region_lit ?_
  refine F.vl (eqlF (by omega) rfl rfl) fun a F => F.sg rfl fun a F => ?_
  refine s_end (K24 _ _ ?_)
  refine wp_if F rfl ?_
  refine wp_rs fun _ K26 => F.vl (eqlF (by omega) rfl rfl) fun a F => F.sg rfl fun a F => ?_
  refine s_end (K26 _ _ ?_)
  refine wp_if F rfl ?_
  refine wp_rs fun _ K27 => F.vl (eqlT (by omega) rfl rfl) fun a F => F.sg rfl fun a F => ?_
  refine s_end (K27 _ _ ?_)
  refine wp_if F rfl ?_
  refine wp_rs fun _ K28 => F.sg rfl fun a F => ?_
  refine s_end (K28 _ _ ?_)
  refine wp_ret (inb_ret (then_ret (res_slot F rfl rfl ⟨by simp [arI, hk], rfl⟩)))
 ·
  skip
  refine wp_rs fun _ K29 => F.sg rfl fun a F => ?_
  refine s_end (K29 _ _ ?_)
  refine wp_seq_k fun _ K30 => ?_
  refine wp_rs fun _ K31 => F.mv rfl fun a F => ?_
  refine s_end (K31 _ _ ?_)
  refine wp_block ?_
  refine wp_seq_k fun _ K32 => ?_
  refine wp_rs fun _ K33 => F.vl (eqlF (by omega) rfl rfl) fun a F => F.sg rfl fun a F => ?_
  refine s_end (K33 _ _ ?_)
  refine wp_if F rfl ?_
  refine wp_region_lit ?_
  refine F.vl (eqlF (by omega) rfl rfl) fun a F => F.sg rfl fun a F => ?_
  refine s_end (K32 _ _ ?_)
  refine wp_if F rfl ?_
  refine wp_rs fun _ K34 => F.vl (eqlF (by omega) rfl rfl) fun a F => F.sg rfl fun a F => ?_
  refine s_end (K34 _ _ ?_)
  refine wp_if F rfl ?_
  refine wp_rs fun _ K35 => F.vl (eqlF (by omega) rfl rfl) fun a F => F.sg rfl fun a F => ?_
  refine s_end (K35 _ _ ?_)
  refine wp_if F rfl ?_
  refine wp_skip (K30 _ _ ?_)
  refine wp_rs fun _ K36 => F.sg rfl fun a F => ?_
  refine s_end (K36 _ _ ?_)
  refine wp_ret (res_slot F rfl rfl ⟨by simp [arI, hk], rfl⟩)
theorem hasKids56 (k n : Int) (v : Value) (len : Nat) (cs : List Value) (w0 : World) (hR : Rd w0 v 3 len cs) : Calls Try.prog 168 #[.agg [.int .i64 k, .int .i64 n, v].toArray] w0 fun e w' => e = .returned (.bool (kidsB k len)) ∧ Below w0.heap.size w0 w' := by
 obtain ⟨av, cv, rfl, _⟩ := hR.form
 have hB := Below.refl w0.heap.size w0
 have sB := hB.size
 refine calls_fs 24 [(0, .agg [.int .i64 k, .int .i64 n, .slice av len cv].toArray)] Try.func168 rfl rfl rfl rfl rfl fun a F => ?_
 rcases (show k = 1 ∨ k = 2 ∨ k = 3 ∨ k = 4 ∨ (k ≠ 1 ∧ k ≠ 2 ∧ k ≠ 3 ∧ k ≠ 4) by omega) with hk | hk | hk | hk | hk
 ·
  skip
  refine wp_rs fun _ K2 => ?_
  refine s_box ([.int .i64 k, .int .i64 n, .slice av len cv]) F (by decide) rfl rfl fun w2 b1 a eb1 m1 B3 zb1 F => ?_
  have sB3 := B3.size
  have hB := bt hB B3
  refine F.sg rfl fun a F => ?_
  refine s_end (K2 _ _ ?_)
  refine wp_seq_k fun _ K3 => ?_
  refine wp_rs fun _ K4 => F.vl (x_fa0 fa24_0 rfl) fun a F => F.ld m1 flat3 rfl rfl fun a F => ?_
  refine s_end (K4 _ _ ?_)
  refine wp_block ?_
  refine wp_seq_k fun _ K5 => ?_
  refine wp_rs fun _ K6 => F.vl (eqlT (by omega) rfl rfl) fun a F => F.sg rfl fun a F => ?_
  refine s_end (K6 _ _ ?_)
  refine wp_if F rfl ?_
  refine wp_skip (K5 _ _ ?_)
  refine wp_if F rfl ?_
  refine wp_rs fun _ K7 => F.vl (x_fa0 fa24_2 rfl) fun a F => F.ld m1 flat22 rfl rfl fun a F => F.vl (x_len Try.underlying22 rfl) fun a F => F.vl (x_eql (b := decide (len = 0)) (decide_eq_decide.2 (by omega)) rfl rfl) fun a F => F.sg rfl fun a F => ?_
  refine s_end (K7 _ _ ?_)
  refine wp_ret (inb_ret (then_ret (res_slot F rfl rfl ⟨by simp [kidsB, hk], hB⟩)))
 ·
  skip
  refine wp_rs fun _ K8 => ?_
  refine s_box ([.int .i64 k, .int .i64 n, .slice av len cv]) F (by decide) rfl rfl fun w4 b1 a eb1 m1 B5 zb1 F => ?_
  have sB5 := B5.size
  have hB := bt hB B5
  refine F.sg rfl fun a F => ?_
  refine s_end (K8 _ _ ?_)
  refine wp_seq_k fun _ K9 => ?_
  refine wp_rs fun _ K10 => F.vl (x_fa0 fa24_0 rfl) fun a F => F.ld m1 flat3 rfl rfl fun a F => ?_
  refine s_end (K10 _ _ ?_)
  refine wp_block ?_
  refine wp_seq_k fun _ K11 => ?_
  refine wp_rs fun _ K12 => F.vl (eqlF (by omega) rfl rfl) fun a F => F.sg rfl fun a F => ?_
  refine s_end (K12 _ _ ?_)
  refine wp_if F rfl ?_
  refine wp_region_lit ?_
  refine F.vl (eqlT (by omega) rfl rfl) fun a F => F.sg rfl fun a F => ?_
  refine s_end (K11 _ _ ?_)
  refine wp_if F rfl ?_
  refine wp_rs fun _ K13 => F.vl (x_fa0 fa24_2 rfl) fun a F => F.ld m1 flat22 rfl rfl fun a F => F.vl (x_len Try.underlying22 rfl) fun a F => F.vl (x_eql (b := decide (len = 0)) (decide_eq_decide.2 (by omega)) rfl rfl) fun a F => F.sg rfl fun a F => ?_
  refine s_end (K13 _ _ ?_)
  refine wp_ret (inb_ret (then_ret (res_slot F rfl rfl ⟨by simp [kidsB, hk], hB⟩)))
 ·
  skip
  refine wp_rs fun _ K14 => ?_
  refine s_box ([.int .i64 k, .int .i64 n, .slice av len cv]) F (by decide) rfl rfl fun w6 b1 a eb1 m1 B7 zb1 F => ?_
  have sB7 := B7.size
  have hB := bt hB B7
  refine F.sg rfl fun a F => ?_
  refine s_end (K14 _ _ ?_)
  refine wp_seq_k fun _ K15 => ?_
  refine wp_rs fun _ K16 => F.vl (x_fa0 fa24_0 rfl) fun a F => F.ld m1 flat3 rfl rfl fun a F => ?_
  refine s_end (K16 _ _ ?_)
  refine wp_block ?_
  refine wp_seq_k fun _ K17 => ?_
  refine wp_rs fun _ K18 => F.vl (eqlF (by omega) rfl rfl) fun a F => F.sg rfl fun a F => ?_
  refine s_end (K18 _ _ ?_)
  refine wp_if F rfl ?_
  refine wp_region_lit ?_
  refine F.vl (eqlF (by omega) rfl rfl) fun a F => F.sg rfl fun a F => ?_
  refine s_end (K17 _ _ ?_)
  refine wp_if F rfl ?_
  refine wp_rs fun _ K19 => F.vl (eqlT (by omega) rfl rfl) fun a F => F.sg rfl fun a F => ?_
  refine s_end (K19 _ _ ?_)
  refine wp_if F rfl ?_
  refine wp_rs fun _ K20 => F.vl (x_fa0 fa24_2 rfl) fun a F => F.ld m1 flat22 rfl rfl fun a F => F.vl (x_len Try.underlying22 rfl) fun a F => F.vl (x_eql (b := decide (len = 1)) (decide_eq_decide.2 (by omega)) rfl rfl) fun a F => F.sg rfl fun a F => ?_
  refine s_end (K20 _ _ ?_)
  refine wp_ret (inb_ret (then_ret (res_slot F rfl rfl ⟨by simp [kidsB, hk], hB⟩)))
 ·
  skip
  refine wp_rs fun _ K21 => ?_
  refine s_box ([.int .i64 k, .int .i64 n, .slice av len cv]) F (by decide) rfl rfl fun w8 b1 a eb1 m1 B9 zb1 F => ?_
  have sB9 := B9.size
  have hB := bt hB B9
  refine F.sg rfl fun a F => ?_
  refine s_end (K21 _ _ ?_)
  refine wp_seq_k fun _ K22 => ?_
  refine wp_rs fun _ K23 => F.vl (x_fa0 fa24_0 rfl) fun a F => F.ld m1 flat3 rfl rfl fun a F => ?_
  refine s_end (K23 _ _ ?_)
  refine wp_block ?_
  refine wp_seq_k fun _ K24 => ?_
  refine wp_rs fun _ K25 => F.vl (eqlF (by omega) rfl rfl) fun a F => F.sg rfl fun a F => ?_
  refine s_end (K25 _ _ ?_)
  refine wp_if F rfl ?_
  refine wp_region_lit ?_
  refine F.vl (eqlF (by omega) rfl rfl) fun a F => F.sg rfl fun a F => ?_
  refine s_end (K24 _ _ ?_)
  refine wp_if F rfl ?_
  refine wp_rs fun _ K26 => F.vl (eqlF (by omega) rfl rfl) fun a F => F.sg rfl fun a F => ?_
  refine s_end (K26 _ _ ?_)
  refine wp_if F rfl ?_
  refine wp_rs fun _ K27 => F.vl (eqlT (by omega) rfl rfl) fun a F => F.sg rfl fun a F => ?_
  refine s_end (K27 _ _ ?_)
  refine wp_if F rfl ?_
  refine wp_rs fun _ K28 => F.vl (x_fa0 fa24_2 rfl) fun a F => F.ld m1 flat22 rfl rfl fun a F => F.vl (x_len Try.underlying22 rfl) fun a F => F.vl (x_eql (b := decide (len = 2)) (decide_eq_decide.2 (by omega)) rfl rfl) fun a F => F.sg rfl fun a F => ?_
  refine s_end (K28 _ _ ?_)
  refine wp_ret (inb_ret (then_ret (res_slot F rfl rfl ⟨by simp [kidsB, hk], hB⟩)))
 ·
  skip
  refine wp_rs fun _ K29 => ?_
  refine s_box ([.int .i64 k, .int .i64 n, .slice av len cv]) F (by decide) rfl rfl fun w10 b1 a eb1 m1 B11 zb1 F => ?_
  have sB11 := B11.size
  have hB := bt hB B11
  refine F.sg rfl fun a F => ?_
  refine s_end (K29 _ _ ?_)
  refine wp_seq_k fun _ K30 => ?_
  refine wp_rs fun _ K31 => F.vl (x_fa0 fa24_0 rfl) fun a F => F.ld m1 flat3 rfl rfl fun a F => ?_
  refine s_end (K31 _ _ ?_)
  refine wp_block ?_
  refine wp_seq_k fun _ K32 => ?_
  refine wp_rs fun _ K33 => F.vl (eqlF (by omega) rfl rfl) fun a F => F.sg rfl fun a F => ?_
  refine s_end (K33 _ _ ?_)
  refine wp_if F rfl ?_
  refine wp_region_lit ?_
  refine F.vl (eqlF (by omega) rfl rfl) fun a F => F.sg rfl fun a F => ?_
  refine s_end (K32 _ _ ?_)
  refine wp_if F rfl ?_
  refine wp_rs fun _ K34 => F.vl (eqlF (by omega) rfl rfl) fun a F => F.sg rfl fun a F => ?_
  refine s_end (K34 _ _ ?_)
  refine wp_if F rfl ?_
  refine wp_rs fun _ K35 => F.vl (eqlF (by omega) rfl rfl) fun a F => F.sg rfl fun a F => ?_
  refine s_end (K35 _ _ ?_)
  refine wp_if F rfl ?_
  refine wp_skip (K30 _ _ ?_)
  refine wp_rs fun _ K36 => F.sg rfl fun a F => ?_
  refine s_end (K36 _ _ ?_)
  refine wp_ret (res_slot F rfl rfl ⟨by simp [kidsB, hk], hB⟩)
theorem hasNumber57 (k n top : Int) (v : Value) (w0 : World) : Calls Try.prog 169 #[.agg [.int .i64 k, .int .i64 n, v].toArray, .int .i64 top] w0 fun e w' => e = .returned (.bool (numB top k n)) ∧ Below w0.heap.size w0 w' := by
 have hB := Below.refl w0.heap.size w0
 have sB := hB.size
 refine calls_fs 29 [(0, .agg [.int .i64 k, .int .i64 n, v].toArray), (1, .int .i64 top)] Try.func169 rfl rfl rfl rfl rfl fun a F => ?_
 rcases (show (k = 1 ∧ n < 0) ∨ (k = 1 ∧ 0 ≤ n ∧ n ≤ top) ∨ (k = 1 ∧ 0 ≤ n ∧ top < n) ∨ (k = 3 ∧ n < 1) ∨ (k = 3 ∧ 1 ≤ n ∧ n ≤ top) ∨ (k = 3 ∧ 1 ≤ n ∧ top < n) ∨ (k ≠ 1 ∧ k ≠ 3) by omega) with hk | hk | hk | hk | hk | hk | hk
 ·
  skip
  refine wp_rs fun _ K2 => ?_
  refine s_box ([.int .i64 k, .int .i64 n, v]) F (by decide) rfl rfl fun w2 b2 a eb2 m2 B3 zb2 F => ?_
  have sB3 := B3.size
  have hB := bt hB B3
  refine F.sg rfl fun a F => ?_
  refine s_end (K2 _ _ ?_)
  refine wp_seq_k fun _ K3 => ?_
  refine wp_rs fun _ K4 => F.vl (x_fa0 fa24_0 rfl) fun a F => F.ld m2 flat3 rfl rfl fun a F => ?_
  refine s_end (K4 _ _ ?_)
  refine wp_block ?_
  refine wp_rs fun _ K5 => F.vl (eqlT (by omega) rfl rfl) fun a F => F.sg rfl fun a F => ?_
  refine s_end (K5 _ _ ?_)
  refine wp_if F rfl ?_
  refine wp_rs fun _ K6 => F.vl (x_fa0 fa24_1 rfl) fun a F => F.ld m2 flat3 rfl rfl fun a F => F.vl (leqF (by omega) rfl rfl) fun a F => F.mv rfl fun a F => s_grdn 12 F rfl rfl (by decide) fun a F => s_grdn 12 F rfl rfl (by decide) fun a F => s_grdn 12 F rfl rfl (by decide) fun a F => s_grdn 12 F rfl rfl (by decide) fun a F => F.vl (x_pick (b := false) rfl rfl) fun a F => F.sg rfl fun a F => ?_
  refine s_end (K6 _ _ ?_)
  refine wp_ret (inb_ret (then_ret (res_slot F rfl rfl ⟨by rw [show numB top k n = false from Bool.eq_false_iff.2 (fun h => by have := numB_iff.1 h; omega)], hB⟩)))
 ·
  skip
  refine wp_rs fun _ K7 => ?_
  refine s_box ([.int .i64 k, .int .i64 n, v]) F (by decide) rfl rfl fun w4 b2 a eb2 m2 B5 zb2 F => ?_
  have sB5 := B5.size
  have hB := bt hB B5
  refine F.sg rfl fun a F => ?_
  refine s_end (K7 _ _ ?_)
  refine wp_seq_k fun _ K8 => ?_
  refine wp_rs fun _ K9 => F.vl (x_fa0 fa24_0 rfl) fun a F => F.ld m2 flat3 rfl rfl fun a F => ?_
  refine s_end (K9 _ _ ?_)
  refine wp_block ?_
  refine wp_rs fun _ K10 => F.vl (eqlT (by omega) rfl rfl) fun a F => F.sg rfl fun a F => ?_
  refine s_end (K10 _ _ ?_)
  refine wp_if F rfl ?_
  refine wp_rs fun _ K11 => F.vl (x_fa0 fa24_1 rfl) fun a F => F.ld m2 flat3 rfl rfl fun a F => F.vl (leqT (by omega) rfl rfl) fun a F => F.mv rfl fun a F => s_grd 12 F rfl rfl rfl <| F.vl (x_fa0 fa24_1 rfl) fun a F => s_grd 12 F rfl rfl rfl <| F.ld m2 flat3 rfl rfl fun a F => s_grd 12 F rfl rfl rfl <| F.mv rfl fun a F => s_grd 12 F rfl rfl rfl <| F.vl (leqT (by omega) rfl rfl) fun a F => F.vl (x_pick (b := true) rfl rfl) fun a F => F.sg rfl fun a F => ?_
  refine s_end (K11 _ _ ?_)
  refine wp_ret (inb_ret (then_ret (res_slot F rfl rfl ⟨by rw [show numB top k n = true from numB_iff.2 (by omega)], hB⟩)))
 ·
  skip
  refine wp_rs fun _ K12 => ?_
  refine s_box ([.int .i64 k, .int .i64 n, v]) F (by decide) rfl rfl fun w6 b2 a eb2 m2 B7 zb2 F => ?_
  have sB7 := B7.size
  have hB := bt hB B7
  refine F.sg rfl fun a F => ?_
  refine s_end (K12 _ _ ?_)
  refine wp_seq_k fun _ K13 => ?_
  refine wp_rs fun _ K14 => F.vl (x_fa0 fa24_0 rfl) fun a F => F.ld m2 flat3 rfl rfl fun a F => ?_
  refine s_end (K14 _ _ ?_)
  refine wp_block ?_
  refine wp_rs fun _ K15 => F.vl (eqlT (by omega) rfl rfl) fun a F => F.sg rfl fun a F => ?_
  refine s_end (K15 _ _ ?_)
  refine wp_if F rfl ?_
  refine wp_rs fun _ K16 => F.vl (x_fa0 fa24_1 rfl) fun a F => F.ld m2 flat3 rfl rfl fun a F => F.vl (leqT (by omega) rfl rfl) fun a F => F.mv rfl fun a F => s_grd 12 F rfl rfl rfl <| F.vl (x_fa0 fa24_1 rfl) fun a F => s_grd 12 F rfl rfl rfl <| F.ld m2 flat3 rfl rfl fun a F => s_grd 12 F rfl rfl rfl <| F.mv rfl fun a F => s_grd 12 F rfl rfl rfl <| F.vl (leqF (by omega) rfl rfl) fun a F => F.vl (x_pick (b := true) rfl rfl) fun a F => F.sg rfl fun a F => ?_
  refine s_end (K16 _ _ ?_)
  refine wp_ret (inb_ret (then_ret (res_slot F rfl rfl ⟨by rw [show numB top k n = false from Bool.eq_false_iff.2 (fun h => by have := numB_iff.1 h; omega)], hB⟩)))
 ·
  skip
  refine wp_rs fun _ K17 => ?_
  refine s_box ([.int .i64 k, .int .i64 n, v]) F (by decide) rfl rfl fun w8 b2 a eb2 m2 B9 zb2 F => ?_
  have sB9 := B9.size
  have hB := bt hB B9
  refine F.sg rfl fun a F => ?_
  refine s_end (K17 _ _ ?_)
  refine wp_seq_k fun _ K18 => ?_
  refine wp_rs fun _ K19 => F.vl (x_fa0 fa24_0 rfl) fun a F => F.ld m2 flat3 rfl rfl fun a F => ?_
  refine s_end (K19 _ _ ?_)
  refine wp_block ?_
  refine wp_rs fun _ K20 => F.vl (eqlF (by omega) rfl rfl) fun a F => F.sg rfl fun a F => ?_
  refine s_end (K20 _ _ ?_)
  refine wp_if F rfl ?_
  refine wp_rs fun _ K21 => F.vl (eqlT (by omega) rfl rfl) fun a F => F.sg rfl fun a F => ?_
  refine s_end (K21 _ _ ?_)
  refine wp_if F rfl ?_
  refine wp_rs fun _ K22 => F.vl (x_fa0 fa24_1 rfl) fun a F => F.ld m2 flat3 rfl rfl fun a F => F.vl (leqF (by omega) rfl rfl) fun a F => F.mv rfl fun a F => s_grdn 23 F rfl rfl (by decide) fun a F => s_grdn 23 F rfl rfl (by decide) fun a F => s_grdn 23 F rfl rfl (by decide) fun a F => s_grdn 23 F rfl rfl (by decide) fun a F => F.vl (x_pick (b := false) rfl rfl) fun a F => F.sg rfl fun a F => ?_
  refine s_end (K22 _ _ ?_)
  refine wp_ret (inb_ret (then_ret (res_slot F rfl rfl ⟨by rw [show numB top k n = false from Bool.eq_false_iff.2 (fun h => by have := numB_iff.1 h; omega)], hB⟩)))
 ·
  skip
  refine wp_rs fun _ K23 => ?_
  refine s_box ([.int .i64 k, .int .i64 n, v]) F (by decide) rfl rfl fun w10 b2 a eb2 m2 B11 zb2 F => ?_
  have sB11 := B11.size
  have hB := bt hB B11
  refine F.sg rfl fun a F => ?_
  refine s_end (K23 _ _ ?_)
  refine wp_seq_k fun _ K24 => ?_
  refine wp_rs fun _ K25 => F.vl (x_fa0 fa24_0 rfl) fun a F => F.ld m2 flat3 rfl rfl fun a F => ?_
  refine s_end (K25 _ _ ?_)
  refine wp_block ?_
  refine wp_rs fun _ K26 => F.vl (eqlF (by omega) rfl rfl) fun a F => F.sg rfl fun a F => ?_
  refine s_end (K26 _ _ ?_)
  refine wp_if F rfl ?_
  refine wp_rs fun _ K27 => F.vl (eqlT (by omega) rfl rfl) fun a F => F.sg rfl fun a F => ?_
  refine s_end (K27 _ _ ?_)
  refine wp_if F rfl ?_
  refine wp_rs fun _ K28 => F.vl (x_fa0 fa24_1 rfl) fun a F => F.ld m2 flat3 rfl rfl fun a F => F.vl (leqT (by omega) rfl rfl) fun a F => F.mv rfl fun a F => s_grd 23 F rfl rfl rfl <| F.vl (x_fa0 fa24_1 rfl) fun a F => s_grd 23 F rfl rfl rfl <| F.ld m2 flat3 rfl rfl fun a F => s_grd 23 F rfl rfl rfl <| F.mv rfl fun a F => s_grd 23 F rfl rfl rfl <| F.vl (leqT (by omega) rfl rfl) fun a F => F.vl (x_pick (b := true) rfl rfl) fun a F => F.sg rfl fun a F => ?_
  refine s_end (K28 _ _ ?_)
  refine wp_ret (inb_ret (then_ret (res_slot F rfl rfl ⟨by rw [show numB top k n = true from numB_iff.2 (by omega)], hB⟩)))
 ·
  skip
  refine wp_rs fun _ K29 => ?_
  refine s_box ([.int .i64 k, .int .i64 n, v]) F (by decide) rfl rfl fun w12 b2 a eb2 m2 B13 zb2 F => ?_
  have sB13 := B13.size
  have hB := bt hB B13
  refine F.sg rfl fun a F => ?_
  refine s_end (K29 _ _ ?_)
  refine wp_seq_k fun _ K30 => ?_
  refine wp_rs fun _ K31 => F.vl (x_fa0 fa24_0 rfl) fun a F => F.ld m2 flat3 rfl rfl fun a F => ?_
  refine s_end (K31 _ _ ?_)
  refine wp_block ?_
  refine wp_rs fun _ K32 => F.vl (eqlF (by omega) rfl rfl) fun a F => F.sg rfl fun a F => ?_
  refine s_end (K32 _ _ ?_)
  refine wp_if F rfl ?_
  refine wp_rs fun _ K33 => F.vl (eqlT (by omega) rfl rfl) fun a F => F.sg rfl fun a F => ?_
  refine s_end (K33 _ _ ?_)
  refine wp_if F rfl ?_
  refine wp_rs fun _ K34 => F.vl (x_fa0 fa24_1 rfl) fun a F => F.ld m2 flat3 rfl rfl fun a F => F.vl (leqT (by omega) rfl rfl) fun a F => F.mv rfl fun a F => s_grd 23 F rfl rfl rfl <| F.vl (x_fa0 fa24_1 rfl) fun a F => s_grd 23 F rfl rfl rfl <| F.ld m2 flat3 rfl rfl fun a F => s_grd 23 F rfl rfl rfl <| F.mv rfl fun a F => s_grd 23 F rfl rfl rfl <| F.vl (leqF (by omega) rfl rfl) fun a F => F.vl (x_pick (b := true) rfl rfl) fun a F => F.sg rfl fun a F => ?_
  refine s_end (K34 _ _ ?_)
  refine wp_ret (inb_ret (then_ret (res_slot F rfl rfl ⟨by rw [show numB top k n = false from Bool.eq_false_iff.2 (fun h => by have := numB_iff.1 h; omega)], hB⟩)))
 ·
  skip
  refine wp_rs fun _ K35 => ?_
  refine s_box ([.int .i64 k, .int .i64 n, v]) F (by decide) rfl rfl fun w14 b2 a eb2 m2 B15 zb2 F => ?_
  have sB15 := B15.size
  have hB := bt hB B15
  refine F.sg rfl fun a F => ?_
  refine s_end (K35 _ _ ?_)
  refine wp_seq_k fun _ K36 => ?_
  refine wp_rs fun _ K37 => F.vl (x_fa0 fa24_0 rfl) fun a F => F.ld m2 flat3 rfl rfl fun a F => ?_
  refine s_end (K37 _ _ ?_)
  refine wp_block ?_
  refine wp_rs fun _ K38 => F.vl (eqlF (by omega) rfl rfl) fun a F => F.sg rfl fun a F => ?_
  refine s_end (K38 _ _ ?_)
  refine wp_if F rfl ?_
  refine wp_rs fun _ K39 => F.vl (eqlF (by omega) rfl rfl) fun a F => F.sg rfl fun a F => ?_
  refine s_end (K39 _ _ ?_)
  refine wp_if F rfl ?_
  refine wp_skip (K36 _ _ ?_)
  refine wp_rs fun _ K40 => F.sg rfl fun a F => ?_
  refine s_end (K40 _ _ ?_)
  refine wp_ret (res_slot F rfl rfl ⟨by rw [show numB top k n = true from numB_iff.2 (by omega)], hB⟩)
end Go.Proofs.Ytmkjhdiepkpdoaa

namespace Go.Proofs.Ytmkjhdiepkpdoaa
set_option maxRecDepth 100000
set_option maxHeartbeats 1600000
open Go.RowKit Go.Shelf
set_option linter.unusedVariables false
set_option linter.unusedSimpArgs false
theorem chk_two {D top vars d : Int} {r : Nat} {k n : Int} {ls : List Lv} (h : D < d ∨ r = 0) : (chk D top vars d r (.mk k n ls)).1 = 2 := by
 have e : nodeE D top vars d r k n ls.length = 2 := by rw [nodeE, if_pos h]
 rw [chk_out (by rw [e]; decide), e]
theorem chk_one {D top vars d : Int} {r : Nat} {k n : Int} {ls : List Lv} (h : ¬ (D < d ∨ r = 0)) (h1 : kidsB k ls.length = false ∨ numB top k n = false) : (chk D top vars d r (.mk k n ls)).1 = 1 := by
 have e : nodeE D top vars d r k n ls.length = 1 := by rw [nodeE, if_neg h, if_pos h1]
 rw [chk_out (by rw [e]; decide), e]
theorem chk_ten {D top vars d : Int} {r : Nat} {k n : Int} {ls : List Lv} (h : ¬ (D < d ∨ r = 0)) (h1 : kidsB k ls.length = true) (h2 : numB top k n = true) (h3 : k = 2 ∧ (n < 0 ∨ vars ≤ n)) : (chk D top vars d r (.mk k n ls)).1 = 10 := by
 have e : nodeE D top vars d r k n ls.length = 10 := by rw [nodeE, if_neg h, if_neg (by rw [h1, h2]; simp), if_pos h3]
 rw [chk_out (by rw [e]; decide), e]
theorem RL.one1 {W : World} {x : C3} {l : Lv} (h : RL W x l) : x.2.2.oneCell' = true := by
 obtain ⟨_, _, h⟩ := h.slice
 exact h.one
theorem drop_at {α : Type} {ls : List α} {i : Nat} {l : α} (h : ls[i]? = some l) : ls.drop i = l :: ls.drop (i + 1) := by
 obtain ⟨hi, rfl⟩ := List.getElem?_eq_some_iff.1 h
 exact List.drop_eq_getElem_cons hi
theorem arI_kids {k : Int} {len : Nat} : kidsB k len = true ↔ 0 ≤ arI k ∧ (len : Int) = arI k := by
 rw [kidsB_iff]
 unfold arI
 split
 ·
  omega
 ·
  split
  ·
   omega
  ·
   split
   ·
    omega
   ·
    omega
theorem arI_no {k : Int} {len : Nat} (h : arI k < 0 ∨ (len : Int) ≠ arI k) : kidsB k len = false := Bool.eq_false_iff.2 fun h1 => by have := arI_kids.1 h1; omega
theorem numB_no {top k n : Int} (h : ¬ ((k = 1 → 0 ≤ n ∧ n ≤ top) ∧ (k = 3 → 1 ≤ n ∧ n ≤ top))) : numB top k n = false := Bool.eq_false_iff.2 fun h1 => h (numB_iff.1 h1)
theorem kids_le {k : Int} {len : Nat} (h : kidsB k len = true) : len ≤ 2 := by
 have := kidsB_iff.1 h
 omega
theorem int_of {x y : Int} (h : x = y) : Value.int .i64 x = Value.int .i64 y := by rw [h]
theorem check34 (D top vars : Int) (hD : D ≤ 256) (w0 : World) (g : Nat) (hg : w0.heap.size ≤ g) : ∀ (x : C3) (l : Lv), RL w0 x l → ∀ (d : Int) (r : Nat) (w1 : World), 1 ≤ d → d ≤ 300 → r ≤ 1000 → Below w0.heap.size w0 w1 → Blk w1 g 163 [.int .i64 D, .int .i64 (r : Int), .int .i64 top, .int .i64 vars] →
    Calls Try.prog 156 #[lv x, .int .i64 d, .pointer (some ⟨g, 0, none⟩)] w1 fun e w' => ∃ v, e = .returned v ∧ (v = .int .i64 (chk D top vars d r l).1 ∧ ((chk D top vars d r l).1 = 0 → Blk w' g 163 [.int .i64 D, .int .i64 ((chk D top vars d r l).2 : Int), .int .i64 top, .int .i64 vars])) ∧ Ktw g g w1 w' := by
  intro x l h
  induction h with
  | @mk k n v xs ls hR hl hk hbd9 ih =>
  intro d r w1 hd1 hd2 hr hB mg
  obtain ⟨av, cv, rfl, _⟩ := hR.form
  have hK := Ktw.refl g g w1
  have sB := hB.size
  have hgl := mg.lt
  refine calls_fs 75 [(0, .agg [.int .i64 k, .int .i64 n, .slice av xs.length cv].toArray), (1, .int .i64 d), (2, .pointer (some ⟨g, 0, none⟩))] Try.func156 rfl rfl rfl rfl rfl fun a F => ?_
  refine wp_rs fun _ K1 => ?_
  refine s_box ([.int .i64 k, .int .i64 n, .slice av xs.length cv]) F (by decide) rfl rfl fun w2 b3 a eb3 m3 B3 zb3 F => ?_
  have sB3 := B3.size
  have hB := bt hB B3
  have hK := hK.below B3
  have mg := mg.old B3
  refine F.sg rfl fun a F => ?_
  refine s_end (K1 _ _ ?_)
  refine wp_seq_k fun _ K2 => ?_
  rcases (show D < d ∨ (d ≤ D ∧ r = 0) ∨ (d ≤ D ∧ r ≠ 0) by omega) with hp | hp | hp
  · skip
    refine wp_rs fun _ K4 => F.mv rfl fun a F => F.mv rfl fun a F => F.vl (x_nil rfl) fun a F => F.vl (x_fa0 fa54_0 rfl) fun a F => F.ld mg flat3 rfl rfl fun a F => F.vl (gtrT (by omega) rfl rfl) fun a F => F.mv rfl fun a F => s_grdn 16 F rfl rfl (by decide) fun a F => s_grdn 16 F rfl rfl (by decide) fun a F => s_grdn 16 F rfl rfl (by decide) fun a F => s_grdn 16 F rfl rfl (by decide) fun a F => s_grdn 16 F rfl rfl (by decide) fun a F => F.vl (x_pick (b := true) rfl rfl) fun a F => ?_
    refine s_end (K4 _ _ ?_)
    refine wp_if F rfl ?_
    refine wp_rs fun _ K5 => F.sg rfl fun a F => ?_
    refine s_end (K5 _ _ ?_)
    refine wp_ret (then_ret (res_slot F rfl rfl ⟨_, rfl, ⟨int_of (chk_two (by omega)).symm, fun h => absurd ((chk_two (by omega)).symm.trans h) (by decide)⟩, hK⟩))
  · skip
    refine wp_rs fun _ K6 => F.mv rfl fun a F => F.mv rfl fun a F => F.vl (x_nil rfl) fun a F => F.vl (x_fa0 fa54_0 rfl) fun a F => F.ld mg flat3 rfl rfl fun a F => F.vl (gtrF (by omega) rfl rfl) fun a F => F.mv rfl fun a F => s_grd 16 F rfl rfl rfl <| F.mv rfl fun a F => s_grd 16 F rfl rfl rfl <| F.vl (x_nil rfl) fun a F => s_grd 16 F rfl rfl rfl <| F.vl (x_fa0 fa54_1 rfl) fun a F => s_grd 16 F rfl rfl rfl <| F.ld mg flat3 rfl rfl fun a F => s_grd 16 F rfl rfl rfl <| F.vl (eqlT (by omega) rfl rfl) fun a F => F.vl (x_pick (b := false) rfl rfl) fun a F => ?_
    refine s_end (K6 _ _ ?_)
    refine wp_if F rfl ?_
    refine wp_rs fun _ K7 => F.sg rfl fun a F => ?_
    refine s_end (K7 _ _ ?_)
    refine wp_ret (then_ret (res_slot F rfl rfl ⟨_, rfl, ⟨int_of (chk_two (by omega)).symm, fun h => absurd ((chk_two (by omega)).symm.trans h) (by decide)⟩, hK⟩))
  · skip
    refine wp_rs fun _ K8 => F.mv rfl fun a F => F.mv rfl fun a F => F.vl (x_nil rfl) fun a F => F.vl (x_fa0 fa54_0 rfl) fun a F => F.ld mg flat3 rfl rfl fun a F => F.vl (gtrF (by omega) rfl rfl) fun a F => F.mv rfl fun a F => s_grd 16 F rfl rfl rfl <| F.mv rfl fun a F => s_grd 16 F rfl rfl rfl <| F.vl (x_nil rfl) fun a F => s_grd 16 F rfl rfl rfl <| F.vl (x_fa0 fa54_1 rfl) fun a F => s_grd 16 F rfl rfl rfl <| F.ld mg flat3 rfl rfl fun a F => s_grd 16 F rfl rfl rfl <| F.vl (eqlF (by omega) rfl rfl) fun a F => F.vl (x_pick (b := false) rfl rfl) fun a F => ?_
    refine s_end (K8 _ _ ?_)
    refine wp_if F rfl ?_
    refine wp_skip (K2 _ _ ?_)
    refine wp_rs fun _ K9 => F.mv rfl fun a F => F.vl (x_nil rfl) fun a F => F.vl (x_fa0 fa54_1 rfl) fun a F => F.ld mg flat3 rfl rfl fun a F => F.vl (x_subn (r - 1) (by omega) (by omega) rfl rfl) fun a F => F.vl (x_nil rfl) fun a F => F.vl (x_fa0 fa54_1 rfl) fun a F => ?_
    refine s_put F rfl rfl flat3 mg (by first | (simp; done) | (show _ < 3; decide)) rfl fun w4 mg o5 => ?_
    have so5 := o5.size
    have hB := hB.trans (o5.below (by omega))
    have hK := hK.only o5 (by omega)
    have m3 := m3.only o5 (by omega)
    refine s_end (K9 _ _ ?_)
    refine wp_seq_k fun _ K10 => ?_
    rcases (show kidsB k xs.length = false ∨ (kidsB k xs.length = true ∧ numB top k n = false) ∨ (kidsB k xs.length = true ∧ numB top k n = true) by cases kidsB k xs.length <;> cases numB top k n <;> simp) with hkb | ⟨hkb, hnb⟩ | ⟨hkb, hnb⟩
    · have hq : kidsB k ls.length = false ∨ numB top k n = false := .inl (by rw [← hl]; exact hkb)
      refine dk2_seq (w4.heap.size) (w4.heap.size) (ops := regOps Try.f156 4) (N := 12) (by kernel_rfl) wide_orders (by kernel_rfl) fun w6 hw6 B7 hS K12 K12 => ?_
      have zw6 : w6.heap.size = w4.heap.size := by rw [hw6]
      have sB7 := B7.size
      have hB := bt hB B7
      have hK := hK.below B7
      have mg := mg.old B7
      have m3 := m3.old B7
      have mg_d := mg
      have m3_d := m3
      have hB_d := hB
      have hK_d := hK
      refine F.dv 0 30 (.load 24 (.tmp 3)) hS (fun W hW => x_ldW wide24 (m3_d.k2 hW (by omega)) rfl rfl) fun a F => ?_
      refine d1 1 (some 31) (.call (.mk (.value (.func 168)) #[(.tmp 30)] #[24])) fun ty pos af => ?_
      refine s_callB [_] F E168 rfl (by decide) (hasKids56 k n _ _ _ w6 (hR.below hB)) fun w8 a B9 F => ?_
      have sB9 := B9.size
      have hK := hK.below B9
      have hS := hS.below B9
      rw [hkb] at F
      refine s_end ⟨hS, ?_⟩
      refine F.dv 2 32 (.unOp .not 4 (.tmp 31)) hS (fun W hW => x_not rfl) fun a F => F.dv 3 33 (.move (.tmp 32)) hS (fun W hW => x_move rfl) fun a F => d_skip 4 34 33 (j := 3) (want := false) (op := (.load 24 (.tmp 3))) F hS (by kernel_rfl) (by kernel_rfl) rfl (by kernel_rfl) (by decide) fun a F => d_skip 5 35 33 (j := 3) (want := false) (op := (.move (.tmp 2))) F hS (by kernel_rfl) (by kernel_rfl) rfl (by kernel_rfl) (by decide) fun a F => d_skip 6 36 33 (j := 3) (want := false) (op := (.nilCheck (.tmp 35))) F hS (by kernel_rfl) (by kernel_rfl) rfl (by kernel_rfl) (by decide) fun a F => d_skip 7 37 33 (j := 3) (want := false) (op := (.fieldAddr 163 (.tmp 36) 2)) F hS (by kernel_rfl) (by kernel_rfl) rfl (by kernel_rfl) (by decide) fun a F => d_skip 8 38 33 (j := 3) (want := false) (op := (.load 3 (.tmp 37))) F hS (by kernel_rfl) (by kernel_rfl) rfl (by kernel_rfl) (by decide) fun a F => d_skip 9 39 33 (j := 3) (want := false) (op := (.call (.mk (.value (.func 169)) #[(.tmp 34), (.tmp 38)] #[24, 3]))) F hS (by kernel_rfl) (by kernel_rfl) rfl (by kernel_rfl) (by decide) fun a F => d_skip 10 40 33 (j := 3) (want := false) (op := (.unOp .not 4 (.tmp 39))) F hS (by kernel_rfl) (by kernel_rfl) rfl (by kernel_rfl) (by decide) fun a F => F.dv 11 41 (.pick (.tmp 33) (.const (.bool true)) (.tmp 40)) hS (fun W hW => x_pick (b := true) rfl rfl) fun a F => ?_
      refine d_end (by kernel_rfl) (K12 _ _ ?_)
      refine wp_if F rfl ?_
      refine wp_rs fun _ K13 => F.sg rfl fun a F => ?_
      refine s_end (K13 _ _ ?_)
      refine wp_ret (then_ret (res_slot F rfl rfl ⟨_, rfl, ⟨int_of (chk_one (by omega) hq).symm, fun h => absurd ((chk_one (by omega) hq).symm.trans h) (by decide)⟩, hK⟩))
    · have hq : kidsB k ls.length = false ∨ numB top k n = false := .inr hnb
      refine dk2_seq (w4.heap.size) (w4.heap.size) (ops := regOps Try.f156 4) (N := 12) (by kernel_rfl) wide_orders (by kernel_rfl) fun w10 hw10 B11 hS K14 hK14 => ?_
      have zw10 : w10.heap.size = w4.heap.size := by rw [hw10]
      have sB11 := B11.size
      have hB := bt hB B11
      have hK := hK.below B11
      have mg := mg.old B11
      have m3 := m3.old B11
      have mg_d := mg
      have m3_d := m3
      have hB_d := hB
      have hK_d := hK
      refine F.dv 0 30 (.load 24 (.tmp 3)) hS (fun W hW => x_ldW wide24 (m3_d.k2 hW (by omega)) rfl rfl) fun a F => ?_
      refine d1 1 (some 31) (.call (.mk (.value (.func 168)) #[(.tmp 30)] #[24])) fun ty pos af => ?_
      refine s_callB [_] F E168 rfl (by decide) (hasKids56 k n _ _ _ w10 (hR.below hB)) fun w12 a B13 F => ?_
      have sB13 := B13.size
      have hK := hK.below B13
      have hS := hS.below B13
      rw [hkb] at F
      refine s_end ⟨hS, ?_⟩
      refine F.dv 2 32 (.unOp .not 4 (.tmp 31)) hS (fun W hW => x_not rfl) fun a F => F.dv 3 33 (.move (.tmp 32)) hS (fun W hW => x_move rfl) fun a F => F.dg 4 34 33 3 false (.load 24 (.tmp 3)) hS rfl (fun W hW => x_ldW wide24 (m3_d.k2 hW (by omega)) rfl rfl) fun a F => F.dg 5 35 33 3 false (.move (.tmp 2)) hS rfl (fun W hW => x_move rfl) fun a F => F.dg 6 36 33 3 false (.nilCheck (.tmp 35)) hS rfl (fun W hW => x_nil rfl) fun a F => F.dg 7 37 33 3 false (.fieldAddr 163 (.tmp 36) 2) hS rfl (fun W hW => x_fa0 fa54_2 rfl) fun a F => F.dg 8 38 33 3 false (.load 3 (.tmp 37)) hS rfl (fun W hW => x_load rfl (m_load flat3 ((mg_d.k2 hW (by omega)).cell (j := 2) rfl))) fun a F => ?_
      refine d_oneg 9 33 (some 39) (.call (.mk (.value (.func 169)) #[(.tmp 34), (.tmp 38)] #[24, 3])) (j := 3) (want := false) F (by kernel_rfl) (by kernel_rfl) (by kernel_rfl) rfl fun ty pos af => ?_
      refine s_callB [_, _] F E169 rfl (by decide) (hasNumber57 k n top _ w12) fun w14 a B15 F => ?_
      have sB15 := B15.size
      have hK := hK.below B15
      have hS := hS.below B15
      rw [hnb] at F
      refine s_end ⟨hS, ?_⟩
      refine F.dg 10 40 33 3 false (.unOp .not 4 (.tmp 39)) hS rfl (fun W hW => x_not rfl) fun a F => F.dv 11 41 (.pick (.tmp 33) (.const (.bool true)) (.tmp 40)) hS (fun W hW => x_pick (b := false) rfl rfl) fun a F => ?_
      refine d_end (by kernel_rfl) (hK14 _ _ ?_)
      refine wp_if F rfl ?_
      refine wp_rs fun _ K15 => F.sg rfl fun a F => ?_
      refine s_end (K15 _ _ ?_)
      refine wp_ret (then_ret (res_slot F rfl rfl ⟨_, rfl, ⟨int_of (chk_one (by omega) hq).symm, fun h => absurd ((chk_one (by omega) hq).symm.trans h) (by decide)⟩, hK⟩))
    · have hkl : kidsB k ls.length = true := by rw [← hl]; exact hkb
      refine dk2_seq (w4.heap.size) (w4.heap.size) (ops := regOps Try.f156 4) (N := 12) (by kernel_rfl) wide_orders (by kernel_rfl) fun w16 hw16 B17 hS K16 K16 => ?_
      have zw16 : w16.heap.size = w4.heap.size := by rw [hw16]
      have sB17 := B17.size
      have hB := bt hB B17
      have hK := hK.below B17
      have mg := mg.old B17
      have m3 := m3.old B17
      have mg_d := mg
      have m3_d := m3
      have hB_d := hB
      have hK_d := hK
      refine F.dv 0 30 (.load 24 (.tmp 3)) hS (fun W hW => x_ldW wide24 (m3_d.k2 hW (by omega)) rfl rfl) fun a F => ?_
      refine d1 1 (some 31) (.call (.mk (.value (.func 168)) #[(.tmp 30)] #[24])) fun ty pos af => ?_
      refine s_callB [_] F E168 rfl (by decide) (hasKids56 k n _ _ _ w16 (hR.below hB)) fun w18 a B19 F => ?_
      have sB19 := B19.size
      have hB := bt hB B19
      have hK := hK.below B19
      have mg := mg.old B19
      have m3 := m3.old B19
      have hS := hS.below B19
      rw [hkb] at F
      refine s_end ⟨hS, ?_⟩
      refine F.dv 2 32 (.unOp .not 4 (.tmp 31)) hS (fun W hW => x_not rfl) fun a F => F.dv 3 33 (.move (.tmp 32)) hS (fun W hW => x_move rfl) fun a F => F.dg 4 34 33 3 false (.load 24 (.tmp 3)) hS rfl (fun W hW => x_ldW wide24 (m3_d.k2 hW (by omega)) rfl rfl) fun a F => F.dg 5 35 33 3 false (.move (.tmp 2)) hS rfl (fun W hW => x_move rfl) fun a F => F.dg 6 36 33 3 false (.nilCheck (.tmp 35)) hS rfl (fun W hW => x_nil rfl) fun a F => F.dg 7 37 33 3 false (.fieldAddr 163 (.tmp 36) 2) hS rfl (fun W hW => x_fa0 fa54_2 rfl) fun a F => F.dg 8 38 33 3 false (.load 3 (.tmp 37)) hS rfl (fun W hW => x_load rfl (m_load flat3 ((mg_d.k2 hW (by omega)).cell (j := 2) rfl))) fun a F => ?_
      refine d_oneg 9 33 (some 39) (.call (.mk (.value (.func 169)) #[(.tmp 34), (.tmp 38)] #[24, 3])) (j := 3) (want := false) F (by kernel_rfl) (by kernel_rfl) (by kernel_rfl) rfl fun ty pos af => ?_
      refine s_callB [_, _] F E169 rfl (by decide) (hasNumber57 k n top _ w18) fun w20 a B21 F => ?_
      have sB21 := B21.size
      have hB := bt hB B21
      have hK := hK.below B21
      have mg := mg.old B21
      have m3 := m3.old B21
      have hS := hS.below B21
      rw [hnb] at F
      refine s_end ⟨hS, ?_⟩
      refine F.dg 10 40 33 3 false (.unOp .not 4 (.tmp 39)) hS rfl (fun W hW => x_not rfl) fun a F => F.dv 11 41 (.pick (.tmp 33) (.const (.bool true)) (.tmp 40)) hS (fun W hW => x_pick (b := false) rfl rfl) fun a F => ?_
      refine d_end (by kernel_rfl) (K16 _ _ ?_)
      refine wp_if F rfl ?_
      refine wp_skip (K10 _ _ ?_)
      refine wp_seq_k fun _ K17 => ?_
      rcases (show (k = 2 ∧ n < 0) ∨ (k = 2 ∧ 0 ≤ n ∧ vars ≤ n) ∨ (k = 2 ∧ 0 ≤ n ∧ n < vars) ∨ k ≠ 2 by omega) with hv | hv | hv | hv
      · skip
        refine dk2_seq (w20.heap.size) (w20.heap.size) (ops := regOps Try.f156 6) (N := 17) (by kernel_rfl) wide_orders (by kernel_rfl) fun w22 hw22 B23 hS K19 K19 => ?_
        have zw22 : w22.heap.size = w20.heap.size := by rw [hw22]
        have sB23 := B23.size
        have hB := bt hB B23
        have hK := hK.below B23
        have mg := mg.old B23
        have m3 := m3.old B23
        have mg_d := mg
        have m3_d := m3
        have hB_d := hB
        have hK_d := hK
        refine F.dv 0 42 (.fieldAddr 24 (.tmp 3) 0) hS (fun W hW => x_fa0 fa24_0 rfl) fun a F => F.dv 1 43 (.load 3 (.tmp 42)) hS (fun W hW => x_load rfl (m_load flat3 ((m3_d.k2 hW (by omega)).cell (j := 0) rfl))) fun a F => F.dv 2 44 (.binOp .eql 3 (.tmp 43) (.const (.int .i64 2)) 3) hS (fun W hW => eqlT (by omega) rfl rfl) fun a F => F.dv 3 45 (.move (.tmp 44)) hS (fun W hW => x_move rfl) fun a F => F.dg 4 46 45 3 true (.fieldAddr 24 (.tmp 3) 1) hS rfl (fun W hW => x_fa0 fa24_1 rfl) fun a F => F.dg 5 47 45 3 true (.load 3 (.tmp 46)) hS rfl (fun W hW => x_load rfl (m_load flat3 ((m3_d.k2 hW (by omega)).cell (j := 1) rfl))) fun a F => F.dg 6 48 45 3 true (.binOp .lss 3 (.tmp 47) (.const (.int .i64 0)) 3) hS rfl (fun W hW => lssT (by omega) rfl rfl) fun a F => F.dg 7 49 45 3 true (.move (.tmp 48)) hS rfl (fun W hW => x_move rfl) fun a F => d_skip 8 50 49 (j := 7) (want := false) (op := (.fieldAddr 24 (.tmp 3) 1)) F hS (by kernel_rfl) (by kernel_rfl) rfl (by kernel_rfl) (by decide) fun a F => d_skip 9 51 49 (j := 7) (want := false) (op := (.load 3 (.tmp 50))) F hS (by kernel_rfl) (by kernel_rfl) rfl (by kernel_rfl) (by decide) fun a F => d_skip 10 52 49 (j := 7) (want := false) (op := (.move (.tmp 2))) F hS (by kernel_rfl) (by kernel_rfl) rfl (by kernel_rfl) (by decide) fun a F => d_skip 11 53 49 (j := 7) (want := false) (op := (.nilCheck (.tmp 52))) F hS (by kernel_rfl) (by kernel_rfl) rfl (by kernel_rfl) (by decide) fun a F => d_skip 12 54 49 (j := 7) (want := false) (op := (.fieldAddr 163 (.tmp 53) 3)) F hS (by kernel_rfl) (by kernel_rfl) rfl (by kernel_rfl) (by decide) fun a F => d_skip 13 55 49 (j := 7) (want := false) (op := (.load 3 (.tmp 54))) F hS (by kernel_rfl) (by kernel_rfl) rfl (by kernel_rfl) (by decide) fun a F => d_skip 14 56 49 (j := 7) (want := false) (op := (.binOp .geq 3 (.tmp 51) (.tmp 55) 3)) F hS (by kernel_rfl) (by kernel_rfl) rfl (by kernel_rfl) (by decide) fun a F => F.dg 15 57 45 3 true (.pick (.tmp 49) (.const (.bool true)) (.tmp 56)) hS rfl (fun W hW => x_pick (b := true) rfl rfl) fun a F => F.dv 16 58 (.pick (.tmp 45) (.tmp 57) (.const (.bool false))) hS (fun W hW => x_pick (b := true) rfl rfl) fun a F => ?_
        refine d_end (by kernel_rfl) (K19 _ _ ?_)
        refine wp_if F rfl ?_
        refine wp_rs fun _ K20 => F.sg rfl fun a F => ?_
        refine s_end (K20 _ _ ?_)
        refine wp_ret (then_ret (res_slot F rfl rfl ⟨_, rfl, ⟨int_of (chk_ten (by omega) hkl hnb (by omega)).symm, fun h => absurd ((chk_ten (by omega) hkl hnb (by omega)).symm.trans h) (by decide)⟩, hK⟩))
      · skip
        refine dk2_seq (w20.heap.size) (w20.heap.size) (ops := regOps Try.f156 6) (N := 17) (by kernel_rfl) wide_orders (by kernel_rfl) fun w24 hw24 B25 hS K21 hK21 => ?_
        have zw24 : w24.heap.size = w20.heap.size := by rw [hw24]
        have sB25 := B25.size
        have hB := bt hB B25
        have hK := hK.below B25
        have mg := mg.old B25
        have m3 := m3.old B25
        have mg_d := mg
        have m3_d := m3
        have hB_d := hB
        have hK_d := hK
        refine F.dv 0 42 (.fieldAddr 24 (.tmp 3) 0) hS (fun W hW => x_fa0 fa24_0 rfl) fun a F => F.dv 1 43 (.load 3 (.tmp 42)) hS (fun W hW => x_load rfl (m_load flat3 ((m3_d.k2 hW (by omega)).cell (j := 0) rfl))) fun a F => F.dv 2 44 (.binOp .eql 3 (.tmp 43) (.const (.int .i64 2)) 3) hS (fun W hW => eqlT (by omega) rfl rfl) fun a F => F.dv 3 45 (.move (.tmp 44)) hS (fun W hW => x_move rfl) fun a F => F.dg 4 46 45 3 true (.fieldAddr 24 (.tmp 3) 1) hS rfl (fun W hW => x_fa0 fa24_1 rfl) fun a F => F.dg 5 47 45 3 true (.load 3 (.tmp 46)) hS rfl (fun W hW => x_load rfl (m_load flat3 ((m3_d.k2 hW (by omega)).cell (j := 1) rfl))) fun a F => F.dg 6 48 45 3 true (.binOp .lss 3 (.tmp 47) (.const (.int .i64 0)) 3) hS rfl (fun W hW => lssF (by omega) rfl rfl) fun a F => F.dg 7 49 45 3 true (.move (.tmp 48)) hS rfl (fun W hW => x_move rfl) fun a F => F.dg 8 50 49 7 false (.fieldAddr 24 (.tmp 3) 1) hS rfl (fun W hW => x_fa0 fa24_1 rfl) fun a F => F.dg 9 51 49 7 false (.load 3 (.tmp 50)) hS rfl (fun W hW => x_load rfl (m_load flat3 ((m3_d.k2 hW (by omega)).cell (j := 1) rfl))) fun a F => F.dg 10 52 49 7 false (.move (.tmp 2)) hS rfl (fun W hW => x_move rfl) fun a F => F.dg 11 53 49 7 false (.nilCheck (.tmp 52)) hS rfl (fun W hW => x_nil rfl) fun a F => F.dg 12 54 49 7 false (.fieldAddr 163 (.tmp 53) 3) hS rfl (fun W hW => x_fa0 fa54_3 rfl) fun a F => F.dg 13 55 49 7 false (.load 3 (.tmp 54)) hS rfl (fun W hW => x_load rfl (m_load flat3 ((mg_d.k2 hW (by omega)).cell (j := 3) rfl))) fun a F => F.dg 14 56 49 7 false (.binOp .geq 3 (.tmp 51) (.tmp 55) 3) hS rfl (fun W hW => geqT (by omega) rfl rfl) fun a F => F.dg 15 57 45 3 true (.pick (.tmp 49) (.const (.bool true)) (.tmp 56)) hS rfl (fun W hW => x_pick (b := false) rfl rfl) fun a F => F.dv 16 58 (.pick (.tmp 45) (.tmp 57) (.const (.bool false))) hS (fun W hW => x_pick (b := true) rfl rfl) fun a F => ?_
        refine d_end (by kernel_rfl) (hK21 _ _ ?_)
        refine wp_if F rfl ?_
        refine wp_rs fun _ K22 => F.sg rfl fun a F => ?_
        refine s_end (K22 _ _ ?_)
        refine wp_ret (then_ret (res_slot F rfl rfl ⟨_, rfl, ⟨int_of (chk_ten (by omega) hkl hnb (by omega)).symm, fun h => absurd ((chk_ten (by omega) hkl hnb (by omega)).symm.trans h) (by decide)⟩, hK⟩))
      · have hnd := nodeE_iff.2 ⟨hp.1, hp.2, hkl, hnb, (by omega : ¬ (k = 2 ∧ (n < 0 ∨ vars ≤ n)))⟩
        refine dk2_seq (w20.heap.size) (w20.heap.size) (ops := regOps Try.f156 6) (N := 17) (by kernel_rfl) wide_orders (by kernel_rfl) fun w26 hw26 B27 hS K23 hK23 => ?_
        have zw26 : w26.heap.size = w20.heap.size := by rw [hw26]
        have sB27 := B27.size
        have hB := bt hB B27
        have hK := hK.below B27
        have mg := mg.old B27
        have m3 := m3.old B27
        have mg_d := mg
        have m3_d := m3
        have hB_d := hB
        have hK_d := hK
        refine F.dv 0 42 (.fieldAddr 24 (.tmp 3) 0) hS (fun W hW => x_fa0 fa24_0 rfl) fun a F => F.dv 1 43 (.load 3 (.tmp 42)) hS (fun W hW => x_load rfl (m_load flat3 ((m3_d.k2 hW (by omega)).cell (j := 0) rfl))) fun a F => F.dv 2 44 (.binOp .eql 3 (.tmp 43) (.const (.int .i64 2)) 3) hS (fun W hW => eqlT (by omega) rfl rfl) fun a F => F.dv 3 45 (.move (.tmp 44)) hS (fun W hW => x_move rfl) fun a F => F.dg 4 46 45 3 true (.fieldAddr 24 (.tmp 3) 1) hS rfl (fun W hW => x_fa0 fa24_1 rfl) fun a F => F.dg 5 47 45 3 true (.load 3 (.tmp 46)) hS rfl (fun W hW => x_load rfl (m_load flat3 ((m3_d.k2 hW (by omega)).cell (j := 1) rfl))) fun a F => F.dg 6 48 45 3 true (.binOp .lss 3 (.tmp 47) (.const (.int .i64 0)) 3) hS rfl (fun W hW => lssF (by omega) rfl rfl) fun a F => F.dg 7 49 45 3 true (.move (.tmp 48)) hS rfl (fun W hW => x_move rfl) fun a F => F.dg 8 50 49 7 false (.fieldAddr 24 (.tmp 3) 1) hS rfl (fun W hW => x_fa0 fa24_1 rfl) fun a F => F.dg 9 51 49 7 false (.load 3 (.tmp 50)) hS rfl (fun W hW => x_load rfl (m_load flat3 ((m3_d.k2 hW (by omega)).cell (j := 1) rfl))) fun a F => F.dg 10 52 49 7 false (.move (.tmp 2)) hS rfl (fun W hW => x_move rfl) fun a F => F.dg 11 53 49 7 false (.nilCheck (.tmp 52)) hS rfl (fun W hW => x_nil rfl) fun a F => F.dg 12 54 49 7 false (.fieldAddr 163 (.tmp 53) 3) hS rfl (fun W hW => x_fa0 fa54_3 rfl) fun a F => F.dg 13 55 49 7 false (.load 3 (.tmp 54)) hS rfl (fun W hW => x_load rfl (m_load flat3 ((mg_d.k2 hW (by omega)).cell (j := 3) rfl))) fun a F => F.dg 14 56 49 7 false (.binOp .geq 3 (.tmp 51) (.tmp 55) 3) hS rfl (fun W hW => geqF (by omega) rfl rfl) fun a F => F.dg 15 57 45 3 true (.pick (.tmp 49) (.const (.bool true)) (.tmp 56)) hS rfl (fun W hW => x_pick (b := false) rfl rfl) fun a F => F.dv 16 58 (.pick (.tmp 45) (.tmp 57) (.const (.bool false))) hS (fun W hW => x_pick (b := true) rfl rfl) fun a F => ?_
        refine d_end (by kernel_rfl) (hK23 _ _ ?_)
        refine wp_if F rfl ?_
        refine wp_skip (K17 _ _ ?_)
        refine wp_seq_k fun _ K24 => ?_
        refine wp_rs fun _ K25 => F.vl (x_fa0 fa24_2 rfl) fun a F => F.ld m3 flat22 rfl rfl fun a F => F.vl (x_len Try.underlying22 rfl) fun a F => F.mv rfl fun a F => ?_
        refine s_end (K25 _ _ ?_)
        refine wp_block ?_
        refine wp_up xs.length (fun i a w => ∃ ri : Nat, ri ≤ 1000 ∧ chks D top vars (d + 1) (r - 1) ls = chks D top vars (d + 1) ri (ls.drop i) ∧ Blk w g 163 [.int .i64 D, .int .i64 (ri : Int), .int .i64 top, .int .i64 vars] ∧ Below w0.heap.size w0 w ∧ Ktw g g w1 w ∧ Fs 75 a [(62, .int .i64 (i : Int)), (61, .int .i64 (xs.length : Int)), (60, .slice av xs.length cv), (1, .int .i64 d), (2, .pointer (some ⟨g, 0, none⟩))]) ⟨r - 1, by omega, rfl, mg, hB, hK, F.sub _ rfl⟩ ?_
        clear F hB hK mg
        rintro i a w hi ⟨ri, hri, hck, mg, hB, hK, F⟩ K' hK'
        have sB := hB.size
        have hgl := mg.lt
        have sK := hK.size
        have hle := kids_le hkl
        refine wp_rs fun _ K26 => F.vl (x_lss rfl rfl rfl) fun a F => ?_
        refine s_end (K26 _ _ ?_)
        refine wp_seq_k fun _ K27 => ?_
        refine wp_iff F rfl (fun hc63 => ?_) (fun hc63 => ?_)
        · obtain ⟨b, off, c, y, hve, hy, hrow⟩ := rd_row3 hR (i := i) (by omega)
          cases hve
          obtain ⟨l, hlk⟩ : ∃ l, ls[i]? = some l := ⟨_, List.getElem?_eq_getElem (by omega)⟩
          have ihy := ih i y l hy hlk
          have h1y := (hk i y l hy hlk).one1
          rw [drop_at hlk] at hck
          refine wp_skip (K27 _ _ ?_)
          refine wp_seq_k fun _ K28 => ?_
          refine wp_block ?_
          refine wp_rs fun _ K29 => F.vl (x_ixa rfl rfl (m_ixsK i Try.underlying22 el22.size rfl (by omega))) fun a F => F.vl (x_ldA wide24 (hrow _ hB) rfl rfl) fun a F => ?_
          refine s_alloc F (by decide) zero24 fun w28 b8 a eb8 m8 B29 zb8 F => ?_
          have sB29 := B29.size
          have hB := bt hB B29
          have hK := hK.below B29
          have mg := mg.old B29
          refine s_putW F rfl rfl (size_wide wide24) m8 rfl (one_lc h1y) fun w30 m8 o31 => ?_
          have so31 := o31.size
          have hB := hB.trans (o31.below (by omega))
          have hK := hK.only o31 (by omega)
          have mg := mg.only o31 (by omega)
          refine s_end (K29 _ _ ?_)
          refine wp_rs fun _ K30 => F.vl (x_ldW wide24 m8 rfl rfl) fun a F => F.mv rfl fun a F => F.vl (x_add (by omega) (by omega) rfl rfl) fun a F => F.mv rfl fun a F => ?_
          refine s_call (R := fun u w' => (u = .int .i64 (chk D top vars (d + 1) ri l).1 ∧ ((chk D top vars (d + 1) ri l).1 = 0 → Blk w' g 163 [.int .i64 D, .int .i64 ((chk D top vars (d + 1) ri l).2 : Int), .int .i64 top, .int .i64 vars])) ∧ Ktw g g w30 w') F [_, _, _] E156 rfl (by decide) (ihy (d + 1) ri w30 (by omega) (by omega) hri hB mg) ?_
          rintro _ w32 a ⟨⟨rfl, hmg⟩, k33⟩ F
          have sk33 := k33.size
          have hB := k33.under hB (by omega)
          have hK := hK.trans k33 (by omega)
          refine F.sg rfl fun a F => ?_
          refine s_end (K30 _ _ ?_)
          refine wp_rs fun _ K31 => F.mv rfl fun a F => F.vl (x_neq rfl rfl rfl) fun a F => ?_
          refine s_end (K31 _ _ ?_)
          refine wp_iff F rfl (fun hc72 => ?_) (fun hc72 => ?_)
          · refine wp_rs fun _ K32 => ?_
            refine F.mv rfl fun a F => F.sg rfl fun a F => ?_
            refine s_end (K32 _ _ ?_)
            refine wp_ret (inb_ret (then_ret (then_ret (inb_ret (then_ret (res_slot F rfl rfl ⟨_, rfl, ⟨int_of (by rw [chk_in hnd, hck, chks_out hc72]), fun h => absurd (by rw [chk_in hnd, hck, chks_out hc72] at h; exact h) hc72⟩, hK⟩))))))
          · have hc0 : (chk D top vars (d + 1) ri l).1 = 0 := by omega
            have mg := hmg hc0
            refine wp_skip (K28 _ _ ?_)
            refine wp_region_lit ?_
            refine F.vl (x_addn (i + 1) (by omega) (by omega) rfl rfl) fun a F => F.mv rfl fun a F => ?_
            refine s_end (hK' _ _ (by omega) ⟨(chk D top vars (d + 1) ri l).2, Nat.le_trans (chk_le _ _ _ _ _ _) hri, by rw [hck, chks_in hc0], mg, hB, hK, F.sub _ rfl⟩)
        · refine wp_exit (K24 _ _ ?_)
          refine wp_rs fun _ K33 => F.sg rfl fun a F => ?_
          refine s_end (K33 _ _ ?_)
          have hnil : ls.drop i = [] := List.drop_of_length_le (by omega)
          rw [hnil] at hck
          refine wp_ret (res_slot F rfl rfl ⟨_, rfl, ⟨int_of (by rw [chk_in hnd, hck]; rfl), fun _ => by rw [chk_in hnd, hck]; exact mg⟩, hK⟩)
      · have hnd := nodeE_iff.2 ⟨hp.1, hp.2, hkl, hnb, (by omega : ¬ (k = 2 ∧ (n < 0 ∨ vars ≤ n)))⟩
        refine dk2_seq (w20.heap.size) (w20.heap.size) (ops := regOps Try.f156 6) (N := 17) (by kernel_rfl) wide_orders (by kernel_rfl) fun w34 hw34 B35 hS K34 K34 => ?_
        have zw34 : w34.heap.size = w20.heap.size := by rw [hw34]
        have sB35 := B35.size
        have hB := bt hB B35
        have hK := hK.below B35
        have mg := mg.old B35
        have m3 := m3.old B35
        have mg_d := mg
        have m3_d := m3
        have hB_d := hB
        have hK_d := hK
        refine F.dv 0 42 (.fieldAddr 24 (.tmp 3) 0) hS (fun W hW => x_fa0 fa24_0 rfl) fun a F => F.dv 1 43 (.load 3 (.tmp 42)) hS (fun W hW => x_load rfl (m_load flat3 ((m3_d.k2 hW (by omega)).cell (j := 0) rfl))) fun a F => F.dv 2 44 (.binOp .eql 3 (.tmp 43) (.const (.int .i64 2)) 3) hS (fun W hW => eqlF (by omega) rfl rfl) fun a F => F.dv 3 45 (.move (.tmp 44)) hS (fun W hW => x_move rfl) fun a F => d_skip 4 46 45 (j := 3) (want := true) (op := (.fieldAddr 24 (.tmp 3) 1)) F hS (by kernel_rfl) (by kernel_rfl) rfl (by kernel_rfl) (by decide) fun a F => d_skip 5 47 45 (j := 3) (want := true) (op := (.load 3 (.tmp 46))) F hS (by kernel_rfl) (by kernel_rfl) rfl (by kernel_rfl) (by decide) fun a F => d_skip 6 48 45 (j := 3) (want := true) (op := (.binOp .lss 3 (.tmp 47) (.const (.int .i64 0)) 3)) F hS (by kernel_rfl) (by kernel_rfl) rfl (by kernel_rfl) (by decide) fun a F => d_skip 7 49 45 (j := 3) (want := true) (op := (.move (.tmp 48))) F hS (by kernel_rfl) (by kernel_rfl) rfl (by kernel_rfl) (by decide) fun a F => d_skipu 8 50 49 (j := 7) (want := false) (op := (.fieldAddr 24 (.tmp 3) 1)) F hS (by kernel_rfl) (by kernel_rfl) rfl (by kernel_rfl) (by decide) fun a F => d_skipu 9 51 49 (j := 7) (want := false) (op := (.load 3 (.tmp 50))) F hS (by kernel_rfl) (by kernel_rfl) rfl (by kernel_rfl) (by decide) fun a F => d_skipu 10 52 49 (j := 7) (want := false) (op := (.move (.tmp 2))) F hS (by kernel_rfl) (by kernel_rfl) rfl (by kernel_rfl) (by decide) fun a F => d_skipu 11 53 49 (j := 7) (want := false) (op := (.nilCheck (.tmp 52))) F hS (by kernel_rfl) (by kernel_rfl) rfl (by kernel_rfl) (by decide) fun a F => d_skipu 12 54 49 (j := 7) (want := false) (op := (.fieldAddr 163 (.tmp 53) 3)) F hS (by kernel_rfl) (by kernel_rfl) rfl (by kernel_rfl) (by decide) fun a F => d_skipu 13 55 49 (j := 7) (want := false) (op := (.load 3 (.tmp 54))) F hS (by kernel_rfl) (by kernel_rfl) rfl (by kernel_rfl) (by decide) fun a F => d_skipu 14 56 49 (j := 7) (want := false) (op := (.binOp .geq 3 (.tmp 51) (.tmp 55) 3)) F hS (by kernel_rfl) (by kernel_rfl) rfl (by kernel_rfl) (by decide) fun a F => d_skip 15 57 45 (j := 3) (want := true) (op := (.pick (.tmp 49) (.const (.bool true)) (.tmp 56))) F hS (by kernel_rfl) (by kernel_rfl) rfl (by kernel_rfl) (by decide) fun a F => F.dv 16 58 (.pick (.tmp 45) (.tmp 57) (.const (.bool false))) hS (fun W hW => x_pick (b := false) rfl rfl) fun a F => ?_
        refine d_end (by kernel_rfl) (K34 _ _ ?_)
        refine wp_if F rfl ?_
        refine wp_skip (K17 _ _ ?_)
        refine wp_seq_k fun _ K35 => ?_
        refine wp_rs fun _ K36 => F.vl (x_fa0 fa24_2 rfl) fun a F => F.ld m3 flat22 rfl rfl fun a F => F.vl (x_len Try.underlying22 rfl) fun a F => F.mv rfl fun a F => ?_
        refine s_end (K36 _ _ ?_)
        refine wp_block ?_
        refine wp_up xs.length (fun i a w => ∃ ri : Nat, ri ≤ 1000 ∧ chks D top vars (d + 1) (r - 1) ls = chks D top vars (d + 1) ri (ls.drop i) ∧ Blk w g 163 [.int .i64 D, .int .i64 (ri : Int), .int .i64 top, .int .i64 vars] ∧ Below w0.heap.size w0 w ∧ Ktw g g w1 w ∧ Fs 75 a [(62, .int .i64 (i : Int)), (61, .int .i64 (xs.length : Int)), (60, .slice av xs.length cv), (1, .int .i64 d), (2, .pointer (some ⟨g, 0, none⟩))]) ⟨r - 1, by omega, rfl, mg, hB, hK, F.sub _ rfl⟩ ?_
        clear F hB hK mg
        rintro i a w hi ⟨ri, hri, hck, mg, hB, hK, F⟩ K' hK'
        have sB := hB.size
        have hgl := mg.lt
        have sK := hK.size
        have hle := kids_le hkl
        refine wp_rs fun _ K37 => F.vl (x_lss rfl rfl rfl) fun a F => ?_
        refine s_end (K37 _ _ ?_)
        refine wp_seq_k fun _ K38 => ?_
        refine wp_iff F rfl (fun hc63 => ?_) (fun hc63 => ?_)
        · obtain ⟨b, off, c, y, hve, hy, hrow⟩ := rd_row3 hR (i := i) (by omega)
          cases hve
          obtain ⟨l, hlk⟩ : ∃ l, ls[i]? = some l := ⟨_, List.getElem?_eq_getElem (by omega)⟩
          have ihy := ih i y l hy hlk
          have h1y := (hk i y l hy hlk).one1
          rw [drop_at hlk] at hck
          refine wp_skip (K38 _ _ ?_)
          refine wp_seq_k fun _ K39 => ?_
          refine wp_block ?_
          refine wp_rs fun _ K40 => F.vl (x_ixa rfl rfl (m_ixsK i Try.underlying22 el22.size rfl (by omega))) fun a F => F.vl (x_ldA wide24 (hrow _ hB) rfl rfl) fun a F => ?_
          refine s_alloc F (by decide) zero24 fun w36 b8 a eb8 m8 B37 zb8 F => ?_
          have sB37 := B37.size
          have hB := bt hB B37
          have hK := hK.below B37
          have mg := mg.old B37
          refine s_putW F rfl rfl (size_wide wide24) m8 rfl (one_lc h1y) fun w38 m8 o39 => ?_
          have so39 := o39.size
          have hB := hB.trans (o39.below (by omega))
          have hK := hK.only o39 (by omega)
          have mg := mg.only o39 (by omega)
          refine s_end (K40 _ _ ?_)
          refine wp_rs fun _ K41 => F.vl (x_ldW wide24 m8 rfl rfl) fun a F => F.mv rfl fun a F => F.vl (x_add (by omega) (by omega) rfl rfl) fun a F => F.mv rfl fun a F => ?_
          refine s_call (R := fun u w' => (u = .int .i64 (chk D top vars (d + 1) ri l).1 ∧ ((chk D top vars (d + 1) ri l).1 = 0 → Blk w' g 163 [.int .i64 D, .int .i64 ((chk D top vars (d + 1) ri l).2 : Int), .int .i64 top, .int .i64 vars])) ∧ Ktw g g w38 w') F [_, _, _] E156 rfl (by decide) (ihy (d + 1) ri w38 (by omega) (by omega) hri hB mg) ?_
          rintro _ w40 a ⟨⟨rfl, hmg⟩, k41⟩ F
          have sk41 := k41.size
          have hB := k41.under hB (by omega)
          have hK := hK.trans k41 (by omega)
          refine F.sg rfl fun a F => ?_
          refine s_end (K41 _ _ ?_)
          refine wp_rs fun _ K42 => F.mv rfl fun a F => F.vl (x_neq rfl rfl rfl) fun a F => ?_
          refine s_end (K42 _ _ ?_)
          refine wp_iff F rfl (fun hc72 => ?_) (fun hc72 => ?_)
          · refine wp_rs fun _ K43 => ?_
            refine F.mv rfl fun a F => F.sg rfl fun a F => ?_
            refine s_end (K43 _ _ ?_)
            refine wp_ret (inb_ret (then_ret (then_ret (inb_ret (then_ret (res_slot F rfl rfl ⟨_, rfl, ⟨int_of (by rw [chk_in hnd, hck, chks_out hc72]), fun h => absurd (by rw [chk_in hnd, hck, chks_out hc72] at h; exact h) hc72⟩, hK⟩))))))
          · have hc0 : (chk D top vars (d + 1) ri l).1 = 0 := by omega
            have mg := hmg hc0
            refine wp_skip (K39 _ _ ?_)
            refine wp_region_lit ?_
            refine F.vl (x_addn (i + 1) (by omega) (by omega) rfl rfl) fun a F => F.mv rfl fun a F => ?_
            refine s_end (hK' _ _ (by omega) ⟨(chk D top vars (d + 1) ri l).2, Nat.le_trans (chk_le _ _ _ _ _ _) hri, by rw [hck, chks_in hc0], mg, hB, hK, F.sub _ rfl⟩)
        · refine wp_exit (K35 _ _ ?_)
          refine wp_rs fun _ K44 => F.sg rfl fun a F => ?_
          refine s_end (K44 _ _ ?_)
          have hnil : ls.drop i = [] := List.drop_of_length_le (by omega)
          rw [hnil] at hck
          refine wp_ret (res_slot F rfl rfl ⟨_, rfl, ⟨int_of (by rw [chk_in hnd, hck]; rfl), fun _ => by rw [chk_in hnd, hck]; exact mg⟩, hK⟩)
theorem may13 (x : C3) (l : Lv) (vars : Int) (w0 : World) (hL : RL w0 x l) : Calls Try.prog 144 #[lv x, .int .i64 vars] w0 fun e w' => e = .returned (.int .i64 (chk 32 1048576 vars 1 100 l).1) ∧ Below w0.heap.size w0 w' := by
 have hB := Below.refl w0.heap.size w0
 have sB := hB.size
 refine calls_fs 10 [(0, lv x), (1, .int .i64 vars)] Try.func144 rfl rfl rfl rfl rfl fun a F => ?_
 refine wp_rs fun _ K1 => ?_
 refine s_box (lc x) F (by decide) rfl rfl fun w2 b2 a eb2 m2 B3 zb2 F => ?_
 have sB3 := B3.size
 have hB := bt hB B3
 refine F.sg rfl fun a F => ?_
 refine s_end (K1 _ _ ?_)
 refine wp_rs fun _ K2 => F.vl (x_ldW wide24 m2 rfl rfl) fun a F => F.mv rfl fun a F => F.vl (x_build (vs := [(0, _), (1, _), (2, _), (3, _)]) rfl (b54_0123 _ _ _ _ _)) fun a F => ?_
 refine s_box ([.int .i64 32, .int .i64 100, .int .i64 1048576, .int .i64 vars]) F (by decide) rfl rfl fun w4 b8 a eb8 m8 B5 zb8 F => ?_
 have sB5 := B5.size
 have hB := bt hB B5
 refine s_call (R := fun u w' => (u = .int .i64 (chk 32 1048576 vars 1 100 l).1 ∧ ((chk 32 1048576 vars 1 100 l).1 = 0 → Blk w' b8 163 [.int .i64 32, .int .i64 ((chk 32 1048576 vars 1 100 l).2 : Int), .int .i64 1048576, .int .i64 vars])) ∧ Ktw b8 b8 w4 w') F [_, _, _] E156 rfl (by decide) (check34 32 1048576 vars (by decide) w0 b8 (by omega) x l hL 1 100 w4 (by decide) (by decide) (by decide) hB m8) ?_
 rintro _ w6 a ⟨⟨rfl, _⟩, k7⟩ F
 have sk7 := k7.size
 have hB := k7.under hB (by omega)
 refine F.sg rfl fun a F => ?_
 refine s_end (K2 _ _ ?_)
 refine wp_ret (res_slot F rfl rfl ⟨rfl, hB⟩)
theorem rmay35 (vars : Int) (w0 : World) (g : Nat) (hg : w0.heap.size ≤ g) : ∀ (x : C3) (l : Lv), RL w0 x l → ∀ (d : Int) (r : Nat) (w1 : World), 1 ≤ d → d ≤ 300 → r ≤ 100 → Below w0.heap.size w0 w1 → Blk w1 g 3 [.int .i64 (100 - (r : Int))] →
    Calls Try.prog 164 #[lv x, .int .i64 vars, .int .i64 d, .pointer (some ⟨g, 0, none⟩)] w1 fun e w' => ∃ v, e = .returned v ∧ (v = .int .i64 (chk 32 1048576 vars d r l).1 ∧ ((chk 32 1048576 vars d r l).1 = 0 → Blk w' g 3 [.int .i64 (100 - ((chk 32 1048576 vars d r l).2 : Int))])) ∧ Ktw g g w1 w' := by
  intro x l h
  induction h with
  | @mk k n v xs ls hR hl hk hbd9 ih =>
  intro d r w1 hd1 hd2 hr hB mg
  obtain ⟨av, cv, rfl, _⟩ := hR.form
  have hK := Ktw.refl g g w1
  have sB := hB.size
  have hgl := mg.lt
  refine calls_fs 101 [(0, .agg [.int .i64 k, .int .i64 n, .slice av xs.length cv].toArray), (1, .int .i64 vars), (2, .int .i64 d), (3, .pointer (some ⟨g, 0, none⟩))] Try.func164 rfl rfl rfl rfl rfl fun a F => ?_
  refine wp_rs fun _ K1 => ?_
  refine s_box ([.int .i64 k, .int .i64 n, .slice av xs.length cv]) F (by decide) rfl rfl fun w2 b4 a eb4 m4 B3 zb4 F => ?_
  have sB3 := B3.size
  have hB := bt hB B3
  have hK := hK.below B3
  have mg := mg.old B3
  refine F.sg rfl fun a F => ?_
  refine s_end (K1 _ _ ?_)
  refine wp_rs fun _ K2 => F.mv rfl fun a F => F.vl (x_nil rfl) fun a F => F.ld mg flat3 rfl rfl fun a F => F.vl (x_add (by omega) (by omega) rfl rfl) fun a F => F.vl (x_nil rfl) fun a F => ?_
  refine s_put F rfl rfl flat3 mg (by first | (simp; done) | (show _ < 3; decide)) rfl fun w4 mg o5 => ?_
  have so5 := o5.size
  have hB := hB.trans (o5.below (by omega))
  have hK := hK.only o5 (by omega)
  have m4 := m4.only o5 (by omega)
  refine s_end (K2 _ _ ?_)
  refine wp_seq_k fun K3 hK3 => ?_
  have key3 : ∀ (a : Act) (w9 : World), d ≤ 32 ∧ r ≠ 0 → kidsB k ls.length = true → nodeE 32 1048576 vars d r k n ls.length = 0 → Blk w9 g 3 [.int .i64 (100 - (r : Int) + 1)] → Blk w9 b4 24 [.int .i64 k, .int .i64 n, .slice av xs.length cv] → Below w0.heap.size w0 w9 → Ktw g g w1 w9 → Fs 101 a [(1, .int .i64 vars), (2, .int .i64 d), (3, .pointer (some ⟨g, 0, none⟩)), (4, .pointer (some ⟨b4, 0, none⟩))] → K3 a w9 := by
    have hgb : w0.heap.size ≤ g ∧ g < b4 := ⟨by omega, by omega⟩
    repeat clear F
    clear hB hK mg m4
    rintro a w9 hp hkl hnd mg m4 hB hK F
    have sB := hB.size
    have sK := hK.size
    have hgl := mg.lt
    have hm4l := m4.lt
    refine hK3 _ _ ?_
    refine wp_seq_k fun _ K4 => ?_
    refine wp_rs fun _ K5 => F.vl (x_fa0 fa24_2 rfl) fun a F => F.ld m4 flat22 rfl rfl fun a F => F.vl (x_len Try.underlying22 rfl) fun a F => F.mv rfl fun a F => ?_
    refine s_end (K5 _ _ ?_)
    refine wp_block ?_
    have mg : Blk w9 g 3 [.int .i64 (100 - ((r - 1 : Nat) : Int))] := by rw [show (100 : Int) - ((r - 1 : Nat) : Int) = 100 - (r : Int) + 1 by omega]; exact mg
    refine wp_up xs.length (fun i a w => ∃ ri : Nat, ri ≤ 100 ∧ chks 32 1048576 vars (d + 1) (r - 1) ls = chks 32 1048576 vars (d + 1) ri (ls.drop i) ∧ Blk w g 3 [.int .i64 (100 - (ri : Int))] ∧ Below w0.heap.size w0 w ∧ Ktw g g w1 w ∧ Fs 101 a [(87, .int .i64 (i : Int)), (86, .int .i64 (xs.length : Int)), (85, .slice av xs.length cv), (1, .int .i64 vars), (2, .int .i64 d), (3, .pointer (some ⟨g, 0, none⟩))]) ⟨r - 1, by omega, rfl, mg, hB, hK, F.sub _ rfl⟩ ?_
    clear F hB hK mg
    rintro i a w hi ⟨ri, hri, hck, mg, hB, hK, F⟩ K' hK'
    have sB := hB.size
    have hgl := mg.lt
    have sK := hK.size
    have hle := kids_le hkl
    refine wp_rs fun _ K6 => F.vl (x_lss rfl rfl rfl) fun a F => ?_
    refine s_end (K6 _ _ ?_)
    refine wp_seq_k fun _ K7 => ?_
    refine wp_iff F rfl (fun hc88 => ?_) (fun hc88 => ?_)
    · obtain ⟨b, off, c, y, hve, hy, hrow⟩ := rd_row3 hR (i := i) (by omega)
      cases hve
      obtain ⟨l, hlk⟩ : ∃ l, ls[i]? = some l := ⟨_, List.getElem?_eq_getElem (by omega)⟩
      have ihy := ih i y l hy hlk
      have h1y := (hk i y l hy hlk).one1
      rw [drop_at hlk] at hck
      refine wp_skip (K7 _ _ ?_)
      refine wp_seq_k fun _ K8 => ?_
      refine wp_block ?_
      refine wp_rs fun _ K9 => F.vl (x_ixa rfl rfl (m_ixsK i Try.underlying22 el22.size rfl (by omega))) fun a F => F.vl (x_ldA wide24 (hrow _ hB) rfl rfl) fun a F => ?_
      refine s_alloc F (by decide) zero24 fun w6 b10 a eb10 m10 B7 zb10 F => ?_
      have sB7 := B7.size
      have hB := bt hB B7
      have hK := hK.below B7
      have mg := mg.old B7
      refine s_putW F rfl rfl (size_wide wide24) m10 rfl (one_lc h1y) fun w8 m10 o9 => ?_
      have so9 := o9.size
      have hB := hB.trans (o9.below (by omega))
      have hK := hK.only o9 (by omega)
      have mg := mg.only o9 (by omega)
      refine s_end (K9 _ _ ?_)
      refine wp_rs fun _ K10 => F.vl (x_ldW wide24 m10 rfl rfl) fun a F => F.mv rfl fun a F => F.mv rfl fun a F => F.vl (x_add (by omega) (by omega) rfl rfl) fun a F => F.mv rfl fun a F => ?_
      refine s_call (R := fun u w' => (u = .int .i64 (chk 32 1048576 vars (d + 1) ri l).1 ∧ ((chk 32 1048576 vars (d + 1) ri l).1 = 0 → Blk w' g 3 [.int .i64 (100 - ((chk 32 1048576 vars (d + 1) ri l).2 : Int))])) ∧ Ktw g g w8 w') F [_, _, _, _] E164 rfl (by decide) (ihy (d + 1) ri w8 (by omega) (by omega) hri hB mg) ?_
      rintro _ w10 a ⟨⟨rfl, hmg⟩, k11⟩ F
      have sk11 := k11.size
      have hB := k11.under hB (by omega)
      have hK := hK.trans k11 (by omega)
      refine F.sg rfl fun a F => ?_
      refine s_end (K10 _ _ ?_)
      refine wp_rs fun _ K11 => F.mv rfl fun a F => F.vl (x_neq rfl rfl rfl) fun a F => ?_
      refine s_end (K11 _ _ ?_)
      refine wp_iff F rfl (fun hc98 => ?_) (fun hc98 => ?_)
      · refine wp_rs fun _ K12 => ?_
        refine F.mv rfl fun a F => F.sg rfl fun a F => ?_
        refine s_end (K12 _ _ ?_)
        refine wp_ret (inb_ret (then_ret (then_ret (inb_ret (then_ret (res_slot F rfl rfl ⟨_, rfl, ⟨int_of (by rw [chk_in hnd, hck, chks_out hc98]), fun h => absurd (by rw [chk_in hnd, hck, chks_out hc98] at h; exact h) hc98⟩, hK⟩))))))
      · have hc0 : (chk 32 1048576 vars (d + 1) ri l).1 = 0 := by omega
        have mg := hmg hc0
        refine wp_skip (K8 _ _ ?_)
        refine wp_region_lit ?_
        refine F.vl (x_addn (i + 1) (by omega) (by omega) rfl rfl) fun a F => F.mv rfl fun a F => ?_
        refine s_end (hK' _ _ (by omega) ⟨(chk 32 1048576 vars (d + 1) ri l).2, Nat.le_trans (chk_le _ _ _ _ _ _) hri, by rw [hck, chks_in hc0], mg, hB, hK, F.sub _ rfl⟩)
    · refine wp_exit (K4 _ _ ?_)
      refine wp_rs fun _ K13 => F.sg rfl fun a F => ?_
      refine s_end (K13 _ _ ?_)
      have hnil : ls.drop i = [] := List.drop_of_length_le (by omega)
      rw [hnil] at hck
      refine wp_ret (res_slot F rfl rfl ⟨_, rfl, ⟨int_of (by rw [chk_in hnd, hck]; rfl), fun _ => by rw [chk_in hnd, hck]; exact mg⟩, hK⟩)
  refine wp_block ?_
  rcases (show 32 < d ∨ (d ≤ 32 ∧ r = 0) ∨ (d ≤ 32 ∧ r ≠ 0) by omega) with hp | hp | hp
  · skip
    refine wp_rs fun _ K15 => F.mv rfl fun a F => F.vl (gtrT (by omega) rfl rfl) fun a F => F.mv rfl fun a F => s_grdn 20 F rfl rfl (by decide) fun a F => s_grdn 20 F rfl rfl (by decide) fun a F => s_grdn 20 F rfl rfl (by decide) fun a F => s_grdn 20 F rfl rfl (by decide) fun a F => F.vl (x_pick (b := true) rfl rfl) fun a F => F.sg rfl fun a F => ?_
    refine s_end (K15 _ _ ?_)
    refine wp_if F rfl ?_
    refine wp_rs fun _ K16 => F.sg rfl fun a F => ?_
    refine s_end (K16 _ _ ?_)
    refine wp_ret (inb_ret (then_ret (res_slot F rfl rfl ⟨_, rfl, ⟨int_of (chk_two (by omega)).symm, fun h => absurd ((chk_two (by omega)).symm.trans h) (by decide)⟩, hK⟩)))
  · skip
    refine wp_rs fun _ K17 => F.mv rfl fun a F => F.vl (gtrF (by omega) rfl rfl) fun a F => F.mv rfl fun a F => s_grd 20 F rfl rfl rfl <| F.mv rfl fun a F => s_grd 20 F rfl rfl rfl <| F.vl (x_nil rfl) fun a F => s_grd 20 F rfl rfl rfl <| F.ld mg flat3 rfl rfl fun a F => s_grd 20 F rfl rfl rfl <| F.vl (gtrT (by omega) rfl rfl) fun a F => F.vl (x_pick (b := false) rfl rfl) fun a F => F.sg rfl fun a F => ?_
    refine s_end (K17 _ _ ?_)
    refine wp_if F rfl ?_
    refine wp_rs fun _ K18 => F.sg rfl fun a F => ?_
    refine s_end (K18 _ _ ?_)
    refine wp_ret (inb_ret (then_ret (res_slot F rfl rfl ⟨_, rfl, ⟨int_of (chk_two (by omega)).symm, fun h => absurd ((chk_two (by omega)).symm.trans h) (by decide)⟩, hK⟩)))
  · skip
    refine wp_rs fun _ K19 => F.mv rfl fun a F => F.vl (gtrF (by omega) rfl rfl) fun a F => F.mv rfl fun a F => s_grd 20 F rfl rfl rfl <| F.mv rfl fun a F => s_grd 20 F rfl rfl rfl <| F.vl (x_nil rfl) fun a F => s_grd 20 F rfl rfl rfl <| F.ld mg flat3 rfl rfl fun a F => s_grd 20 F rfl rfl rfl <| F.vl (gtrF (by omega) rfl rfl) fun a F => F.vl (x_pick (b := false) rfl rfl) fun a F => F.sg rfl fun a F => ?_
    refine s_end (K19 _ _ ?_)
    refine wp_if F rfl ?_
    rcases (show arI k < 0 ∨ (0 ≤ arI k ∧ (xs.length : Int) ≠ arI k) ∨ (0 ≤ arI k ∧ (xs.length : Int) = arI k) by omega) with hkb | hkb | hkb
    · have hq : kidsB k ls.length = false ∨ numB 1048576 k n = false := .inl (arI_no (by omega))
      refine dk2_seq (w4.heap.size) (w4.heap.size) (ops := regOps Try.f164 4) (N := 14) (by kernel_rfl) wide_orders (by kernel_rfl) fun w12 hw12 B13 hS K21 hK21 => ?_
      have zw12 : w12.heap.size = w4.heap.size := by rw [hw12]
      have sB13 := B13.size
      have hB := bt hB B13
      have hK := hK.below B13
      have mg := mg.old B13
      have m4 := m4.old B13
      have mg_d := mg
      have m4_d := m4
      have hB_d := hB
      have hK_d := hK
      refine F.dv 0 27 (.fieldAddr 24 (.tmp 4) 0) hS (fun W hW => x_fa0 fa24_0 rfl) fun a F => F.dv 1 28 (.load 3 (.tmp 27)) hS (fun W hW => x_load rfl (m_load flat3 ((m4_d.k2 hW (by omega)).cell (j := 0) rfl))) fun a F => ?_
      refine d1 2 (some 29) (.call (.mk (.value (.func 123)) #[(.tmp 28)] #[3])) fun ty pos af => ?_
      refine s_callS [.int .i64 k] F E123 rfl (by decide) (arity58 k _) fun a F => ?_
      refine s_end ⟨hS, ?_⟩
      refine F.dv 3 30 (.binOp .lss 3 (.tmp 29) (.const (.int .i64 0)) 3) hS (fun W hW => lssT (by omega) rfl rfl) fun a F => F.dv 4 31 (.move (.tmp 30)) hS (fun W hW => x_move rfl) fun a F => d_skip 5 32 31 (j := 4) (want := false) (op := (.fieldAddr 24 (.tmp 4) 2)) F hS (by kernel_rfl) (by kernel_rfl) rfl (by kernel_rfl) (by decide) fun a F => d_skip 6 33 31 (j := 4) (want := false) (op := (.load 22 (.tmp 32))) F hS (by kernel_rfl) (by kernel_rfl) rfl (by kernel_rfl) (by decide) fun a F => d_skip 7 34 31 (j := 4) (want := false) (op := (.call (.mk (.builtin .len) #[(.tmp 33)] #[22]))) F hS (by kernel_rfl) (by kernel_rfl) rfl (by kernel_rfl) (by decide) fun a F => d_skip 8 35 31 (j := 4) (want := false) (op := (.fieldAddr 24 (.tmp 4) 0)) F hS (by kernel_rfl) (by kernel_rfl) rfl (by kernel_rfl) (by decide) fun a F => d_skip 9 36 31 (j := 4) (want := false) (op := (.load 3 (.tmp 35))) F hS (by kernel_rfl) (by kernel_rfl) rfl (by kernel_rfl) (by decide) fun a F => d_skip 10 37 31 (j := 4) (want := false) (op := (.call (.mk (.value (.func 123)) #[(.tmp 36)] #[3]))) F hS (by kernel_rfl) (by kernel_rfl) rfl (by kernel_rfl) (by decide) fun a F => d_skip 11 38 31 (j := 4) (want := false) (op := (.binOp .neq 3 (.tmp 34) (.tmp 37) 3)) F hS (by kernel_rfl) (by kernel_rfl) rfl (by kernel_rfl) (by decide) fun a F => F.dv 12 39 (.pick (.tmp 31) (.const (.bool true)) (.tmp 38)) hS (fun W hW => x_pick (b := true) rfl rfl) fun a F => F.dv 13 26 (.assign (.tmp 39)) hS (fun W hW => x_assign rfl) fun a F => ?_
      refine d_end (by kernel_rfl) (hK21 _ _ ?_)
      refine wp_if F rfl ?_
      refine wp_rs fun _ K22 => F.sg rfl fun a F => ?_
      refine s_end (K22 _ _ ?_)
      refine wp_ret (inb_ret (then_ret (res_slot F rfl rfl ⟨_, rfl, ⟨int_of (chk_one (by omega) hq).symm, fun h => absurd ((chk_one (by omega) hq).symm.trans h) (by decide)⟩, hK⟩)))
    · have hq : kidsB k ls.length = false ∨ numB 1048576 k n = false := .inl (arI_no (by omega))
      refine dk2_seq (w4.heap.size) (w4.heap.size) (ops := regOps Try.f164 4) (N := 14) (by kernel_rfl) wide_orders (by kernel_rfl) fun w14 hw14 B15 hS K23 hK23 => ?_
      have zw14 : w14.heap.size = w4.heap.size := by rw [hw14]
      have sB15 := B15.size
      have hB := bt hB B15
      have hK := hK.below B15
      have mg := mg.old B15
      have m4 := m4.old B15
      have mg_d := mg
      have m4_d := m4
      have hB_d := hB
      have hK_d := hK
      refine F.dv 0 27 (.fieldAddr 24 (.tmp 4) 0) hS (fun W hW => x_fa0 fa24_0 rfl) fun a F => F.dv 1 28 (.load 3 (.tmp 27)) hS (fun W hW => x_load rfl (m_load flat3 ((m4_d.k2 hW (by omega)).cell (j := 0) rfl))) fun a F => ?_
      refine d1 2 (some 29) (.call (.mk (.value (.func 123)) #[(.tmp 28)] #[3])) fun ty pos af => ?_
      refine s_callS [.int .i64 k] F E123 rfl (by decide) (arity58 k _) fun a F => ?_
      refine s_end ⟨hS, ?_⟩
      refine F.dv 3 30 (.binOp .lss 3 (.tmp 29) (.const (.int .i64 0)) 3) hS (fun W hW => lssF (by omega) rfl rfl) fun a F => F.dv 4 31 (.move (.tmp 30)) hS (fun W hW => x_move rfl) fun a F => F.dg 5 32 31 4 false (.fieldAddr 24 (.tmp 4) 2) hS rfl (fun W hW => x_fa0 fa24_2 rfl) fun a F => F.dg 6 33 31 4 false (.load 22 (.tmp 32)) hS rfl (fun W hW => x_load rfl (m_load flat22 ((m4_d.k2 hW (by omega)).cell (j := 2) rfl))) fun a F => F.dg 7 34 31 4 false (.call (.mk (.builtin .len) #[(.tmp 33)] #[22])) hS rfl (fun W hW => x_len Try.underlying22 rfl) fun a F => F.dg 8 35 31 4 false (.fieldAddr 24 (.tmp 4) 0) hS rfl (fun W hW => x_fa0 fa24_0 rfl) fun a F => F.dg 9 36 31 4 false (.load 3 (.tmp 35)) hS rfl (fun W hW => x_load rfl (m_load flat3 ((m4_d.k2 hW (by omega)).cell (j := 0) rfl))) fun a F => ?_
      refine d_oneg 10 31 (some 37) (.call (.mk (.value (.func 123)) #[(.tmp 36)] #[3])) (j := 4) (want := false) F (by kernel_rfl) (by kernel_rfl) (by kernel_rfl) rfl fun ty pos af => ?_
      refine s_callS [.int .i64 k] F E123 rfl (by decide) (arity58 k _) fun a F => ?_
      refine s_end ⟨hS, ?_⟩
      refine F.dg 11 38 31 4 false (.binOp .neq 3 (.tmp 34) (.tmp 37) 3) hS rfl (fun W hW => neqT (by omega) rfl rfl) fun a F => F.dv 12 39 (.pick (.tmp 31) (.const (.bool true)) (.tmp 38)) hS (fun W hW => x_pick (b := false) rfl rfl) fun a F => F.dv 13 26 (.assign (.tmp 39)) hS (fun W hW => x_assign rfl) fun a F => ?_
      refine d_end (by kernel_rfl) (hK23 _ _ ?_)
      refine wp_if F rfl ?_
      refine wp_rs fun _ K24 => F.sg rfl fun a F => ?_
      refine s_end (K24 _ _ ?_)
      refine wp_ret (inb_ret (then_ret (res_slot F rfl rfl ⟨_, rfl, ⟨int_of (chk_one (by omega) hq).symm, fun h => absurd ((chk_one (by omega) hq).symm.trans h) (by decide)⟩, hK⟩)))
    · have hkl : kidsB k ls.length = true := arI_kids.2 (by omega)
      refine dk2_seq (w4.heap.size) (w4.heap.size) (ops := regOps Try.f164 4) (N := 14) (by kernel_rfl) wide_orders (by kernel_rfl) fun w16 hw16 B17 hS K25 K25 => ?_
      have zw16 : w16.heap.size = w4.heap.size := by rw [hw16]
      have sB17 := B17.size
      have hB := bt hB B17
      have hK := hK.below B17
      have mg := mg.old B17
      have m4 := m4.old B17
      have mg_d := mg
      have m4_d := m4
      have hB_d := hB
      have hK_d := hK
      refine F.dv 0 27 (.fieldAddr 24 (.tmp 4) 0) hS (fun W hW => x_fa0 fa24_0 rfl) fun a F => F.dv 1 28 (.load 3 (.tmp 27)) hS (fun W hW => x_load rfl (m_load flat3 ((m4_d.k2 hW (by omega)).cell (j := 0) rfl))) fun a F => ?_
      refine d1 2 (some 29) (.call (.mk (.value (.func 123)) #[(.tmp 28)] #[3])) fun ty pos af => ?_
      refine s_callS [.int .i64 k] F E123 rfl (by decide) (arity58 k _) fun a F => ?_
      refine s_end ⟨hS, ?_⟩
      refine F.dv 3 30 (.binOp .lss 3 (.tmp 29) (.const (.int .i64 0)) 3) hS (fun W hW => lssF (by omega) rfl rfl) fun a F => F.dv 4 31 (.move (.tmp 30)) hS (fun W hW => x_move rfl) fun a F => F.dg 5 32 31 4 false (.fieldAddr 24 (.tmp 4) 2) hS rfl (fun W hW => x_fa0 fa24_2 rfl) fun a F => F.dg 6 33 31 4 false (.load 22 (.tmp 32)) hS rfl (fun W hW => x_load rfl (m_load flat22 ((m4_d.k2 hW (by omega)).cell (j := 2) rfl))) fun a F => F.dg 7 34 31 4 false (.call (.mk (.builtin .len) #[(.tmp 33)] #[22])) hS rfl (fun W hW => x_len Try.underlying22 rfl) fun a F => F.dg 8 35 31 4 false (.fieldAddr 24 (.tmp 4) 0) hS rfl (fun W hW => x_fa0 fa24_0 rfl) fun a F => F.dg 9 36 31 4 false (.load 3 (.tmp 35)) hS rfl (fun W hW => x_load rfl (m_load flat3 ((m4_d.k2 hW (by omega)).cell (j := 0) rfl))) fun a F => ?_
      refine d_oneg 10 31 (some 37) (.call (.mk (.value (.func 123)) #[(.tmp 36)] #[3])) (j := 4) (want := false) F (by kernel_rfl) (by kernel_rfl) (by kernel_rfl) rfl fun ty pos af => ?_
      refine s_callS [.int .i64 k] F E123 rfl (by decide) (arity58 k _) fun a F => ?_
      refine s_end ⟨hS, ?_⟩
      refine F.dg 11 38 31 4 false (.binOp .neq 3 (.tmp 34) (.tmp 37) 3) hS rfl (fun W hW => neqF (by omega) rfl rfl) fun a F => F.dv 12 39 (.pick (.tmp 31) (.const (.bool true)) (.tmp 38)) hS (fun W hW => x_pick (b := false) rfl rfl) fun a F => F.dv 13 26 (.assign (.tmp 39)) hS (fun W hW => x_assign rfl) fun a F => ?_
      refine d_end (by kernel_rfl) (K25 _ _ ?_)
      refine wp_if F rfl ?_
      rcases (show (k = 1 ∧ n < 0) ∨ (k = 1 ∧ 0 ≤ n ∧ 1048576 < n) ∨ (k = 1 ∧ 0 ≤ n ∧ n ≤ 1048576) ∨ (k = 3 ∧ n < 1) ∨ (k = 3 ∧ 1 ≤ n ∧ 1048576 < n) ∨ (k = 3 ∧ 1 ≤ n ∧ n ≤ 1048576) ∨ (k = 2 ∧ n < 0) ∨ (k = 2 ∧ 0 ≤ n ∧ vars ≤ n) ∨ (k = 2 ∧ 0 ≤ n ∧ n < vars) ∨ (k ≠ 1 ∧ k ≠ 2 ∧ k ≠ 3) by omega) with hv | hv | hv | hv | hv | hv | hv | hv | hv | hv
      · have hq : kidsB k ls.length = false ∨ numB 1048576 k n = false := .inr (numB_no (by omega))
        refine wp_rs fun _ K27 => F.vl (x_fa0 fa24_0 rfl) fun a F => F.ld m4 flat3 rfl rfl fun a F => F.vl (eqlT (by omega) rfl rfl) fun a F => F.mv rfl fun a F => s_grd 44 F rfl rfl rfl <| F.vl (x_fa0 fa24_1 rfl) fun a F => s_grd 44 F rfl rfl rfl <| F.ld m4 flat3 rfl rfl fun a F => s_grd 44 F rfl rfl rfl <| F.vl (lssT (by omega) rfl rfl) fun a F => s_grd 44 F rfl rfl rfl <| F.mv rfl fun a F => s_grdn 48 F rfl rfl (by decide) fun a F => s_grdn 48 F rfl rfl (by decide) fun a F => s_grdn 48 F rfl rfl (by decide) fun a F => s_grd 44 F rfl rfl rfl <| F.vl (x_pick (b := true) rfl rfl) fun a F => F.vl (x_pick (b := true) rfl rfl) fun a F => F.mv rfl fun a F => s_grdn 54 F rfl rfl (by decide) fun a F => s_grdn 54 F rfl rfl (by decide) fun a F => s_grdn 54 F rfl rfl (by decide) fun a F => s_grdn 54 F rfl rfl (by decide) fun a F => s_grdu 58 F rfl rfl (by decide) fun a F => s_grdu 58 F rfl rfl (by decide) fun a F => s_grdu 58 F rfl rfl (by decide) fun a F => s_grdu 58 F rfl rfl (by decide) fun a F => s_grdu 62 F rfl rfl (by decide) fun a F => s_grdu 62 F rfl rfl (by decide) fun a F => s_grdu 62 F rfl rfl (by decide) fun a F => ?_
        refine s_grdu 58 F rfl rfl (by decide) fun a F => s_grdn 54 F rfl rfl (by decide) fun a F => F.vl (x_pick (b := true) rfl rfl) fun a F => F.sg rfl fun a F => ?_
        refine s_end (K27 _ _ ?_)
        refine wp_if F rfl ?_
        refine wp_rs fun _ K28 => F.sg rfl fun a F => ?_
        refine s_end (K28 _ _ ?_)
        refine wp_ret (inb_ret (then_ret (res_slot F rfl rfl ⟨_, rfl, ⟨int_of (chk_one (by omega) hq).symm, fun h => absurd ((chk_one (by omega) hq).symm.trans h) (by decide)⟩, hK⟩)))
      · have hq : kidsB k ls.length = false ∨ numB 1048576 k n = false := .inr (numB_no (by omega))
        refine wp_rs fun _ K29 => F.vl (x_fa0 fa24_0 rfl) fun a F => F.ld m4 flat3 rfl rfl fun a F => F.vl (eqlT (by omega) rfl rfl) fun a F => F.mv rfl fun a F => s_grd 44 F rfl rfl rfl <| F.vl (x_fa0 fa24_1 rfl) fun a F => s_grd 44 F rfl rfl rfl <| F.ld m4 flat3 rfl rfl fun a F => s_grd 44 F rfl rfl rfl <| F.vl (lssF (by omega) rfl rfl) fun a F => s_grd 44 F rfl rfl rfl <| F.mv rfl fun a F => s_grd 48 F rfl rfl rfl <| F.vl (x_fa0 fa24_1 rfl) fun a F => s_grd 48 F rfl rfl rfl <| F.ld m4 flat3 rfl rfl fun a F => s_grd 48 F rfl rfl rfl <| F.vl (gtrT (by omega) rfl rfl) fun a F => s_grd 44 F rfl rfl rfl <| F.vl (x_pick (b := false) rfl rfl) fun a F => F.vl (x_pick (b := true) rfl rfl) fun a F => F.mv rfl fun a F => s_grdn 54 F rfl rfl (by decide) fun a F => s_grdn 54 F rfl rfl (by decide) fun a F => s_grdn 54 F rfl rfl (by decide) fun a F => s_grdn 54 F rfl rfl (by decide) fun a F => s_grdu 58 F rfl rfl (by decide) fun a F => s_grdu 58 F rfl rfl (by decide) fun a F => s_grdu 58 F rfl rfl (by decide) fun a F => s_grdu 58 F rfl rfl (by decide) fun a F => ?_
        refine s_grdu 62 F rfl rfl (by decide) fun a F => s_grdu 62 F rfl rfl (by decide) fun a F => s_grdu 62 F rfl rfl (by decide) fun a F => s_grdu 58 F rfl rfl (by decide) fun a F => s_grdn 54 F rfl rfl (by decide) fun a F => F.vl (x_pick (b := true) rfl rfl) fun a F => F.sg rfl fun a F => ?_
        refine s_end (K29 _ _ ?_)
        refine wp_if F rfl ?_
        refine wp_rs fun _ K30 => F.sg rfl fun a F => ?_
        refine s_end (K30 _ _ ?_)
        refine wp_ret (inb_ret (then_ret (res_slot F rfl rfl ⟨_, rfl, ⟨int_of (chk_one (by omega) hq).symm, fun h => absurd ((chk_one (by omega) hq).symm.trans h) (by decide)⟩, hK⟩)))
      · have hnb : numB 1048576 k n = true := numB_iff.2 (by omega)
        have hnd := nodeE_iff.2 ⟨hp.1, hp.2, hkl, hnb, (by omega : ¬ (k = 2 ∧ (n < 0 ∨ vars ≤ n)))⟩
        refine wp_rs fun _ K31 => F.vl (x_fa0 fa24_0 rfl) fun a F => F.ld m4 flat3 rfl rfl fun a F => F.vl (eqlT (by omega) rfl rfl) fun a F => F.mv rfl fun a F => s_grd 44 F rfl rfl rfl <| F.vl (x_fa0 fa24_1 rfl) fun a F => s_grd 44 F rfl rfl rfl <| F.ld m4 flat3 rfl rfl fun a F => s_grd 44 F rfl rfl rfl <| F.vl (lssF (by omega) rfl rfl) fun a F => s_grd 44 F rfl rfl rfl <| F.mv rfl fun a F => s_grd 48 F rfl rfl rfl <| F.vl (x_fa0 fa24_1 rfl) fun a F => s_grd 48 F rfl rfl rfl <| F.ld m4 flat3 rfl rfl fun a F => s_grd 48 F rfl rfl rfl <| F.vl (gtrF (by omega) rfl rfl) fun a F => s_grd 44 F rfl rfl rfl <| F.vl (x_pick (b := false) rfl rfl) fun a F => F.vl (x_pick (b := true) rfl rfl) fun a F => F.mv rfl fun a F => s_grd 54 F rfl rfl rfl <| F.vl (x_fa0 fa24_0 rfl) fun a F => s_grd 54 F rfl rfl rfl <| F.ld m4 flat3 rfl rfl fun a F => s_grd 54 F rfl rfl rfl <| F.vl (eqlF (by omega) rfl rfl) fun a F => s_grd 54 F rfl rfl rfl <| F.mv rfl fun a F => ?_
        refine s_grdn 58 F rfl rfl (by decide) fun a F => s_grdn 58 F rfl rfl (by decide) fun a F => s_grdn 58 F rfl rfl (by decide) fun a F => s_grdn 58 F rfl rfl (by decide) fun a F => s_grdu 62 F rfl rfl (by decide) fun a F => s_grdu 62 F rfl rfl (by decide) fun a F => s_grdu 62 F rfl rfl (by decide) fun a F => s_grdn 58 F rfl rfl (by decide) fun a F => s_grd 54 F rfl rfl rfl <| F.vl (x_pick (b := false) rfl rfl) fun a F => F.vl (x_pick (b := false) rfl rfl) fun a F => F.sg rfl fun a F => ?_
        refine s_end (K31 _ _ ?_)
        refine wp_if F rfl ?_
        refine wp_rs fun _ K32 => F.vl (x_fa0 fa24_0 rfl) fun a F => F.ld m4 flat3 rfl rfl fun a F => F.vl (eqlF (by omega) rfl rfl) fun a F => F.mv rfl fun a F => s_grdn 73 F rfl rfl (by decide) fun a F => s_grdn 73 F rfl rfl (by decide) fun a F => s_grdn 73 F rfl rfl (by decide) fun a F => s_grdn 73 F rfl rfl (by decide) fun a F => s_grdu 77 F rfl rfl (by decide) fun a F => s_grdu 77 F rfl rfl (by decide) fun a F => s_grdu 77 F rfl rfl (by decide) fun a F => s_grdu 77 F rfl rfl (by decide) fun a F => s_grdn 73 F rfl rfl (by decide) fun a F => F.vl (x_pick (b := false) rfl rfl) fun a F => F.sg rfl fun a F => ?_
        refine s_end (K32 _ _ ?_)
        refine wp_if F rfl ?_
        refine wp_skip ?_
        exact key3 _ _ hp hkl hnd mg m4 hB hK (F.sub _ rfl)
      · have hq : kidsB k ls.length = false ∨ numB 1048576 k n = false := .inr (numB_no (by omega))
        refine wp_rs fun _ K33 => F.vl (x_fa0 fa24_0 rfl) fun a F => F.ld m4 flat3 rfl rfl fun a F => F.vl (eqlF (by omega) rfl rfl) fun a F => F.mv rfl fun a F => s_grdn 44 F rfl rfl (by decide) fun a F => s_grdn 44 F rfl rfl (by decide) fun a F => s_grdn 44 F rfl rfl (by decide) fun a F => s_grdn 44 F rfl rfl (by decide) fun a F => s_grdu 48 F rfl rfl (by decide) fun a F => s_grdu 48 F rfl rfl (by decide) fun a F => s_grdu 48 F rfl rfl (by decide) fun a F => s_grdn 44 F rfl rfl (by decide) fun a F => F.vl (x_pick (b := false) rfl rfl) fun a F => F.mv rfl fun a F => s_grd 54 F rfl rfl rfl <| F.vl (x_fa0 fa24_0 rfl) fun a F => s_grd 54 F rfl rfl rfl <| F.ld m4 flat3 rfl rfl fun a F => s_grd 54 F rfl rfl rfl <| F.vl (eqlT (by omega) rfl rfl) fun a F => s_grd 54 F rfl rfl rfl <| F.mv rfl fun a F => s_grd 58 F rfl rfl rfl <| F.vl (x_fa0 fa24_1 rfl) fun a F => s_grd 58 F rfl rfl rfl <| F.ld m4 flat3 rfl rfl fun a F => s_grd 58 F rfl rfl rfl <| F.vl (lssT (by omega) rfl rfl) fun a F => s_grd 58 F rfl rfl rfl <| F.mv rfl fun a F => ?_
        refine s_grdn 62 F rfl rfl (by decide) fun a F => s_grdn 62 F rfl rfl (by decide) fun a F => s_grdn 62 F rfl rfl (by decide) fun a F => s_grd 58 F rfl rfl rfl <| F.vl (x_pick (b := true) rfl rfl) fun a F => s_grd 54 F rfl rfl rfl <| F.vl (x_pick (b := true) rfl rfl) fun a F => F.vl (x_pick (b := false) rfl rfl) fun a F => F.sg rfl fun a F => ?_
        refine s_end (K33 _ _ ?_)
        refine wp_if F rfl ?_
        refine wp_rs fun _ K34 => F.sg rfl fun a F => ?_
        refine s_end (K34 _ _ ?_)
        refine wp_ret (inb_ret (then_ret (res_slot F rfl rfl ⟨_, rfl, ⟨int_of (chk_one (by omega) hq).symm, fun h => absurd ((chk_one (by omega) hq).symm.trans h) (by decide)⟩, hK⟩)))
      · have hq : kidsB k ls.length = false ∨ numB 1048576 k n = false := .inr (numB_no (by omega))
        refine wp_rs fun _ K35 => F.vl (x_fa0 fa24_0 rfl) fun a F => F.ld m4 flat3 rfl rfl fun a F => F.vl (eqlF (by omega) rfl rfl) fun a F => F.mv rfl fun a F => s_grdn 44 F rfl rfl (by decide) fun a F => s_grdn 44 F rfl rfl (by decide) fun a F => s_grdn 44 F rfl rfl (by decide) fun a F => s_grdn 44 F rfl rfl (by decide) fun a F => s_grdu 48 F rfl rfl (by decide) fun a F => s_grdu 48 F rfl rfl (by decide) fun a F => s_grdu 48 F rfl rfl (by decide) fun a F => s_grdn 44 F rfl rfl (by decide) fun a F => F.vl (x_pick (b := false) rfl rfl) fun a F => F.mv rfl fun a F => s_grd 54 F rfl rfl rfl <| F.vl (x_fa0 fa24_0 rfl) fun a F => s_grd 54 F rfl rfl rfl <| F.ld m4 flat3 rfl rfl fun a F => s_grd 54 F rfl rfl rfl <| F.vl (eqlT (by omega) rfl rfl) fun a F => s_grd 54 F rfl rfl rfl <| F.mv rfl fun a F => s_grd 58 F rfl rfl rfl <| F.vl (x_fa0 fa24_1 rfl) fun a F => s_grd 58 F rfl rfl rfl <| F.ld m4 flat3 rfl rfl fun a F => s_grd 58 F rfl rfl rfl <| F.vl (lssF (by omega) rfl rfl) fun a F => s_grd 58 F rfl rfl rfl <| F.mv rfl fun a F => ?_
        refine s_grd 62 F rfl rfl rfl <| F.vl (x_fa0 fa24_1 rfl) fun a F => s_grd 62 F rfl rfl rfl <| F.ld m4 flat3 rfl rfl fun a F => s_grd 62 F rfl rfl rfl <| F.vl (gtrT (by omega) rfl rfl) fun a F => s_grd 58 F rfl rfl rfl <| F.vl (x_pick (b := false) rfl rfl) fun a F => s_grd 54 F rfl rfl rfl <| F.vl (x_pick (b := true) rfl rfl) fun a F => F.vl (x_pick (b := false) rfl rfl) fun a F => F.sg rfl fun a F => ?_
        refine s_end (K35 _ _ ?_)
        refine wp_if F rfl ?_
        refine wp_rs fun _ K36 => F.sg rfl fun a F => ?_
        refine s_end (K36 _ _ ?_)
        refine wp_ret (inb_ret (then_ret (res_slot F rfl rfl ⟨_, rfl, ⟨int_of (chk_one (by omega) hq).symm, fun h => absurd ((chk_one (by omega) hq).symm.trans h) (by decide)⟩, hK⟩)))
      · have hnb : numB 1048576 k n = true := numB_iff.2 (by omega)
        have hnd := nodeE_iff.2 ⟨hp.1, hp.2, hkl, hnb, (by omega : ¬ (k = 2 ∧ (n < 0 ∨ vars ≤ n)))⟩
        refine wp_rs fun _ K37 => F.vl (x_fa0 fa24_0 rfl) fun a F => F.ld m4 flat3 rfl rfl fun a F => F.vl (eqlF (by omega) rfl rfl) fun a F => F.mv rfl fun a F => s_grdn 44 F rfl rfl (by decide) fun a F => s_grdn 44 F rfl rfl (by decide) fun a F => s_grdn 44 F rfl rfl (by decide) fun a F => s_grdn 44 F rfl rfl (by decide) fun a F => s_grdu 48 F rfl rfl (by decide) fun a F => s_grdu 48 F rfl rfl (by decide) fun a F => s_grdu 48 F rfl rfl (by decide) fun a F => s_grdn 44 F rfl rfl (by decide) fun a F => F.vl (x_pick (b := false) rfl rfl) fun a F => F.mv rfl fun a F => s_grd 54 F rfl rfl rfl <| F.vl (x_fa0 fa24_0 rfl) fun a F => s_grd 54 F rfl rfl rfl <| F.ld m4 flat3 rfl rfl fun a F => s_grd 54 F rfl rfl rfl <| F.vl (eqlT (by omega) rfl rfl) fun a F => s_grd 54 F rfl rfl rfl <| F.mv rfl fun a F => s_grd 58 F rfl rfl rfl <| F.vl (x_fa0 fa24_1 rfl) fun a F => s_grd 58 F rfl rfl rfl <| F.ld m4 flat3 rfl rfl fun a F => s_grd 58 F rfl rfl rfl <| F.vl (lssF (by omega) rfl rfl) fun a F => s_grd 58 F rfl rfl rfl <| F.mv rfl fun a F => ?_
        refine s_grd 62 F rfl rfl rfl <| F.vl (x_fa0 fa24_1 rfl) fun a F => s_grd 62 F rfl rfl rfl <| F.ld m4 flat3 rfl rfl fun a F => s_grd 62 F rfl rfl rfl <| F.vl (gtrF (by omega) rfl rfl) fun a F => s_grd 58 F rfl rfl rfl <| F.vl (x_pick (b := false) rfl rfl) fun a F => s_grd 54 F rfl rfl rfl <| F.vl (x_pick (b := true) rfl rfl) fun a F => F.vl (x_pick (b := false) rfl rfl) fun a F => F.sg rfl fun a F => ?_
        refine s_end (K37 _ _ ?_)
        refine wp_if F rfl ?_
        refine wp_rs fun _ K38 => F.vl (x_fa0 fa24_0 rfl) fun a F => F.ld m4 flat3 rfl rfl fun a F => F.vl (eqlF (by omega) rfl rfl) fun a F => F.mv rfl fun a F => s_grdn 73 F rfl rfl (by decide) fun a F => s_grdn 73 F rfl rfl (by decide) fun a F => s_grdn 73 F rfl rfl (by decide) fun a F => s_grdn 73 F rfl rfl (by decide) fun a F => s_grdu 77 F rfl rfl (by decide) fun a F => s_grdu 77 F rfl rfl (by decide) fun a F => s_grdu 77 F rfl rfl (by decide) fun a F => s_grdu 77 F rfl rfl (by decide) fun a F => s_grdn 73 F rfl rfl (by decide) fun a F => F.vl (x_pick (b := false) rfl rfl) fun a F => F.sg rfl fun a F => ?_
        refine s_end (K38 _ _ ?_)
        refine wp_if F rfl ?_
        refine wp_skip ?_
        exact key3 _ _ hp hkl hnd mg m4 hB hK (F.sub _ rfl)
      · have hnb : numB 1048576 k n = true := numB_iff.2 (by omega)
        refine wp_rs fun _ K39 => F.vl (x_fa0 fa24_0 rfl) fun a F => F.ld m4 flat3 rfl rfl fun a F => F.vl (eqlF (by omega) rfl rfl) fun a F => F.mv rfl fun a F => s_grdn 44 F rfl rfl (by decide) fun a F => s_grdn 44 F rfl rfl (by decide) fun a F => s_grdn 44 F rfl rfl (by decide) fun a F => s_grdn 44 F rfl rfl (by decide) fun a F => s_grdu 48 F rfl rfl (by decide) fun a F => s_grdu 48 F rfl rfl (by decide) fun a F => s_grdu 48 F rfl rfl (by decide) fun a F => s_grdn 44 F rfl rfl (by decide) fun a F => F.vl (x_pick (b := false) rfl rfl) fun a F => F.mv rfl fun a F => s_grd 54 F rfl rfl rfl <| F.vl (x_fa0 fa24_0 rfl) fun a F => s_grd 54 F rfl rfl rfl <| F.ld m4 flat3 rfl rfl fun a F => s_grd 54 F rfl rfl rfl <| F.vl (eqlF (by omega) rfl rfl) fun a F => s_grd 54 F rfl rfl rfl <| F.mv rfl fun a F => s_grdn 58 F rfl rfl (by decide) fun a F => s_grdn 58 F rfl rfl (by decide) fun a F => s_grdn 58 F rfl rfl (by decide) fun a F => s_grdn 58 F rfl rfl (by decide) fun a F => s_grdu 62 F rfl rfl (by decide) fun a F => s_grdu 62 F rfl rfl (by decide) fun a F => s_grdu 62 F rfl rfl (by decide) fun a F => s_grdn 58 F rfl rfl (by decide) fun a F => ?_
        refine s_grd 54 F rfl rfl rfl <| F.vl (x_pick (b := false) rfl rfl) fun a F => F.vl (x_pick (b := false) rfl rfl) fun a F => F.sg rfl fun a F => ?_
        refine s_end (K39 _ _ ?_)
        refine wp_if F rfl ?_
        refine wp_rs fun _ K40 => F.vl (x_fa0 fa24_0 rfl) fun a F => F.ld m4 flat3 rfl rfl fun a F => F.vl (eqlT (by omega) rfl rfl) fun a F => F.mv rfl fun a F => s_grd 73 F rfl rfl rfl <| F.vl (x_fa0 fa24_1 rfl) fun a F => s_grd 73 F rfl rfl rfl <| F.ld m4 flat3 rfl rfl fun a F => s_grd 73 F rfl rfl rfl <| F.vl (lssT (by omega) rfl rfl) fun a F => s_grd 73 F rfl rfl rfl <| F.mv rfl fun a F => s_grdn 77 F rfl rfl (by decide) fun a F => s_grdn 77 F rfl rfl (by decide) fun a F => s_grdn 77 F rfl rfl (by decide) fun a F => s_grdn 77 F rfl rfl (by decide) fun a F => s_grd 73 F rfl rfl rfl <| F.vl (x_pick (b := true) rfl rfl) fun a F => F.vl (x_pick (b := true) rfl rfl) fun a F => F.sg rfl fun a F => ?_
        refine s_end (K40 _ _ ?_)
        refine wp_if F rfl ?_
        refine wp_rs fun _ K41 => F.sg rfl fun a F => ?_
        refine s_end (K41 _ _ ?_)
        refine wp_ret (inb_ret (then_ret (res_slot F rfl rfl ⟨_, rfl, ⟨int_of (chk_ten (by omega) hkl hnb (by omega)).symm, fun h => absurd ((chk_ten (by omega) hkl hnb (by omega)).symm.trans h) (by decide)⟩, hK⟩)))
      · have hnb : numB 1048576 k n = true := numB_iff.2 (by omega)
        refine wp_rs fun _ K42 => F.vl (x_fa0 fa24_0 rfl) fun a F => F.ld m4 flat3 rfl rfl fun a F => F.vl (eqlF (by omega) rfl rfl) fun a F => F.mv rfl fun a F => s_grdn 44 F rfl rfl (by decide) fun a F => s_grdn 44 F rfl rfl (by decide) fun a F => s_grdn 44 F rfl rfl (by decide) fun a F => s_grdn 44 F rfl rfl (by decide) fun a F => s_grdu 48 F rfl rfl (by decide) fun a F => s_grdu 48 F rfl rfl (by decide) fun a F => s_grdu 48 F rfl rfl (by decide) fun a F => s_grdn 44 F rfl rfl (by decide) fun a F => F.vl (x_pick (b := false) rfl rfl) fun a F => F.mv rfl fun a F => s_grd 54 F rfl rfl rfl <| F.vl (x_fa0 fa24_0 rfl) fun a F => s_grd 54 F rfl rfl rfl <| F.ld m4 flat3 rfl rfl fun a F => s_grd 54 F rfl rfl rfl <| F.vl (eqlF (by omega) rfl rfl) fun a F => s_grd 54 F rfl rfl rfl <| F.mv rfl fun a F => s_grdn 58 F rfl rfl (by decide) fun a F => s_grdn 58 F rfl rfl (by decide) fun a F => s_grdn 58 F rfl rfl (by decide) fun a F => s_grdn 58 F rfl rfl (by decide) fun a F => s_grdu 62 F rfl rfl (by decide) fun a F => s_grdu 62 F rfl rfl (by decide) fun a F => s_grdu 62 F rfl rfl (by decide) fun a F => s_grdn 58 F rfl rfl (by decide) fun a F => ?_
        refine s_grd 54 F rfl rfl rfl <| F.vl (x_pick (b := false) rfl rfl) fun a F => F.vl (x_pick (b := false) rfl rfl) fun a F => F.sg rfl fun a F => ?_
        refine s_end (K42 _ _ ?_)
        refine wp_if F rfl ?_
        refine wp_rs fun _ K43 => F.vl (x_fa0 fa24_0 rfl) fun a F => F.ld m4 flat3 rfl rfl fun a F => F.vl (eqlT (by omega) rfl rfl) fun a F => F.mv rfl fun a F => s_grd 73 F rfl rfl rfl <| F.vl (x_fa0 fa24_1 rfl) fun a F => s_grd 73 F rfl rfl rfl <| F.ld m4 flat3 rfl rfl fun a F => s_grd 73 F rfl rfl rfl <| F.vl (lssF (by omega) rfl rfl) fun a F => s_grd 73 F rfl rfl rfl <| F.mv rfl fun a F => s_grd 77 F rfl rfl rfl <| F.vl (x_fa0 fa24_1 rfl) fun a F => s_grd 77 F rfl rfl rfl <| F.ld m4 flat3 rfl rfl fun a F => s_grd 77 F rfl rfl rfl <| F.mv rfl fun a F => s_grd 77 F rfl rfl rfl <| F.vl (geqT (by omega) rfl rfl) fun a F => s_grd 73 F rfl rfl rfl <| F.vl (x_pick (b := false) rfl rfl) fun a F => F.vl (x_pick (b := true) rfl rfl) fun a F => F.sg rfl fun a F => ?_
        refine s_end (K43 _ _ ?_)
        refine wp_if F rfl ?_
        refine wp_rs fun _ K44 => F.sg rfl fun a F => ?_
        refine s_end (K44 _ _ ?_)
        refine wp_ret (inb_ret (then_ret (res_slot F rfl rfl ⟨_, rfl, ⟨int_of (chk_ten (by omega) hkl hnb (by omega)).symm, fun h => absurd ((chk_ten (by omega) hkl hnb (by omega)).symm.trans h) (by decide)⟩, hK⟩)))
      · have hnb : numB 1048576 k n = true := numB_iff.2 (by omega)
        have hnd := nodeE_iff.2 ⟨hp.1, hp.2, hkl, hnb, (by omega : ¬ (k = 2 ∧ (n < 0 ∨ vars ≤ n)))⟩
        refine wp_rs fun _ K45 => F.vl (x_fa0 fa24_0 rfl) fun a F => F.ld m4 flat3 rfl rfl fun a F => F.vl (eqlF (by omega) rfl rfl) fun a F => F.mv rfl fun a F => s_grdn 44 F rfl rfl (by decide) fun a F => s_grdn 44 F rfl rfl (by decide) fun a F => s_grdn 44 F rfl rfl (by decide) fun a F => s_grdn 44 F rfl rfl (by decide) fun a F => s_grdu 48 F rfl rfl (by decide) fun a F => s_grdu 48 F rfl rfl (by decide) fun a F => s_grdu 48 F rfl rfl (by decide) fun a F => s_grdn 44 F rfl rfl (by decide) fun a F => F.vl (x_pick (b := false) rfl rfl) fun a F => F.mv rfl fun a F => s_grd 54 F rfl rfl rfl <| F.vl (x_fa0 fa24_0 rfl) fun a F => s_grd 54 F rfl rfl rfl <| F.ld m4 flat3 rfl rfl fun a F => s_grd 54 F rfl rfl rfl <| F.vl (eqlF (by omega) rfl rfl) fun a F => s_grd 54 F rfl rfl rfl <| F.mv rfl fun a F => s_grdn 58 F rfl rfl (by decide) fun a F => s_grdn 58 F rfl rfl (by decide) fun a F => s_grdn 58 F rfl rfl (by decide) fun a F => s_grdn 58 F rfl rfl (by decide) fun a F => s_grdu 62 F rfl rfl (by decide) fun a F => s_grdu 62 F rfl rfl (by decide) fun a F => s_grdu 62 F rfl rfl (by decide) fun a F => s_grdn 58 F rfl rfl (by decide) fun a F => ?_
        refine s_grd 54 F rfl rfl rfl <| F.vl (x_pick (b := false) rfl rfl) fun a F => F.vl (x_pick (b := false) rfl rfl) fun a F => F.sg rfl fun a F => ?_
        refine s_end (K45 _ _ ?_)
        refine wp_if F rfl ?_
        refine wp_rs fun _ K46 => F.vl (x_fa0 fa24_0 rfl) fun a F => F.ld m4 flat3 rfl rfl fun a F => F.vl (eqlT (by omega) rfl rfl) fun a F => F.mv rfl fun a F => s_grd 73 F rfl rfl rfl <| F.vl (x_fa0 fa24_1 rfl) fun a F => s_grd 73 F rfl rfl rfl <| F.ld m4 flat3 rfl rfl fun a F => s_grd 73 F rfl rfl rfl <| F.vl (lssF (by omega) rfl rfl) fun a F => s_grd 73 F rfl rfl rfl <| F.mv rfl fun a F => s_grd 77 F rfl rfl rfl <| F.vl (x_fa0 fa24_1 rfl) fun a F => s_grd 77 F rfl rfl rfl <| F.ld m4 flat3 rfl rfl fun a F => s_grd 77 F rfl rfl rfl <| F.mv rfl fun a F => s_grd 77 F rfl rfl rfl <| F.vl (geqF (by omega) rfl rfl) fun a F => s_grd 73 F rfl rfl rfl <| F.vl (x_pick (b := false) rfl rfl) fun a F => F.vl (x_pick (b := true) rfl rfl) fun a F => F.sg rfl fun a F => ?_
        refine s_end (K46 _ _ ?_)
        refine wp_if F rfl ?_
        refine wp_skip ?_
        exact key3 _ _ hp hkl hnd mg m4 hB hK (F.sub _ rfl)
      · have hnb : numB 1048576 k n = true := numB_iff.2 (by omega)
        have hnd := nodeE_iff.2 ⟨hp.1, hp.2, hkl, hnb, (by omega : ¬ (k = 2 ∧ (n < 0 ∨ vars ≤ n)))⟩
        refine wp_rs fun _ K47 => F.vl (x_fa0 fa24_0 rfl) fun a F => F.ld m4 flat3 rfl rfl fun a F => F.vl (eqlF (by omega) rfl rfl) fun a F => F.mv rfl fun a F => s_grdn 44 F rfl rfl (by decide) fun a F => s_grdn 44 F rfl rfl (by decide) fun a F => s_grdn 44 F rfl rfl (by decide) fun a F => s_grdn 44 F rfl rfl (by decide) fun a F => s_grdu 48 F rfl rfl (by decide) fun a F => s_grdu 48 F rfl rfl (by decide) fun a F => s_grdu 48 F rfl rfl (by decide) fun a F => s_grdn 44 F rfl rfl (by decide) fun a F => F.vl (x_pick (b := false) rfl rfl) fun a F => F.mv rfl fun a F => s_grd 54 F rfl rfl rfl <| F.vl (x_fa0 fa24_0 rfl) fun a F => s_grd 54 F rfl rfl rfl <| F.ld m4 flat3 rfl rfl fun a F => s_grd 54 F rfl rfl rfl <| F.vl (eqlF (by omega) rfl rfl) fun a F => s_grd 54 F rfl rfl rfl <| F.mv rfl fun a F => s_grdn 58 F rfl rfl (by decide) fun a F => s_grdn 58 F rfl rfl (by decide) fun a F => s_grdn 58 F rfl rfl (by decide) fun a F => s_grdn 58 F rfl rfl (by decide) fun a F => s_grdu 62 F rfl rfl (by decide) fun a F => s_grdu 62 F rfl rfl (by decide) fun a F => s_grdu 62 F rfl rfl (by decide) fun a F => s_grdn 58 F rfl rfl (by decide) fun a F => ?_
        refine s_grd 54 F rfl rfl rfl <| F.vl (x_pick (b := false) rfl rfl) fun a F => F.vl (x_pick (b := false) rfl rfl) fun a F => F.sg rfl fun a F => ?_
        refine s_end (K47 _ _ ?_)
        refine wp_if F rfl ?_
        refine wp_rs fun _ K48 => F.vl (x_fa0 fa24_0 rfl) fun a F => F.ld m4 flat3 rfl rfl fun a F => F.vl (eqlF (by omega) rfl rfl) fun a F => F.mv rfl fun a F => s_grdn 73 F rfl rfl (by decide) fun a F => s_grdn 73 F rfl rfl (by decide) fun a F => s_grdn 73 F rfl rfl (by decide) fun a F => s_grdn 73 F rfl rfl (by decide) fun a F => s_grdu 77 F rfl rfl (by decide) fun a F => s_grdu 77 F rfl rfl (by decide) fun a F => s_grdu 77 F rfl rfl (by decide) fun a F => s_grdu 77 F rfl rfl (by decide) fun a F => s_grdn 73 F rfl rfl (by decide) fun a F => F.vl (x_pick (b := false) rfl rfl) fun a F => F.sg rfl fun a F => ?_
        refine s_end (K48 _ _ ?_)
        refine wp_if F rfl ?_
        refine wp_skip ?_
        exact key3 _ _ hp hkl hnd mg m4 hB hK (F.sub _ rfl)
theorem rmay14 (x : C3) (l : Lv) (vars : Int) (w0 : World) (hL : RL w0 x l) : Calls Try.prog 146 #[lv x, .int .i64 vars] w0 fun e w' => e = .returned (.int .i64 (chk 32 1048576 vars 1 100 l).1) ∧ Below w0.heap.size w0 w' := by
 have hB := Below.refl w0.heap.size w0
 have sB := hB.size
 refine calls_fs 9 [(0, lv x), (1, .int .i64 vars)] Try.func146 rfl rfl rfl rfl rfl fun a F => ?_
 refine wp_rs fun _ K1 => ?_
 refine s_box (lc x) F (by decide) rfl rfl fun w2 b2 a eb2 m2 B3 zb2 F => ?_
 have sB3 := B3.size
 have hB := bt hB B3
 refine F.sg rfl fun a F => ?_
 refine s_end (K1 _ _ ?_)
 refine wp_rs fun _ K2 => ?_
 refine s_alloc1 F (by decide) zero3 rfl fun w4 b5 a eb5 m5 B5 zb5 F => ?_
 have sB5 := B5.size
 have hB := bt hB B5
 have m2 := m2.old B5
 refine s_put F rfl rfl flat3 m5 (by first | (simp; done) | (show _ < 3; decide)) rfl fun w6 m5 o7 => ?_
 have so7 := o7.size
 have hB := hB.trans (o7.below (by omega))
 have m2 := m2.only o7 (by omega)
 refine s_end (K2 _ _ ?_)
 refine wp_rs fun K3 hK3 => F.vl (x_ldW wide24 m2 rfl rfl) fun a F => F.mv rfl fun a F => ?_
 refine s_call (R := fun u w' => (u = .int .i64 (chk 32 1048576 vars 1 100 l).1 ∧ ((chk 32 1048576 vars 1 100 l).1 = 0 → Blk w' b5 3 [.int .i64 (100 - ((chk 32 1048576 vars 1 100 l).2 : Int))])) ∧ Ktw b5 b5 w6 w') F [_, _, _, _] E164 rfl (by decide) (rmay35 vars w0 b5 (by omega) x l hL 1 100 w6 (by decide) (by decide) (by decide) hB m5) ?_
 rintro _ w8 a ⟨⟨rfl, _⟩, k9⟩ F
 have sk9 := k9.size
 have hB := k9.under hB (by omega)
 refine F.sg rfl fun a F => ?_
 refine s_end (hK3 _ _ ?_)
 refine wp_ret (res_slot F rfl rfl ⟨rfl, hB⟩)
end Go.Proofs.Ytmkjhdiepkpdoaa

namespace Go.Proofs.Ytmkjhdiepkpdoaa
open Go.RowKit Go.Shelf
set_option linter.unusedVariables false
set_option linter.unusedSimpArgs false
/-- Its numbers are small. -/
def SL.lit : SL → Prop
 | .num n => n ≤ 1048576
 | .var _ => True
 | .succ n a => n ≤ 1048576 ∧ a.lit
 | .mx a b => a.lit ∧ b.lit
theorem RS.one1 {W : World} {s : SL} {x : C3} (h : RS W s x) : x.2.2.oneCell' = true := by
 obtain ⟨_, _, h⟩ := h.slice
 exact h.one
/-- A level of the four kinds: its kids as a list. -/
def SL.kids : SL → List SL
 | .num _ => []
 | .var _ => []
 | .succ _ a => [a]
 | .mx a b => [a, b]
theorem RS.kids {W : World} : ∀ {s : SL} {x : C3}, RS W s x → ∃ xs : List C3, Rd W x.2.2 3 xs.length (xs.flatMap lc) ∧ xs.length = s.kids.length ∧ ∀ (i : Nat) y t, xs[i]? = some y → s.kids[i]? = some t → RS W t y
 | .num _, x, h => ⟨[], by simpa using h.2.2, rfl, fun i y t h1 => by simp at h1⟩
 | .var _, x, h => ⟨[], by simpa using h.2.2, rfl, fun i y t h1 => by simp at h1⟩
 | .succ _ a, x, ⟨_, _, y, h1, h2⟩ => ⟨[y], by simpa using h1, rfl, fun i z t e1 e2 => by
  rcases i with _ | i
  ·
   simp [SL.kids] at e1 e2; subst e1 e2; exact h2
  ·
   simp at e1⟩
 | .mx a b, x, ⟨_, y, z, h1, h2, h3⟩ => ⟨[y, z], by simpa using h1, rfl, fun i u t e1 e2 => by
  rcases i with _ | _ | i
  ·
   simp [SL.kids] at e1 e2; subst e1 e2; exact h2
  ·
   simp [SL.kids] at e1 e2; subst e1 e2; exact h3
  ·
   simp at e1⟩
theorem SL.kids_le (s : SL) : s.kids.length ≤ 2 := by cases s <;> simp [SL.kids]
end Go.Proofs.Ytmkjhdiepkpdoaa

namespace Go.Proofs.Ytmkjhdiepkpdoaa
open Go.RowKit Go.Shelf
set_option linter.unusedVariables false
set_option linter.unusedSimpArgs false
def rho (vs : List Int) (i : Nat) : Int := max 0 (min (vs.getD i 0) 1099511627776)
def val : SL → (Nat → Int) → Int
 | .num n, _ => n
 | .var i, ρ => ρ i
 | .succ n a, ρ => cut (n + val a ρ)
 | .mx a b, ρ => max (val a ρ) (val b ρ)
end Go.Proofs.Ytmkjhdiepkpdoaa

namespace Go.Proofs.Ytmkjhdiepkpdoaa
open Go.RowKit Go.Shelf
set_option linter.unusedVariables false
set_option linter.unusedSimpArgs false
/-- A form (of type t) that lies in block g; its slice v lies in block o, if it has one. -/
structure FA (t base : Nat) (w : World) (g o : Nat) (v : Value) (c : Int) (ks : List Int) : Prop where
 blk : Blk w g t [.int .i64 c, v]
 own : w.ownsRow base 3 1 v ks.length (ints ks)
 at' : ∀ j, v.ownBlock = some j → j = o
 ne : v.ownBlock ≠ some g
 lo : base ≤ o ∧ base ≤ g ∧ o < w.heap.size
section
variable {t base : Nat} {w w' : World} {g o : Nat} {v : Value} {c : Int} {ks : List Int}
theorem FA.below (h : FA t base w g o v c ks) (hB : Below w.heap.size w w') : FA t base w' g o v c ks := ⟨h.blk.old hB, own_below h.own hB, h.at', h.ne, by have := h.lo; have := hB.size; omega⟩
theorem FA.only {k : Nat} (h : FA t base w g o v c ks) (hO : Only k w w') (hk : k ≠ g ∧ k ≠ o) : FA t base w' g o v c ks := ⟨h.blk.only hO (by omega), own_only h.own hO (fun e => by have := h.at' _ e; omega), h.at', h.ne, by have := h.lo; have := hO.size; omega⟩
theorem FA.k2 {a b : Nat} (h : FA t base w g o v c ks) (hK : Ktw a b w w') (hk : g ≠ a ∧ g ≠ b ∧ o ≠ a ∧ o ≠ b) : FA t base w' g o v c ks := ⟨h.blk.k2 hK (by omega), own_k2 h.own hK (fun c hc => by have := h.at' c hc; omega), h.at', h.ne, by have := h.lo; have := hK.size; omega⟩
theorem FA.form (h : FA t base w g o v c ks) : ∃ a cp, v = .slice a ks.length cp ∧ ks.length ≤ cp := by
 obtain ⟨a, cp, h1, h2, _⟩ := (Rd.own h.own).form
 exact ⟨a, cp, h1, h2⟩
theorem FA.rd (h : FA t base w g o v c ks) : Rd w v 1 ks.length (ints ks) := Rd.own h.own
theorem FA.lt (h : FA t base w g o v c ks) : g < w.heap.size := h.blk.lt
theorem FA.start (hB : Blk w g t [.int .i64 c, .slice none 0 0]) (hb : base ≤ g) : FA t base w g g (.slice none 0 0) c [] :=
 ⟨hB, World.ownsRow_nil _ _ _ _, (fun j h => by cases h), (fun h => by cases h), ⟨hb, hb, hB.lt⟩⟩
end
end Go.Proofs.Ytmkjhdiepkpdoaa

namespace Go.Proofs.Ytmkjhdiepkpdoaa
open Go.RowKit Go.Shelf
set_option linter.unusedVariables false
set_option linter.unusedSimpArgs false
end Go.Proofs.Ytmkjhdiepkpdoaa

namespace Go.Proofs.Ytmkjhdiepkpdoaa
open Go.RowKit Go.Shelf
set_option linter.unusedVariables false
set_option linter.unusedSimpArgs false
/-- x reads as s, and its memory lies in blocks of A alone. -/
def RSn (W : World) (A : Nat → Prop) : SL → C3 → Prop
 | .num n, x => x.1 = 1 ∧ x.2.1 = (n : Int) ∧ Rd W x.2.2 3 0 []
 | .var i, x => x.1 = 2 ∧ x.2.1 = (i : Int) ∧ Rd W x.2.2 3 0 []
 | .succ n a, x => x.1 = 3 ∧ x.2.1 = (n : Int) ∧ ∃ y, Rd W x.2.2 3 1 (lc y) ∧ (∀ j, x.2.2.ownBlock = some j → A j) ∧ RSn W A a y
 | .mx a b, x => x.1 = 4 ∧ ∃ y z, Rd W x.2.2 3 2 (lc y ++ lc z) ∧ (∀ j, x.2.2.ownBlock = some j → A j) ∧ RSn W A a y ∧ RSn W A b z
section
variable {W W' : World} {A B : Nat → Prop}
theorem RSn.rs : ∀ {s : SL} {x : C3}, RSn W A s x → RS W s x
 | .num _, _, h => h
 | .var _, _, h => h
 | .succ _ _, _, ⟨h1, h2, y, h3, _, h5⟩ => ⟨h1, h2, y, h3, RSn.rs h5⟩
 | .mx _ _, _, ⟨h1, y, z, h3, _, h5, h6⟩ => ⟨h1, y, z, h3, RSn.rs h5, RSn.rs h6⟩
theorem RS.n : ∀ {s : SL} {x : C3}, RS W s x → RSn W (fun k => k < W.heap.size) s x
 | .num _, _, h => h
 | .var _, _, h => h
 | .succ _ _, _, ⟨h1, h2, y, h3, h5⟩ => ⟨h1, h2, y, h3, fun j hj => h3.lt (by decide) hj, RS.n h5⟩
 | .mx _ _, _, ⟨h1, y, z, h3, h5, h6⟩ => ⟨h1, y, z, h3, fun j hj => h3.lt (by decide) hj, RS.n h5, RS.n h6⟩
theorem RSn.mono (h : ∀ k, A k → B k) : ∀ {s : SL} {x : C3}, RSn W A s x → RSn W B s x
 | .num _, _, h => h
 | .var _, _, h => h
 | .succ _ _, _, ⟨h1, h2, y, h3, h4, h5⟩ => ⟨h1, h2, y, h3, fun j hj => h j (h4 j hj), RSn.mono h h5⟩
 | .mx _ _, _, ⟨h1, y, z, h3, h4, h5, h6⟩ => ⟨h1, y, z, h3, fun j hj => h j (h4 j hj), RSn.mono h h5, RSn.mono h h6⟩
theorem RSn.valid : ∀ {s : SL} {x : C3}, RSn W A s x → RSn W (fun k => A k ∧ k < W.heap.size) s x
 | .num _, _, h => h
 | .var _, _, h => h
 | .succ _ _, _, ⟨h1, h2, y, h3, h4, h5⟩ => ⟨h1, h2, y, h3, fun j hj => ⟨h4 j hj, h3.lt (by decide) hj⟩, RSn.valid h5⟩
 | .mx _ _, _, ⟨h1, y, z, h3, h4, h5, h6⟩ => ⟨h1, y, z, h3, fun j hj => ⟨h4 j hj, h3.lt (by decide) hj⟩, RSn.valid h5, RSn.valid h6⟩
theorem rd0_any {v : Value} {cs : List Value} (h : Rd W v 3 0 cs) : Rd W' v 3 0 cs := by
 refine ⟨h.1, ?_⟩
 obtain ⟨a, c, rfl, _, h0⟩ := h.form
 exact .inl ⟨a, c, rfl, rfl, h0⟩
theorem RSn.keep (hs : W.heap.size ≤ W'.heap.size) (hk : ∀ k, A k → k < W.heap.size → W'.heap[k]? = W.heap[k]?) : ∀ {s : SL} {x : C3}, RSn W A s x → RSn W' A s x
 | .num _, _, ⟨h1, h2, h3⟩ => ⟨h1, h2, rd0_any h3⟩
 | .var _, _, ⟨h1, h2, h3⟩ => ⟨h1, h2, rd0_any h3⟩
 | .succ _ _, _, ⟨h1, h2, y, h3, h4, h5⟩ => ⟨h1, h2, y, h3.keep hs (fun b hb hl => hk b (h4 b hb) hl), h4, RSn.keep hs hk h5⟩
 | .mx _ _, _, ⟨h1, y, z, h3, h4, h5, h6⟩ => ⟨h1, y, z, h3.keep hs (fun b hb hl => hk b (h4 b hb) hl), h4, RSn.keep hs hk h5, RSn.keep hs hk h6⟩
theorem RSn.below {s : SL} {x : C3} (h : RSn W A s x) (hB : Below W.heap.size W W') : RSn W' A s x := RSn.keep hB.size (fun k _ hk => hB.block k hk) h
theorem RSn.only {s : SL} {x : C3} {c : Nat} (h : RSn W A s x) (o : Only c W W') (hc : ∀ k, A k → k ≠ c) : RSn W' A s x := RSn.keep (Nat.le_of_eq o.size.symm) (fun k ha _ => o.block k (hc k ha)) h
theorem RSn.k2 {s : SL} {x : C3} {a b : Nat} (h : RSn W A s x) (hK : Ktw a b W W') (hc : ∀ k, A k → k ≠ a ∧ k ≠ b) : RSn W' A s x := RSn.keep hK.size (fun k ha hk => hK.block k hk (hc k ha)) h
end
/-- Rows of levels. -/
def PL (W : World) (A : Nat → Prop) (zs : List C3) (ps : List SL) : Prop := zs.length = ps.length ∧ ∀ (j : Nat) z p, zs[j]? = some z → ps[j]? = some p → RSn W A p z
section
variable {W W' : World} {A B : Nat → Prop} {zs : List C3} {ps : List SL}
theorem PL.nil : PL W A [] [] := ⟨rfl, fun j z p h => by simp at h⟩
theorem PL.mono (h : PL W A zs ps) (hm : ∀ k, A k → B k) : PL W B zs ps := ⟨h.1, fun j z p h1 h2 => (h.2 j z p h1 h2).mono hm⟩
theorem PL.valid (h : PL W A zs ps) : PL W (fun k => A k ∧ k < W.heap.size) zs ps := ⟨h.1, fun j z p h1 h2 => (h.2 j z p h1 h2).valid⟩
theorem PL.keep (h : PL W A zs ps) (hs : W.heap.size ≤ W'.heap.size) (hk : ∀ k, A k → k < W.heap.size → W'.heap[k]? = W.heap[k]?) : PL W' A zs ps := ⟨h.1, fun j z p h1 h2 => RSn.keep hs hk (h.2 j z p h1 h2)⟩
theorem PL.below (h : PL W A zs ps) (hB : Below W.heap.size W W') : PL W' A zs ps := h.keep hB.size fun k _ hk => hB.block k hk
theorem PL.only {c : Nat} (h : PL W A zs ps) (o : Only c W W') (hc : ∀ k, A k → k ≠ c) : PL W' A zs ps := h.keep (Nat.le_of_eq o.size.symm) fun k ha _ => o.block k (hc k ha)
theorem PL.k2 {a b : Nat} (h : PL W A zs ps) (hK : Ktw a b W W') (hc : ∀ k, A k → k ≠ a ∧ k ≠ b) : PL W' A zs ps := h.keep hK.size fun k ha hk => hK.block k hk (hc k ha)
theorem PL.at {j : Nat} {z : C3} (h : PL W A zs ps) (hz : zs[j]? = some z) : ∃ p, ps[j]? = some p ∧ RSn W A p z := by
 have hj := (List.getElem?_eq_some_iff.1 hz).1
 have hl := h.1
 exact ⟨ps[j]'(by omega), List.getElem?_eq_getElem (by omega), h.2 j z _ hz (List.getElem?_eq_getElem (by omega))⟩
end
/-! ### A form as a level -/
def part1 (i : Nat) (k : Int) : List SL := if k < 0 then [] else if k = 0 then [.var i] else [.succ k.toNat (.var i)]
def pts (c : Int) (ks : List Int) : Nat → List SL
 | 0 => if c ≠ 0 ∨ ks = [] then [.num c.toNat] else []
 | i + 1 => pts c ks i ++ part1 i (gt ks i)
def levF (c : Int) (ks : List Int) : SL := match pts c ks ks.length with
 | [] => .num 0
 | p :: ps => ps.foldl .mx p
end Go.Proofs.Ytmkjhdiepkpdoaa

namespace Go.Proofs.Ytmkjhdiepkpdoaa
open Go.RowKit Go.Shelf
set_option linter.unusedVariables false
set_option linter.unusedSimpArgs false
theorem flat9 : Flat Try.prog 9 = true := by kernel_rfl
theorem flat25 : Flat Try.prog 25 = true := by kernel_rfl
theorem flat43 : Flat Try.prog 49 = true := by kernel_rfl
theorem wide27 : Wide Try.prog 27 8 = true := by kernel_rfl
theorem el25 : Elem Try.prog 25 27 8 120 := elem_of (by kernel_rfl)
abbrev nilS : Value := .slice none 0 0
abbrev z8 : List Value := [.int .i64 0, .int .i64 0, .string (ByteArray.mk #[]), .int .i64 0, .int .i64 0, nilS, nilS, nilS]
theorem zero43 : (Try.prog.info? 49).bind (·.zero) = some (.int .i64 0) := by kernel_rfl
theorem zero27 : (Try.prog.info? 27).bind (·.zero) = some (.agg z8.toArray) := by kernel_rfl
theorem fa27_0 : fldB Try.prog 27 0 0 = true := by kernel_rfl
theorem fa27_1 : fldB Try.prog 27 1 1 = true := by kernel_rfl
theorem fa27_2 : fldB Try.prog 27 2 2 = true := by kernel_rfl
theorem fa27_3 : fldB Try.prog 27 3 3 = true := by kernel_rfl
theorem fa27_4 : fldB Try.prog 27 4 6 = true := by kernel_rfl
theorem fa27_5 : fldB Try.prog 27 5 7 = true := by kernel_rfl
/-- A term's eight cells. -/
structure C8 where
 k : Int
 n : Int
 s : ByteArray
 l : C3
 ls : Value
 ts : Value
def tc (x : C8) : List Value := [.int .i64 x.k, .int .i64 x.n, .string x.s, .int .i64 x.l.1, .int .i64 x.l.2.1, x.l.2.2, x.ls, x.ts]
abbrev tv (x : C8) : Value := .agg (tc x).toArray
theorem fm8_get : ∀ (xs : List C8) (i j : Nat) (x : C8) (u : Value), xs[i]? = some x → (tc x)[j]? = some u → (xs.flatMap tc)[i * 8 + j]? = some u
 | [], i, j, x, u, h1, _ => by simp at h1
 | y :: xs, 0, j, x, u, h1, h2 => by
  simp at h1
  subst h1
  have hj : j < 8 := (List.getElem?_eq_some_iff.1 h2).1
  rw [List.flatMap_cons, List.getElem?_append_left (by simp [tc]; omega), Nat.zero_mul, Nat.zero_add, h2]
 | y :: xs, i + 1, j, x, u, h1, h2 => by
  rw [List.flatMap_cons, List.getElem?_append_right (by simp [tc]; omega), show (i + 1) * 8 + j - (tc y).length = i * 8 + j by simp [tc]; omega]
  exact fm8_get xs i j x u (by simpa using h1) h2
theorem own_slice (a : Option Addr) (n c m d : Nat) : (Value.slice a n c).ownBlock = (Value.slice a m d).ownBlock := by cases a <;> rfl
/-- A slice of n elements of k cells; its block, if it has elements, is one of A. -/
def Rn (W : World) (A : Nat → Prop) (v : Value) (k n : Nat) (cs : List Value) : Prop := Rd W v k n cs ∧ (0 < n → ∀ b, v.ownBlock = some b → A b)
section
variable {W W' : World} {A B : Nat → Prop} {v : Value} {k n : Nat} {cs : List Value}
theorem Rn.keep (h : Rn W A v k n cs) (hs : W.heap.size ≤ W'.heap.size) (hk : ∀ k, A k → k < W.heap.size → W'.heap[k]? = W.heap[k]?) : Rn W' A v k n cs := by
 rcases Nat.eq_zero_or_pos n with hn | hn
 ·
  refine ⟨⟨h.1.1, ?_⟩, h.2⟩
  obtain ⟨a, c, h1, h2, h3⟩ := h.1.form
  exact .inl ⟨a, c, by rw [h1, hn], hn, h3⟩
 ·
  exact ⟨h.1.keep hs (fun b hb hl => hk b (h.2 hn b hb) hl), h.2⟩
theorem Rn.mono (hAB : ∀ k, A k → B k) (h : Rn W A v k n cs) : Rn W B v k n cs := ⟨h.1, fun hn b hb => hAB b (h.2 hn b hb)⟩
theorem Rn.nil (W : World) (A : Nat → Prop) (k : Nat) : Rn W A nilS k 0 [] := ⟨Rd.nil W k, fun h => by omega⟩
theorem Rn.lt (h : Rn W A v k n cs) : Rn W (fun k => A k ∧ k < W.heap.size) v k n cs := ⟨h.1, fun hn b hb => ⟨h.2 hn b hb, h.1.lt hn hb⟩⟩
end
theorem Rd.n {W : World} {v : Value} {k m : Nat} {cs : List Value} (h : Rd W v k m cs) : Rn W (fun k => k < W.heap.size) v k m cs := ⟨h, fun hn b hb => h.lt hn hb⟩
/-- x reads as the level l, in blocks of A. -/
inductive RLn (W : World) (A : Nat → Prop) : C3 → Lv → Prop where
 | mk {k n : Int} {v : Value} {xs : List C3} {ls : List Lv} (hR : Rn W A v 3 xs.length (xs.flatMap lc)) (hl : xs.length = ls.length) (hk : ∀ (i : Nat) x l, xs[i]? = some x → ls[i]? = some l → RLn W A x l) (hbd9 : ls.length ≤ 9223372036854775807 := by first | (simp; done) | assumption | omega) : RLn W A (k, n, v) (.mk k n ls)
section
variable {W W' : World} {A B : Nat → Prop} {x : C3} {l : Lv}
theorem RLn.rl (h : RLn W A x l) : RL W x l := by
 induction h with
 | mk hR hl hk hbd9 ih => exact .mk hR.1 hl ih hbd9
theorem RL.n (h : RL W x l) : RLn W (fun k => k < W.heap.size) x l := by
 induction h with
 | mk hR hl hk hbd9 ih => exact .mk hR.n hl ih hbd9
theorem RLn.keep (hs : W.heap.size ≤ W'.heap.size) (hk : ∀ k, A k → k < W.heap.size → W'.heap[k]? = W.heap[k]?) (h : RLn W A x l) : RLn W' A x l := by
 induction h with
 | mk hR hl _ hbd9 ih => exact .mk (hR.keep hs hk) hl ih hbd9
theorem RLn.mono (hAB : ∀ k, A k → B k) (h : RLn W A x l) : RLn W B x l := by
 induction h with
 | mk hR hl _ hbd9 ih => exact .mk (hR.mono hAB) hl ih hbd9
theorem RLn.slice (h : RLn W A x l) : ∃ n cs, Rd W x.2.2 3 n cs := h.rl.slice
end
/-- A slice of levels. -/
def RVn (W : World) (A : Nat → Prop) (v : Value) (ls : List Lv) : Prop := ∃ xs : List C3, Rn W A v 3 xs.length (xs.flatMap lc) ∧ xs.length = ls.length ∧ ∀ (i : Nat) x l, xs[i]? = some x → ls[i]? = some l → RLn W A x l
section
variable {W W' : World} {A B : Nat → Prop} {v : Value} {ls : List Lv}
theorem RVn.keep (hs : W.heap.size ≤ W'.heap.size) (hk : ∀ k, A k → k < W.heap.size → W'.heap[k]? = W.heap[k]?) : RVn W A v ls → RVn W' A v ls :=
 fun ⟨xs, h1, h2, h3⟩ => ⟨xs, h1.keep hs hk, h2, fun i x l e1 e2 => (h3 i x l e1 e2).keep hs hk⟩
theorem RVn.mono (hAB : ∀ k, A k → B k) : RVn W A v ls → RVn W B v ls := fun ⟨xs, h1, h2, h3⟩ => ⟨xs, h1.mono hAB, h2, fun i x l e1 e2 => (h3 i x l e1 e2).mono hAB⟩
theorem RVn.nil (W : World) (A : Nat → Prop) : RVn W A nilS [] := ⟨[], Rn.nil W A 3, rfl, fun i x l h => by simp at h⟩
theorem RVn.form (h : RVn W A v ls) : ∃ a c, v = .slice a ls.length c ∧ ls.length ≤ c ∧ (a = none → c = 0) := by
 obtain ⟨xs, h1, h2, _⟩ := h
 rw [← h2]
 exact h1.1.form
theorem RVn.one (h : RVn W A v ls) : v.oneCell' = true := by
 obtain ⟨a, c, rfl, _⟩ := h.form
 rfl
end
/-- A term, as far as it is looked at; m: how many kids more there are (of an odd one: how many there are). -/
inductive CT where
 | var (n : Int) (m : Nat)
 | sort (l : Lv) (m : Nat)
 | cst (s : ByteArray) (ls : List Lv) (m : Nat)
 | odd (k : Int) (m : Nat)
 | two (k : Int) (a b : CT) (m : Nat)
 | lt (a b c : CT) (m : Nat)
def arT (k : Int) : Int := if k = 1 ∨ k = 2 ∨ k = 7 then 0 else if k = 3 ∨ k = 4 ∨ k = 6 then 2 else if k = 5 then 3 else -1
def CT.size : CT → Nat
 | .two _ a b _ => a.size + b.size + 1
 | .lt a b c _ => a.size + b.size + c.size + 1
 | _ => 1
def CT.dep : CT → Nat
 | .two _ a b _ => max a.dep b.dep + 1
 | .lt a b c _ => max a.dep (max b.dep c.dep) + 1
 | _ => 1
def CT.kids : CT → List CT
 | .two _ a b _ => [a, b]
 | .lt a b c _ => [a, b, c]
 | _ => []
def CT.kd : CT → Int
 | .var .. => 1
 | .sort .. => 2
 | .cst .. => 7
 | .odd k _ => k
 | .two k .. => k
 | .lt .. => 5
/-- How many kids its list has. -/
def CT.len : CT → Nat
 | .var _ m => m
 | .sort _ m => m
 | .cst _ _ m => m
 | .odd _ m => m
 | .two _ _ _ m => m + 2
 | .lt _ _ _ m => m + 3
/-- How many binders of its own its kid i stands beneath. -/
def CT.bnd : CT → Nat → Int
 | .two k _ _ _, i => if (k = 3 ∨ k = 4) ∧ i = 1 then 1 else 0
 | .lt .., i => if i = 2 then 1 else 0
 | _, _ => 0
def in64 (z : Int) : Prop := -9223372036854775808 ≤ z ∧ z < 9223372036854775808
/-- What every term's cells are. -/
def Ok (W : World) (A : Nat → Prop) (x : C8) : Prop := (∃ l, RLn W A x.l l) ∧ (∃ ls, RVn W A x.ls ls)
def RC (W : World) (A : Nat → Prop) : CT → C8 → Prop
 | .var n m, x => x.k = 1 ∧ x.n = n ∧ in64 n ∧ (∃ cs, Rn W A x.ts 8 m cs) ∧ Ok W A x
 | .sort l m, x => x.k = 2 ∧ RLn W A x.l l ∧ (∃ cs, Rn W A x.ts 8 m cs) ∧ Ok W A x
 | .cst s ls m, x => x.k = 7 ∧ x.s = s ∧ RVn W A x.ls ls ∧ (∃ cs, Rn W A x.ts 8 m cs) ∧ Ok W A x
 | .odd k m, x => x.k = k ∧ (arT k < 0 ∨ (m : Int) < arT k) ∧ (∃ cs, Rn W A x.ts 8 m cs) ∧ Ok W A x
 | .two k a b m, x => x.k = k ∧ (k = 3 ∨ k = 4 ∨ k = 6) ∧ (∃ y z cs, Rn W A x.ts 8 (m + 2) (tc y ++ (tc z ++ cs)) ∧ RC W A a y ∧ RC W A b z) ∧ Ok W A x
 | .lt a b c m, x => x.k = 5 ∧ (∃ y z u cs, Rn W A x.ts 8 (m + 3) (tc y ++ (tc z ++ (tc u ++ cs))) ∧ RC W A a y ∧ RC W A b z ∧ RC W A c u) ∧ Ok W A x
section
variable {W W' : World} {A B : Nat → Prop}
theorem Ok.keep (hs : W.heap.size ≤ W'.heap.size) (hk : ∀ k, A k → k < W.heap.size → W'.heap[k]? = W.heap[k]?) {x : C8} : Ok W A x → Ok W' A x := fun ⟨⟨l, h1⟩, ls, h2⟩ => ⟨⟨l, h1.keep hs hk⟩, ls, h2.keep hs hk⟩
theorem Ok.mono (hAB : ∀ k, A k → B k) {x : C8} : Ok W A x → Ok W B x := fun ⟨⟨l, h1⟩, ls, h2⟩ => ⟨⟨l, h1.mono hAB⟩, ls, h2.mono hAB⟩
theorem RC.keep (hs : W.heap.size ≤ W'.heap.size) (hk : ∀ k, A k → k < W.heap.size → W'.heap[k]? = W.heap[k]?) : ∀ {c : CT} {x : C8}, RC W A c x → RC W' A c x
 | .var .., x, ⟨h1, h2, h3, ⟨cs, h4⟩, h5⟩ => ⟨h1, h2, h3, ⟨cs, h4.keep hs hk⟩, h5.keep hs hk⟩
 | .sort .., x, ⟨h1, h2, ⟨cs, h4⟩, h5⟩ => ⟨h1, h2.keep hs hk, ⟨cs, h4.keep hs hk⟩, h5.keep hs hk⟩
 | .cst .., x, ⟨h1, h2, h3, ⟨cs, h4⟩, h5⟩ => ⟨h1, h2, h3.keep hs hk, ⟨cs, h4.keep hs hk⟩, h5.keep hs hk⟩
 | .odd .., x, ⟨h1, h2, ⟨cs, h4⟩, h5⟩ => ⟨h1, h2, ⟨cs, h4.keep hs hk⟩, h5.keep hs hk⟩
 | .two .., x, ⟨h1, h2, ⟨y, z, cs, h3, h4, h5⟩, h6⟩ => ⟨h1, h2, ⟨y, z, cs, h3.keep hs hk, RC.keep hs hk h4, RC.keep hs hk h5⟩, h6.keep hs hk⟩
 | .lt .., x, ⟨h1, ⟨y, z, u, cs, h3, h4, h5, h7⟩, h6⟩ => ⟨h1, ⟨y, z, u, cs, h3.keep hs hk, RC.keep hs hk h4, RC.keep hs hk h5, RC.keep hs hk h7⟩, h6.keep hs hk⟩
theorem RC.mono (hAB : ∀ k, A k → B k) : ∀ {c : CT} {x : C8}, RC W A c x → RC W B c x
 | .var .., x, ⟨h1, h2, h3, ⟨cs, h4⟩, h5⟩ => ⟨h1, h2, h3, ⟨cs, h4.mono hAB⟩, h5.mono hAB⟩
 | .sort .., x, ⟨h1, h2, ⟨cs, h4⟩, h5⟩ => ⟨h1, h2.mono hAB, ⟨cs, h4.mono hAB⟩, h5.mono hAB⟩
 | .cst .., x, ⟨h1, h2, h3, ⟨cs, h4⟩, h5⟩ => ⟨h1, h2, h3.mono hAB, ⟨cs, h4.mono hAB⟩, h5.mono hAB⟩
 | .odd .., x, ⟨h1, h2, ⟨cs, h4⟩, h5⟩ => ⟨h1, h2, ⟨cs, h4.mono hAB⟩, h5.mono hAB⟩
 | .two .., x, ⟨h1, h2, ⟨y, z, cs, h3, h4, h5⟩, h6⟩ => ⟨h1, h2, ⟨y, z, cs, h3.mono hAB, RC.mono hAB h4, RC.mono hAB h5⟩, h6.mono hAB⟩
 | .lt .., x, ⟨h1, ⟨y, z, u, cs, h3, h4, h5, h7⟩, h6⟩ => ⟨h1, ⟨y, z, u, cs, h3.mono hAB, RC.mono hAB h4, RC.mono hAB h5, RC.mono hAB h7⟩, h6.mono hAB⟩
theorem RC.ok : ∀ {c : CT} {x : C8}, RC W A c x → Ok W A x
 | .var .., x, h => h.2.2.2.2
 | .sort .., x, h => h.2.2.2
 | .cst .., x, h => h.2.2.2.2
 | .odd .., x, h => h.2.2.2
 | .two .., x, h => h.2.2.2
 | .lt .., x, h => h.2.2
theorem RC.kd : ∀ {c : CT} {x : C8}, RC W A c x → x.k = c.kd
 | .var .., x, h => h.1
 | .sort .., x, h => h.1
 | .cst .., x, h => h.1
 | .odd .., x, h => h.1
 | .two .., x, h => h.1
 | .lt .., x, h => h.1
theorem RC.ts : ∀ {c : CT} {x : C8}, RC W A c x → ∃ cs, Rn W A x.ts 8 c.len cs
 | .var .., x, h => h.2.2.2.1
 | .sort .., x, h => h.2.2.1
 | .cst .., x, h => h.2.2.2.1
 | .odd .., x, h => h.2.2.1
 | .two .., x, ⟨_, _, ⟨y, z, cs, h, _⟩, _⟩ => ⟨_, h⟩
 | .lt .., x, ⟨_, ⟨y, z, u, cs, h, _⟩, _⟩ => ⟨_, h⟩
theorem RC.below {c : CT} {x : C8} (h : RC W A c x) (hB : Below W.heap.size W W') : RC W' A c x := h.keep hB.size (fun k _ hk => hB.block k hk)
theorem RC.only {c : CT} {x : C8} {b : Nat} (h : RC W A c x) (o : Only b W W') (hb : ¬ A b) : RC W' A c x := h.keep (Nat.le_of_eq o.size.symm) (fun k ha _ => o.block k (fun e => hb (e ▸ ha)))
theorem RC.k2 {c : CT} {x : C8} {a b : Nat} (h : RC W A c x) (hK : Ktw a b W W') (ha : ¬ A a) (hb : ¬ A b) : RC W' A c x := h.keep hK.size (fun k hA hk => hK.block k hk ⟨fun e => ha (e ▸ hA), fun e => hb (e ▸ hA)⟩)
/-- Each cell of it is one. -/
theorem RC.one {c : CT} {x : C8} (h : RC W A c x) : ∀ u ∈ tc x, u.oneCell' = true := by
 obtain ⟨⟨l, hl⟩, ls, hls⟩ := h.ok
 obtain ⟨cs, ht⟩ := h.ts
 obtain ⟨n, cs', hs⟩ := hl.slice
 intro u hu
 simp only [tc, List.mem_cons, List.not_mem_nil, or_false] at hu
 rcases hu with rfl | rfl | rfl | rfl | rfl | rfl | rfl | rfl
 ·
  rfl
 ·
  rfl
 ·
  rfl
 ·
  rfl
 ·
  rfl
 ·
  exact hs.one
 ·
  exact hls.one
 ·
  exact ht.1.one
end
/-- A slice of terms. -/
def RK (W : World) (A : Nat → Prop) (v : Value) (cs : List CT) : Prop := ∃ xs : List C8, Rn W A v 8 xs.length (xs.flatMap tc) ∧ xs.length = cs.length ∧ ∀ (i : Nat) x c, xs[i]? = some x → cs[i]? = some c → RC W A c x
section
variable {W W' : World} {A B : Nat → Prop} {v : Value} {cs : List CT}
theorem RK.keep (hs : W.heap.size ≤ W'.heap.size) (hk : ∀ k, A k → k < W.heap.size → W'.heap[k]? = W.heap[k]?) : RK W A v cs → RK W' A v cs :=
 fun ⟨xs, h1, h2, h3⟩ => ⟨xs, h1.keep hs hk, h2, fun i x l e1 e2 => (h3 i x l e1 e2).keep hs hk⟩
theorem RK.mono (hAB : ∀ k, A k → B k) : RK W A v cs → RK W B v cs := fun ⟨xs, h1, h2, h3⟩ => ⟨xs, h1.mono hAB, h2, fun i x l e1 e2 => (h3 i x l e1 e2).mono hAB⟩
theorem RK.below (h : RK W A v cs) (hB : Below W.heap.size W W') : RK W' A v cs := h.keep hB.size (fun k _ hk => hB.block k hk)
theorem RK.nil (W : World) (A : Nat → Prop) : RK W A nilS [] := ⟨[], Rn.nil W A 8, rfl, fun i x l h => by simp at h⟩
theorem RK.form (h : RK W A v cs) : ∃ a c, v = .slice a cs.length c ∧ cs.length ≤ c ∧ (a = none → c = 0) := by
 obtain ⟨xs, h1, h2, _⟩ := h
 rw [← h2]
 exact h1.1.form
theorem RK.one (h : RK W A v cs) : v.oneCell' = true := by
 obtain ⟨a, c, rfl, _⟩ := h.form
 rfl
/-- An element, read. -/
theorem RK.row (h : RK W A v cs) {i : Nat} (hi : i < cs.length) :
    ∃ b off c x y, v = .slice (some ⟨b, off, none⟩) cs.length c ∧ cs[i]? = some y ∧ RC W A y x ∧ A b ∧ b < W.heap.size ∧ ∀ W' : World, W'.heap[b]? = W.heap[b]? → ∀ j u, (tc x)[j]? = some u → W'.cell? ((⟨b, off + i * 8, none⟩ : Addr).add j) = some u := by
  obtain ⟨xs, h1, h2, h3⟩ := h
  obtain ⟨b, off, c, rfl, hb⟩ := h1.1.some (by omega)
  refine ⟨b, off, c, xs[i]'(by omega), cs[i], by rw [h2], List.getElem?_eq_getElem hi, h3 i _ _ (List.getElem?_eq_getElem (by omega)) (List.getElem?_eq_getElem hi), h1.2 (by omega) b rfl, hb, fun W' hB j u hj => ?_⟩
  rw [addr_addn, Nat.add_assoc]
  exact (World.cell?_of_block (w := W) (a := ⟨b, off + (i * 8 + j), none⟩) hB).trans (h1.1.cell (fm8_get xs i j _ u (List.getElem?_eq_getElem (by omega)) hj))
/-- A term's kids. -/
theorem RC.kids : ∀ {c : CT} {x : C8}, RC W A c x → ∃ a n cap, x.ts = .slice a n cap ∧ c.kids.length ≤ n ∧ n = c.len ∧ c.kids.length ≤ cap ∧ RK W A (.slice a c.kids.length cap) c.kids
 | .var n m, x, ⟨_, _, _, ⟨cs, h⟩, _⟩ => by
  obtain ⟨a, c, h1, h2, h3⟩ := h.1.form
  exact ⟨a, m, c, h1, Nat.zero_le _, rfl, Nat.zero_le _, [], ⟨⟨by simp, .inl ⟨_, _, rfl, rfl, h3⟩⟩, fun h => by simp at h⟩, rfl, fun i x l h => by simp at h⟩
 | .sort n m, x, ⟨_, _, ⟨cs, h⟩, _⟩ => by
  obtain ⟨a, c, h1, h2, h3⟩ := h.1.form
  exact ⟨a, m, c, h1, Nat.zero_le _, rfl, Nat.zero_le _, [], ⟨⟨by simp, .inl ⟨_, _, rfl, rfl, h3⟩⟩, fun h => by simp at h⟩, rfl, fun i x l h => by simp at h⟩
 | .cst _ n m, x, ⟨_, _, _, ⟨cs, h⟩, _⟩ => by
  obtain ⟨a, c, h1, h2, h3⟩ := h.1.form
  exact ⟨a, m, c, h1, Nat.zero_le _, rfl, Nat.zero_le _, [], ⟨⟨by simp, .inl ⟨_, _, rfl, rfl, h3⟩⟩, fun h => by simp at h⟩, rfl, fun i x l h => by simp at h⟩
 | .odd n m, x, ⟨_, _, ⟨cs, h⟩, _⟩ => by
  obtain ⟨a, c, h1, h2, h3⟩ := h.1.form
  exact ⟨a, m, c, h1, Nat.zero_le _, rfl, Nat.zero_le _, [], ⟨⟨by simp, .inl ⟨_, _, rfl, rfl, h3⟩⟩, fun h => by simp at h⟩, rfl, fun i x l h => by simp at h⟩
 | .two k p q m, x, ⟨_, _, ⟨y, z, cs, h, hp, hq⟩, _⟩ => by
  obtain ⟨a, c, h1, h2, h3⟩ := h.1.form
  have hu := (h1 ▸ h.1).upto 2 (by omega)
  rw [show (tc y ++ (tc z ++ cs)).take (2 * 8) = [y, z].flatMap tc by simp [tc]] at hu
  refine ⟨a, m + 2, c, h1, by simp [CT.kids], rfl, by simp [CT.kids]; omega, [y, z], ⟨hu, fun _ b hb => h.2 (by omega) b (by rw [h1, own_slice _ _ _ _ c]; exact hb)⟩, rfl, fun i x l e1 e2 => ?_⟩
  rcases i with _ | _ | i
  ·
   simp [CT.kids] at e1 e2; subst e1 e2; exact hp
  ·
   simp [CT.kids] at e1 e2; subst e1 e2; exact hq
  ·
   simp at e1
 | .lt p q r m, x, ⟨_, ⟨y, z, u, cs, h, hp, hq, hr⟩, _⟩ => by
  obtain ⟨a, c, h1, h2, h3⟩ := h.1.form
  have hu := (h1 ▸ h.1).upto 3 (by omega)
  rw [show (tc y ++ (tc z ++ (tc u ++ cs))).take (3 * 8) = [y, z, u].flatMap tc by simp [tc]] at hu
  refine ⟨a, m + 3, c, h1, by simp [CT.kids], rfl, by simp [CT.kids]; omega, [y, z, u], ⟨hu, fun _ b hb => h.2 (by omega) b (by rw [h1, own_slice _ _ _ _ c]; exact hb)⟩, rfl, fun i x l e1 e2 => ?_⟩
  rcases i with _ | _ | _ | i
  ·
   simp [CT.kids] at e1 e2; subst e1 e2; exact hp
  ·
   simp [CT.kids] at e1 e2; subst e1 e2; exact hq
  ·
   simp [CT.kids] at e1 e2; subst e1 e2; exact hr
  ·
   simp at e1
end
theorem CT.kids_arT {W : World} {A : Nat → Prop} : ∀ {c : CT} {x : C8}, RC W A c x → (c.kids.length : Int) = max 0 (arT c.kd) ∧ arT c.kd ≤ c.len ∨ (c.kids.length = 0 ∧ (arT c.kd < 0 ∨ (c.len : Int) < arT c.kd))
 | .var n m, x, _ => .inl (by simp [CT.kids, CT.kd, CT.len, arT])
 | .sort n m, x, _ => .inl (by simp [CT.kids, CT.kd, CT.len, arT])
 | .cst _ n m, x, _ => .inl (by simp [CT.kids, CT.kd, CT.len, arT])
 | .odd k m, x, ⟨_, h, _⟩ => .inr ⟨rfl, h⟩
 | .two k p q m, x, ⟨_, h, _⟩ => .inl (by rcases h with rfl | rfl | rfl <;> simp [CT.kids, CT.kd, CT.len, arT] <;> omega)
 | .lt p q r m, x, _ => .inl (by simp [CT.kids, CT.kd, CT.len, arT]; omega)
theorem CT.kid_size : ∀ {c k : CT} {i : Nat}, c.kids[i]? = some k → k.size < c.size ∧ k.dep < c.dep
 | .two _ a b _, k, i, h => by
  rcases i with _ | _ | i
  ·
   simp [CT.kids] at h; subst h; simp only [CT.size, CT.dep]; omega
  ·
   simp [CT.kids] at h; subst h; simp only [CT.size, CT.dep]; omega
  ·
   simp [CT.kids] at h
 | .lt a b c _, k, i, h => by
  rcases i with _ | _ | _ | i
  ·
   simp [CT.kids] at h; subst h; simp only [CT.size, CT.dep]; omega
  ·
   simp [CT.kids] at h; subst h; simp only [CT.size, CT.dep]; omega
  ·
   simp [CT.kids] at h; subst h; simp only [CT.size, CT.dep]; omega
  ·
   simp [CT.kids] at h
 | .var .., k, i, h => by simp [CT.kids] at h
 | .sort .., k, i, h => by simp [CT.kids] at h
 | .cst .., k, i, h => by simp [CT.kids] at h
 | .odd .., k, i, h => by simp [CT.kids] at h
theorem CT.kids_le (c : CT) : c.kids.length ≤ 3 := by cases c <;> simp [CT.kids]
theorem CT.size_pos (c : CT) : 0 < c.size := by cases c <;> simp [CT.size]
theorem CT.dep_pos (c : CT) : 0 < c.dep := by cases c <;> simp [CT.dep]
theorem CT.dep_le : ∀ c : CT, c.dep ≤ c.size
 | .two _ a b _ => by have := a.dep_le; have := b.dep_le; simp only [CT.dep, CT.size]; omega
 | .lt a b c _ => by have := a.dep_le; have := b.dep_le; have := c.dep_le; simp only [CT.dep, CT.size]; omega
 | .var .. => Nat.le_refl _
 | .sort .. => Nat.le_refl _
 | .cst .. => Nat.le_refl _
 | .odd .. => Nat.le_refl _
end Go.Proofs.Ytmkjhdiepkpdoaa

namespace Go.Proofs.Ytmkjhdiepkpdoaa
open Go.RowKit Go.Shelf
set_option linter.unusedVariables false
set_option linter.unusedSimpArgs false
abbrev emptyB : ByteArray := ByteArray.mk #[]
theorem b27_05 (k : Int) (a : Option Addr) (m c : Nat) (w : World) : (Instr.build 27 [(0, Value.int .i64 k), (5, Value.slice a m c)].toArray).run Try.prog w = .ok (tv ⟨k, 0, emptyB, (0, 0, nilS), nilS, .slice a m c⟩) w := run_build w 27 _ _ (by kernel_rfl)
theorem b27_03 (k p q : Int) (a : Option Addr) (m c : Nat) (w : World) : (Instr.build 27 [(0, Value.int .i64 k), (3, lv (p, q, .slice a m c))].toArray).run Try.prog w = .ok (tv ⟨k, 0, emptyB, (p, q, .slice a m c), nilS, nilS⟩) w := run_build w 27 _ _ (by kernel_rfl)
theorem b27_024 (k : Int) (s : ByteArray) (a : Option Addr) (m c : Nat) (w : World) : (Instr.build 27 [(0, Value.int .i64 k), (2, Value.string s), (4, Value.slice a m c)].toArray).run Try.prog w = .ok (tv ⟨k, 0, s, (0, 0, nilS), .slice a m c, nilS⟩) w := run_build w 27 _ _ (by kernel_rfl)
theorem one_tc0 (k n : Int) (s : ByteArray) (ts : Value) (h : ts.oneCell' = true) : ∀ u ∈ tc ⟨k, n, s, (0, 0, nilS), nilS, ts⟩, u.oneCell' = true := by
 intro u hu
 simp only [tc, List.mem_cons, List.not_mem_nil, or_false] at hu
 rcases hu with rfl | rfl | rfl | rfl | rfl | rfl | rfl | rfl <;> first | rfl | exact h
end Go.Proofs.Ytmkjhdiepkpdoaa

namespace Go.Proofs.Ytmkjhdiepkpdoaa
set_option maxRecDepth 100000
set_option maxHeartbeats 1600000
open Go.RowKit Go.Shelf
set_option linter.unusedVariables false
set_option linter.unusedSimpArgs false
theorem arT_rng (k : Int) : -1 ≤ arT k ∧ arT k ≤ 3 := by
 unfold arT
 split
 ·
  omega
 ·
  split
  ·
   omega
  ·
   split <;> omega
/-- Is it the variable that is d? -/
def CT.isV : CT → Int → Bool
 | .var n _, d => decide (n = d)
 | _, _ => false
theorem arity109 (k : Int) (w0 : World) : Calls Try.prog 122 #[.int .i64 k] w0 fun e w' => e = .returned (.tuple #[.int .i64 (max 0 (arT k)), .bool (decide (0 ≤ arT k))]) ∧ w' = w0 := by
 refine calls_fs 15 [(0, .int .i64 k)] Try.func122 rfl rfl rfl rfl rfl fun a F => ?_
 rcases (show k = 1 ∨ k = 2 ∨ k = 7 ∨ k = 3 ∨ k = 4 ∨ k = 6 ∨ k = 5 ∨ (k ≠ 1 ∧ k ≠ 2 ∧ k ≠ 7 ∧ k ≠ 3 ∧ k ≠ 4 ∧ k ≠ 6 ∧ k ≠ 5) by omega) with hk | hk | hk | hk | hk | hk | hk | hk
 ·
  skip
  refine wp_rs fun _ K2 => F.sg rfl fun a F => F.sg rfl fun a F => ?_
  refine s_end (K2 _ _ ?_)
  refine wp_seq_k fun _ K3 => ?_
  refine wp_rs fun _ K4 => F.mv rfl fun a F => ?_
  refine s_end (K4 _ _ ?_)
  refine wp_block ?_
  refine wp_seq_k fun _ K5 => ?_
  refine wp_rs fun _ K6 => F.vl (eqlT (by omega) rfl rfl) fun a F => F.sg rfl fun a F => ?_
  refine s_end (K6 _ _ ?_)
  refine wp_if F rfl ?_
  refine wp_skip (K5 _ _ ?_)
  refine wp_if F rfl ?_
  refine wp_rs fun _ K7 => F.sg rfl fun a F => F.sg rfl fun a F => ?_
  refine s_end (K7 _ _ ?_)
  refine wp_ret (inb_ret (then_ret (res_two F rfl rfl rfl ⟨by first | (rw [show arT k = 0 by simp [arT, hk]]; rfl) | (rw [show arT k = 2 by simp [arT, hk]]; rfl) | (rw [show arT k = 3 by simp [arT, hk]]; rfl) | (rw [show arT k = -1 by simp [arT, hk]]; rfl), rfl⟩)))
 ·
  skip
  refine wp_rs fun _ K8 => F.sg rfl fun a F => F.sg rfl fun a F => ?_
  refine s_end (K8 _ _ ?_)
  refine wp_seq_k fun _ K9 => ?_
  refine wp_rs fun _ K10 => F.mv rfl fun a F => ?_
  refine s_end (K10 _ _ ?_)
  refine wp_block ?_
  refine wp_seq_k fun _ K11 => ?_
  refine wp_rs fun _ K12 => F.vl (eqlF (by omega) rfl rfl) fun a F => F.sg rfl fun a F => ?_
  refine s_end (K12 _ _ ?_)
  refine wp_if F rfl ?_
  refine wp_rs fun _ K13 => F.vl (eqlT (by omega) rfl rfl) fun a F => F.sg rfl fun a F => ?_
  refine s_end (K13 _ _ ?_)
  refine wp_if F rfl ?_
  refine wp_skip (K11 _ _ ?_)
  refine wp_if F rfl ?_
  refine wp_rs fun _ K14 => F.sg rfl fun a F => F.sg rfl fun a F => ?_
  refine s_end (K14 _ _ ?_)
  refine wp_ret (inb_ret (then_ret (res_two F rfl rfl rfl ⟨by first | (rw [show arT k = 0 by simp [arT, hk]]; rfl) | (rw [show arT k = 2 by simp [arT, hk]]; rfl) | (rw [show arT k = 3 by simp [arT, hk]]; rfl) | (rw [show arT k = -1 by simp [arT, hk]]; rfl), rfl⟩)))
 ·
  skip
  refine wp_rs fun _ K15 => F.sg rfl fun a F => F.sg rfl fun a F => ?_
  refine s_end (K15 _ _ ?_)
  refine wp_seq_k fun _ K16 => ?_
  refine wp_rs fun _ K17 => F.mv rfl fun a F => ?_
  refine s_end (K17 _ _ ?_)
  refine wp_block ?_
  refine wp_seq_k fun _ K18 => ?_
  refine wp_rs fun _ K19 => F.vl (eqlF (by omega) rfl rfl) fun a F => F.sg rfl fun a F => ?_
  refine s_end (K19 _ _ ?_)
  refine wp_if F rfl ?_
  refine wp_rs fun _ K20 => F.vl (eqlF (by omega) rfl rfl) fun a F => F.sg rfl fun a F => ?_
  refine s_end (K20 _ _ ?_)
  refine wp_if F rfl ?_
  refine wp_region_lit ?_
  refine F.vl (eqlT (by omega) rfl rfl) fun a F => F.sg rfl fun a F => ?_
  refine s_end (K18 _ _ ?_)
  refine wp_if F rfl ?_
  refine wp_rs fun _ K21 => F.sg rfl fun a F => F.sg rfl fun a F => ?_
  refine s_end (K21 _ _ ?_)
  refine wp_ret (inb_ret (then_ret (res_two F rfl rfl rfl ⟨by first | (rw [show arT k = 0 by simp [arT, hk]]; rfl) | (rw [show arT k = 2 by simp [arT, hk]]; rfl) | (rw [show arT k = 3 by simp [arT, hk]]; rfl) | (rw [show arT k = -1 by simp [arT, hk]]; rfl), rfl⟩)))
 ·
  skip
  refine wp_rs fun _ K22 => F.sg rfl fun a F => F.sg rfl fun a F => ?_
  refine s_end (K22 _ _ ?_)
  refine wp_seq_k fun _ K23 => ?_
  refine wp_rs fun _ K24 => F.mv rfl fun a F => ?_
  refine s_end (K24 _ _ ?_)
  refine wp_block ?_
  refine wp_seq_k fun _ K25 => ?_
  refine wp_rs fun _ K26 => F.vl (eqlF (by omega) rfl rfl) fun a F => F.sg rfl fun a F => ?_
  refine s_end (K26 _ _ ?_)
  refine wp_if F rfl ?_
  refine wp_rs fun _ K27 => F.vl (eqlF (by omega) rfl rfl) fun a F => F.sg rfl fun a F => ?_
  refine s_end (K27 _ _ ?_)
  refine wp_if F rfl ?_
  refine wp_region_lit ?_
  refine F.vl (eqlF (by omega) rfl rfl) fun a F => F.sg rfl fun a F => ?_
  refine s_end (K25 _ _ ?_)
  refine wp_if F rfl ?_
  refine wp_seq_k fun _ K28 => ?_
  refine wp_rs fun _ K29 => F.vl (eqlT (by omega) rfl rfl) fun a F => F.sg rfl fun a F => ?_
  refine s_end (K29 _ _ ?_)
  refine wp_if F rfl ?_
  refine wp_skip (K28 _ _ ?_)
  refine wp_if F rfl ?_
  refine wp_rs fun _ K30 => F.sg rfl fun a F => F.sg rfl fun a F => ?_
  refine s_end (K30 _ _ ?_)
  refine wp_ret (inb_ret (then_ret (res_two F rfl rfl rfl ⟨by first | (rw [show arT k = 0 by simp [arT, hk]]; rfl) | (rw [show arT k = 2 by simp [arT, hk]]; rfl) | (rw [show arT k = 3 by simp [arT, hk]]; rfl) | (rw [show arT k = -1 by simp [arT, hk]]; rfl), rfl⟩)))
 ·
  skip
  refine wp_rs fun _ K31 => F.sg rfl fun a F => F.sg rfl fun a F => ?_
  refine s_end (K31 _ _ ?_)
  refine wp_seq_k fun _ K32 => ?_
  refine wp_rs fun _ K33 => F.mv rfl fun a F => ?_
  refine s_end (K33 _ _ ?_)
  refine wp_block ?_
  refine wp_seq_k fun _ K34 => ?_
  refine wp_rs fun _ K35 => F.vl (eqlF (by omega) rfl rfl) fun a F => F.sg rfl fun a F => ?_
  refine s_end (K35 _ _ ?_)
  refine wp_if F rfl ?_
  refine wp_rs fun _ K36 => F.vl (eqlF (by omega) rfl rfl) fun a F => F.sg rfl fun a F => ?_
  refine s_end (K36 _ _ ?_)
  refine wp_if F rfl ?_
  refine wp_region_lit ?_
  refine F.vl (eqlF (by omega) rfl rfl) fun a F => F.sg rfl fun a F => ?_
  refine s_end (K34 _ _ ?_)
  refine wp_if F rfl ?_
  refine wp_seq_k fun _ K37 => ?_
  refine wp_rs fun _ K38 => F.vl (eqlF (by omega) rfl rfl) fun a F => F.sg rfl fun a F => ?_
  refine s_end (K38 _ _ ?_)
  refine wp_if F rfl ?_
  refine wp_rs fun _ K39 => F.vl (eqlT (by omega) rfl rfl) fun a F => F.sg rfl fun a F => ?_
  refine s_end (K39 _ _ ?_)
  refine wp_if F rfl ?_
  refine wp_skip (K37 _ _ ?_)
  refine wp_if F rfl ?_
  refine wp_rs fun _ K40 => F.sg rfl fun a F => F.sg rfl fun a F => ?_
  refine s_end (K40 _ _ ?_)
  refine wp_ret (inb_ret (then_ret (res_two F rfl rfl rfl ⟨by first | (rw [show arT k = 0 by simp [arT, hk]]; rfl) | (rw [show arT k = 2 by simp [arT, hk]]; rfl) | (rw [show arT k = 3 by simp [arT, hk]]; rfl) | (rw [show arT k = -1 by simp [arT, hk]]; rfl), rfl⟩)))
 ·
  skip
  refine wp_rs fun _ K41 => F.sg rfl fun a F => F.sg rfl fun a F => ?_
  refine s_end (K41 _ _ ?_)
  refine wp_seq_k fun _ K42 => ?_
  refine wp_rs fun _ K43 => F.mv rfl fun a F => ?_
  refine s_end (K43 _ _ ?_)
  refine wp_block ?_
  refine wp_seq_k fun _ K44 => ?_
  refine wp_rs fun _ K45 => F.vl (eqlF (by omega) rfl rfl) fun a F => F.sg rfl fun a F => ?_
  refine s_end (K45 _ _ ?_)
  refine wp_if F rfl ?_
  refine wp_rs fun _ K46 => F.vl (eqlF (by omega) rfl rfl) fun a F => F.sg rfl fun a F => ?_
  refine s_end (K46 _ _ ?_)
  refine wp_if F rfl ?_
  refine wp_region_lit ?_
  refine F.vl (eqlF (by omega) rfl rfl) fun a F => F.sg rfl fun a F => ?_
  refine s_end (K44 _ _ ?_)
  refine wp_if F rfl ?_
  refine wp_seq_k fun _ K47 => ?_
  refine wp_rs fun _ K48 => F.vl (eqlF (by omega) rfl rfl) fun a F => F.sg rfl fun a F => ?_
  refine s_end (K48 _ _ ?_)
  refine wp_if F rfl ?_
  refine wp_rs fun _ K49 => F.vl (eqlF (by omega) rfl rfl) fun a F => F.sg rfl fun a F => ?_
  refine s_end (K49 _ _ ?_)
  refine wp_if F rfl ?_
  refine wp_region_lit ?_
  refine F.vl (eqlT (by omega) rfl rfl) fun a F => F.sg rfl fun a F => ?_
  refine s_end (K47 _ _ ?_)
  refine wp_if F rfl ?_
  refine wp_rs fun _ K50 => F.sg rfl fun a F => F.sg rfl fun a F => ?_
  refine s_end (K50 _ _ ?_)
  refine wp_ret (inb_ret (then_ret (res_two F rfl rfl rfl ⟨by first | (rw [show arT k = 0 by simp [arT, hk]]; rfl) | (rw [show arT k = 2 by simp [arT, hk]]; rfl) | (rw [show arT k = 3 by simp [arT, hk]]; rfl) | (rw [show arT k = -1 by simp [arT, hk]]; rfl), rfl⟩)))
 ·
  skip
  refine wp_rs fun _ K51 => F.sg rfl fun a F => F.sg rfl fun a F => ?_
  refine s_end (K51 _ _ ?_)
  refine wp_seq_k fun _ K52 => ?_
  refine wp_rs fun _ K53 => F.mv rfl fun a F => ?_
  refine s_end (K53 _ _ ?_)
  refine wp_block ?_
  refine wp_seq_k fun _ K54 => ?_
  refine wp_rs fun _ K55 => F.vl (eqlF (by omega) rfl rfl) fun a F => F.sg rfl fun a F => ?_
  refine s_end (K55 _ _ ?_)
  refine wp_if F rfl ?_
  refine wp_rs fun _ K56 => F.vl (eqlF (by omega) rfl rfl) fun a F => F.sg rfl fun a F => ?_
  refine s_end (K56 _ _ ?_)
  refine wp_if F rfl ?_
  refine wp_region_lit ?_
  refine F.vl (eqlF (by omega) rfl rfl) fun a F => F.sg rfl fun a F => ?_
  refine s_end (K54 _ _ ?_)
  refine wp_if F rfl ?_
  refine wp_seq_k fun _ K57 => ?_
  refine wp_rs fun _ K58 => F.vl (eqlF (by omega) rfl rfl) fun a F => F.sg rfl fun a F => ?_
  refine s_end (K58 _ _ ?_)
  refine wp_if F rfl ?_
  refine wp_rs fun _ K59 => F.vl (eqlF (by omega) rfl rfl) fun a F => F.sg rfl fun a F => ?_
  refine s_end (K59 _ _ ?_)
  refine wp_if F rfl ?_
  refine wp_region_lit ?_
  refine F.vl (eqlF (by omega) rfl rfl) fun a F => F.sg rfl fun a F => ?_
  refine s_end (K57 _ _ ?_)
  refine wp_if F rfl ?_
  refine wp_rs fun _ K60 => F.vl (eqlT (by omega) rfl rfl) fun a F => F.sg rfl fun a F => ?_
  refine s_end (K60 _ _ ?_)
  refine wp_if F rfl ?_
  refine wp_rs fun _ K61 => F.sg rfl fun a F => F.sg rfl fun a F => ?_
  refine s_end (K61 _ _ ?_)
  refine wp_ret (inb_ret (then_ret (res_two F rfl rfl rfl ⟨by first | (rw [show arT k = 0 by simp [arT, hk]]; rfl) | (rw [show arT k = 2 by simp [arT, hk]]; rfl) | (rw [show arT k = 3 by simp [arT, hk]]; rfl) | (rw [show arT k = -1 by simp [arT, hk]]; rfl), rfl⟩)))
 ·
  skip
  refine wp_rs fun _ K62 => F.sg rfl fun a F => F.sg rfl fun a F => ?_
  refine s_end (K62 _ _ ?_)
  refine wp_seq_k fun _ K63 => ?_
  refine wp_rs fun _ K64 => F.mv rfl fun a F => ?_
  refine s_end (K64 _ _ ?_)
  refine wp_block ?_
  refine wp_seq_k fun _ K65 => ?_
  refine wp_rs fun _ K66 => F.vl (eqlF (by omega) rfl rfl) fun a F => F.sg rfl fun a F => ?_
  refine s_end (K66 _ _ ?_)
  refine wp_if F rfl ?_
  refine wp_rs fun _ K67 => F.vl (eqlF (by omega) rfl rfl) fun a F => F.sg rfl fun a F => ?_
  refine s_end (K67 _ _ ?_)
  refine wp_if F rfl ?_
  refine wp_region_lit ?_
  refine F.vl (eqlF (by omega) rfl rfl) fun a F => F.sg rfl fun a F => ?_
  refine s_end (K65 _ _ ?_)
  refine wp_if F rfl ?_
  refine wp_seq_k fun _ K68 => ?_
  refine wp_rs fun _ K69 => F.vl (eqlF (by omega) rfl rfl) fun a F => F.sg rfl fun a F => ?_
  refine s_end (K69 _ _ ?_)
  refine wp_if F rfl ?_
  refine wp_rs fun _ K70 => F.vl (eqlF (by omega) rfl rfl) fun a F => F.sg rfl fun a F => ?_
  refine s_end (K70 _ _ ?_)
  refine wp_if F rfl ?_
  refine wp_region_lit ?_
  refine F.vl (eqlF (by omega) rfl rfl) fun a F => F.sg rfl fun a F => ?_
  refine s_end (K68 _ _ ?_)
  refine wp_if F rfl ?_
  refine wp_rs fun _ K71 => F.vl (eqlF (by omega) rfl rfl) fun a F => F.sg rfl fun a F => ?_
  refine s_end (K71 _ _ ?_)
  refine wp_if F rfl ?_
  refine wp_skip (K63 _ _ ?_)
  refine wp_rs fun _ K72 => F.sg rfl fun a F => F.sg rfl fun a F => ?_
  refine s_end (K72 _ _ ?_)
  refine wp_ret (res_two F rfl rfl rfl ⟨by first | (rw [show arT k = 0 by simp [arT, hk]]; rfl) | (rw [show arT k = 2 by simp [arT, hk]]; rfl) | (rw [show arT k = 3 by simp [arT, hk]]; rfl) | (rw [show arT k = -1 by simp [arT, hk]]; rfl), rfl⟩)
theorem kids54 (k : Int) (w0 : World) : Calls Try.prog 82 #[.int .i64 k] w0 fun e w' => e = .returned (.int .i64 (arT k)) ∧ w' = w0 := by
 refine calls_fs 14 [(0, .int .i64 k)] Try.func82 rfl rfl rfl rfl rfl fun a F => ?_
 rcases (show k = 1 ∨ k = 2 ∨ k = 7 ∨ k = 3 ∨ k = 4 ∨ k = 6 ∨ k = 5 ∨ (k ≠ 1 ∧ k ≠ 2 ∧ k ≠ 7 ∧ k ≠ 3 ∧ k ≠ 4 ∧ k ≠ 6 ∧ k ≠ 5) by omega) with hk | hk | hk | hk | hk | hk | hk | hk
 ·
  skip
  refine wp_rs fun _ K2 => F.sg rfl fun a F => ?_
  refine s_end (K2 _ _ ?_)
  refine wp_seq_k fun _ K3 => ?_
  refine wp_rs fun _ K4 => F.mv rfl fun a F => ?_
  refine s_end (K4 _ _ ?_)
  refine wp_block ?_
  refine wp_seq_k fun _ K5 => ?_
  refine wp_rs fun _ K6 => F.vl (eqlT (by omega) rfl rfl) fun a F => F.sg rfl fun a F => ?_
  refine s_end (K6 _ _ ?_)
  refine wp_if F rfl ?_
  refine wp_skip (K5 _ _ ?_)
  refine wp_if F rfl ?_
  refine wp_rs fun _ K7 => F.sg rfl fun a F => ?_
  refine s_end (K7 _ _ ?_)
  refine wp_ret (inb_ret (then_ret (res_slot F rfl rfl ⟨by simp [arT, hk], rfl⟩)))
 ·
  skip
  refine wp_rs fun _ K8 => F.sg rfl fun a F => ?_
  refine s_end (K8 _ _ ?_)
  refine wp_seq_k fun _ K9 => ?_
  refine wp_rs fun _ K10 => F.mv rfl fun a F => ?_
  refine s_end (K10 _ _ ?_)
  refine wp_block ?_
  refine wp_seq_k fun _ K11 => ?_
  refine wp_rs fun _ K12 => F.vl (eqlF (by omega) rfl rfl) fun a F => F.sg rfl fun a F => ?_
  refine s_end (K12 _ _ ?_)
  refine wp_if F rfl ?_
  refine wp_rs fun _ K13 => F.vl (eqlT (by omega) rfl rfl) fun a F => F.sg rfl fun a F => ?_
  refine s_end (K13 _ _ ?_)
  refine wp_if F rfl ?_
  refine wp_skip (K11 _ _ ?_)
  refine wp_if F rfl ?_
  refine wp_rs fun _ K14 => F.sg rfl fun a F => ?_
  refine s_end (K14 _ _ ?_)
  refine wp_ret (inb_ret (then_ret (res_slot F rfl rfl ⟨by simp [arT, hk], rfl⟩)))
 ·
  skip
  refine wp_rs fun _ K15 => F.sg rfl fun a F => ?_
  refine s_end (K15 _ _ ?_)
  refine wp_seq_k fun _ K16 => ?_
  refine wp_rs fun _ K17 => F.mv rfl fun a F => ?_
  refine s_end (K17 _ _ ?_)
  refine wp_block ?_
  refine wp_seq_k fun _ K18 => ?_
  refine wp_rs fun _ K19 => F.vl (eqlF (by omega) rfl rfl) fun a F => F.sg rfl fun a F => ?_
  refine s_end (K19 _ _ ?_)
  refine wp_if F rfl ?_
  refine wp_rs fun _ K20 => F.vl (eqlF (by omega) rfl rfl) fun a F => F.sg rfl fun a F => ?_
  refine s_end (K20 _ _ ?_)
  refine wp_if F rfl ?_
  refine wp_region_lit ?_
  refine F.vl (eqlT (by omega) rfl rfl) fun a F => F.sg rfl fun a F => ?_
  refine s_end (K18 _ _ ?_)
  refine wp_if F rfl ?_
  refine wp_rs fun _ K21 => F.sg rfl fun a F => ?_
  refine s_end (K21 _ _ ?_)
  refine wp_ret (inb_ret (then_ret (res_slot F rfl rfl ⟨by simp [arT, hk], rfl⟩)))
 ·
  skip
  refine wp_rs fun _ K22 => F.sg rfl fun a F => ?_
  refine s_end (K22 _ _ ?_)
  refine wp_seq_k fun _ K23 => ?_
  refine wp_rs fun _ K24 => F.mv rfl fun a F => ?_
  refine s_end (K24 _ _ ?_)
  refine wp_block ?_
  refine wp_seq_k fun _ K25 => ?_
  refine wp_rs fun _ K26 => F.vl (eqlF (by omega) rfl rfl) fun a F => F.sg rfl fun a F => ?_
  refine s_end (K26 _ _ ?_)
  refine wp_if F rfl ?_
  refine wp_rs fun _ K27 => F.vl (eqlF (by omega) rfl rfl) fun a F => F.sg rfl fun a F => ?_
  refine s_end (K27 _ _ ?_)
  refine wp_if F rfl ?_
  refine wp_region_lit ?_
  refine F.vl (eqlF (by omega) rfl rfl) fun a F => F.sg rfl fun a F => ?_
  refine s_end (K25 _ _ ?_)
  refine wp_if F rfl ?_
  refine wp_seq_k fun _ K28 => ?_
  refine wp_rs fun _ K29 => F.vl (eqlT (by omega) rfl rfl) fun a F => F.sg rfl fun a F => ?_
  refine s_end (K29 _ _ ?_)
  refine wp_if F rfl ?_
  refine wp_skip (K28 _ _ ?_)
  refine wp_if F rfl ?_
  refine wp_rs fun _ K30 => F.sg rfl fun a F => ?_
  refine s_end (K30 _ _ ?_)
  refine wp_ret (inb_ret (then_ret (res_slot F rfl rfl ⟨by simp [arT, hk], rfl⟩)))
 ·
  skip
  refine wp_rs fun _ K31 => F.sg rfl fun a F => ?_
  refine s_end (K31 _ _ ?_)
  refine wp_seq_k fun _ K32 => ?_
  refine wp_rs fun _ K33 => F.mv rfl fun a F => ?_
  refine s_end (K33 _ _ ?_)
  refine wp_block ?_
  refine wp_seq_k fun _ K34 => ?_
  refine wp_rs fun _ K35 => F.vl (eqlF (by omega) rfl rfl) fun a F => F.sg rfl fun a F => ?_
  refine s_end (K35 _ _ ?_)
  refine wp_if F rfl ?_
  refine wp_rs fun _ K36 => F.vl (eqlF (by omega) rfl rfl) fun a F => F.sg rfl fun a F => ?_
  refine s_end (K36 _ _ ?_)
  refine wp_if F rfl ?_
  refine wp_region_lit ?_
  refine F.vl (eqlF (by omega) rfl rfl) fun a F => F.sg rfl fun a F => ?_
  refine s_end (K34 _ _ ?_)
  refine wp_if F rfl ?_
  refine wp_seq_k fun _ K37 => ?_
  refine wp_rs fun _ K38 => F.vl (eqlF (by omega) rfl rfl) fun a F => F.sg rfl fun a F => ?_
  refine s_end (K38 _ _ ?_)
  refine wp_if F rfl ?_
  refine wp_rs fun _ K39 => F.vl (eqlT (by omega) rfl rfl) fun a F => F.sg rfl fun a F => ?_
  refine s_end (K39 _ _ ?_)
  refine wp_if F rfl ?_
  refine wp_skip (K37 _ _ ?_)
  refine wp_if F rfl ?_
  refine wp_rs fun _ K40 => F.sg rfl fun a F => ?_
  refine s_end (K40 _ _ ?_)
  refine wp_ret (inb_ret (then_ret (res_slot F rfl rfl ⟨by simp [arT, hk], rfl⟩)))
 ·
  skip
  refine wp_rs fun _ K41 => F.sg rfl fun a F => ?_
  refine s_end (K41 _ _ ?_)
  refine wp_seq_k fun _ K42 => ?_
  refine wp_rs fun _ K43 => F.mv rfl fun a F => ?_
  refine s_end (K43 _ _ ?_)
  refine wp_block ?_
  refine wp_seq_k fun _ K44 => ?_
  refine wp_rs fun _ K45 => F.vl (eqlF (by omega) rfl rfl) fun a F => F.sg rfl fun a F => ?_
  refine s_end (K45 _ _ ?_)
  refine wp_if F rfl ?_
  refine wp_rs fun _ K46 => F.vl (eqlF (by omega) rfl rfl) fun a F => F.sg rfl fun a F => ?_
  refine s_end (K46 _ _ ?_)
  refine wp_if F rfl ?_
  refine wp_region_lit ?_
  refine F.vl (eqlF (by omega) rfl rfl) fun a F => F.sg rfl fun a F => ?_
  refine s_end (K44 _ _ ?_)
  refine wp_if F rfl ?_
  refine wp_seq_k fun _ K47 => ?_
  refine wp_rs fun _ K48 => F.vl (eqlF (by omega) rfl rfl) fun a F => F.sg rfl fun a F => ?_
  refine s_end (K48 _ _ ?_)
  refine wp_if F rfl ?_
  refine wp_rs fun _ K49 => F.vl (eqlF (by omega) rfl rfl) fun a F => F.sg rfl fun a F => ?_
  refine s_end (K49 _ _ ?_)
  refine wp_if F rfl ?_
  refine wp_region_lit ?_
  refine F.vl (eqlT (by omega) rfl rfl) fun a F => F.sg rfl fun a F => ?_
  refine s_end (K47 _ _ ?_)
  refine wp_if F rfl ?_
  refine wp_rs fun _ K50 => F.sg rfl fun a F => ?_
  refine s_end (K50 _ _ ?_)
  refine wp_ret (inb_ret (then_ret (res_slot F rfl rfl ⟨by simp [arT, hk], rfl⟩)))
 ·
  skip
  refine wp_rs fun _ K51 => F.sg rfl fun a F => ?_
  refine s_end (K51 _ _ ?_)
  refine wp_seq_k fun _ K52 => ?_
  refine wp_rs fun _ K53 => F.mv rfl fun a F => ?_
  refine s_end (K53 _ _ ?_)
  refine wp_block ?_
  refine wp_seq_k fun _ K54 => ?_
  refine wp_rs fun _ K55 => F.vl (eqlF (by omega) rfl rfl) fun a F => F.sg rfl fun a F => ?_
  refine s_end (K55 _ _ ?_)
  refine wp_if F rfl ?_
  refine wp_rs fun _ K56 => F.vl (eqlF (by omega) rfl rfl) fun a F => F.sg rfl fun a F => ?_
  refine s_end (K56 _ _ ?_)
  refine wp_if F rfl ?_
  refine wp_region_lit ?_
  refine F.vl (eqlF (by omega) rfl rfl) fun a F => F.sg rfl fun a F => ?_
  refine s_end (K54 _ _ ?_)
  refine wp_if F rfl ?_
  refine wp_seq_k fun _ K57 => ?_
  refine wp_rs fun _ K58 => F.vl (eqlF (by omega) rfl rfl) fun a F => F.sg rfl fun a F => ?_
  refine s_end (K58 _ _ ?_)
  refine wp_if F rfl ?_
  refine wp_rs fun _ K59 => F.vl (eqlF (by omega) rfl rfl) fun a F => F.sg rfl fun a F => ?_
  refine s_end (K59 _ _ ?_)
  refine wp_if F rfl ?_
  refine wp_region_lit ?_
  refine F.vl (eqlF (by omega) rfl rfl) fun a F => F.sg rfl fun a F => ?_
  refine s_end (K57 _ _ ?_)
  refine wp_if F rfl ?_
  refine wp_rs fun _ K60 => F.vl (eqlT (by omega) rfl rfl) fun a F => F.sg rfl fun a F => ?_
  refine s_end (K60 _ _ ?_)
  refine wp_if F rfl ?_
  refine wp_rs fun _ K61 => F.sg rfl fun a F => ?_
  refine s_end (K61 _ _ ?_)
  refine wp_ret (inb_ret (then_ret (res_slot F rfl rfl ⟨by simp [arT, hk], rfl⟩)))
 ·
  skip
  refine wp_rs fun _ K62 => F.sg rfl fun a F => ?_
  refine s_end (K62 _ _ ?_)
  refine wp_seq_k fun _ K63 => ?_
  refine wp_rs fun _ K64 => F.mv rfl fun a F => ?_
  refine s_end (K64 _ _ ?_)
  refine wp_block ?_
  refine wp_seq_k fun _ K65 => ?_
  refine wp_rs fun _ K66 => F.vl (eqlF (by omega) rfl rfl) fun a F => F.sg rfl fun a F => ?_
  refine s_end (K66 _ _ ?_)
  refine wp_if F rfl ?_
  refine wp_rs fun _ K67 => F.vl (eqlF (by omega) rfl rfl) fun a F => F.sg rfl fun a F => ?_
  refine s_end (K67 _ _ ?_)
  refine wp_if F rfl ?_
  refine wp_region_lit ?_
  refine F.vl (eqlF (by omega) rfl rfl) fun a F => F.sg rfl fun a F => ?_
  refine s_end (K65 _ _ ?_)
  refine wp_if F rfl ?_
  refine wp_seq_k fun _ K68 => ?_
  refine wp_rs fun _ K69 => F.vl (eqlF (by omega) rfl rfl) fun a F => F.sg rfl fun a F => ?_
  refine s_end (K69 _ _ ?_)
  refine wp_if F rfl ?_
  refine wp_rs fun _ K70 => F.vl (eqlF (by omega) rfl rfl) fun a F => F.sg rfl fun a F => ?_
  refine s_end (K70 _ _ ?_)
  refine wp_if F rfl ?_
  refine wp_region_lit ?_
  refine F.vl (eqlF (by omega) rfl rfl) fun a F => F.sg rfl fun a F => ?_
  refine s_end (K68 _ _ ?_)
  refine wp_if F rfl ?_
  refine wp_rs fun _ K71 => F.vl (eqlF (by omega) rfl rfl) fun a F => F.sg rfl fun a F => ?_
  refine s_end (K71 _ _ ?_)
  refine wp_if F rfl ?_
  refine wp_skip (K63 _ _ ?_)
  refine wp_rs fun _ K72 => F.sg rfl fun a F => ?_
  refine s_end (K72 _ _ ?_)
  refine wp_ret (res_slot F rfl rfl ⟨by simp [arT, hk], rfl⟩)
theorem kidsOf101 (c : CT) (x : C8) (A : Nat → Prop) (wa w0 : World) (hx : RC wa A c x) : Calls Try.prog 84 #[tv x] w0 fun e w' => ∃ v, e = .returned v ∧ RK wa A v c.kids ∧ Below w0.heap.size w0 w' := by
 obtain ⟨av, nv, cv, hts, hle, hlen, hcap, hkid⟩ := hx.kids
 obtain ⟨xk, xn, xs, xl, xls, xts⟩ := x
 simp only at hts
 subst hts
 have hkd : xk = c.kd := hx.kd
 have hone := hx.one
 have hB := Below.refl w0.heap.size w0
 have sB := hB.size
 refine calls_fs 20 [(0, tv ⟨xk, xn, xs, xl, xls, .slice av nv cv⟩)] Try.func84 rfl rfl rfl rfl rfl fun a F => ?_
 rcases (show (arT xk ≤ nv ∧ (c.kids.length : Int) = max 0 (arT xk)) ∨ ((nv : Int) < arT xk ∧ c.kids.length = 0) by rw [hkd, hlen]; rcases CT.kids_arT hx with h | h <;> omega) with hk | hk
 ·
  skip
  refine wp_rs fun _ K2 => ?_
  refine s_box ([.int .i64 xk, .int .i64 xn, .string xs, .int .i64 xl.1, .int .i64 xl.2.1, xl.2.2, xls, .slice av nv cv]) F (by decide) rfl rfl fun w2 b1 a eb1 m1 B3 zb1 F => ?_
  have sB3 := B3.size
  have hB := bt hB B3
  refine F.sg rfl fun a F => ?_
  refine s_end (K2 _ _ ?_)
  refine wp_rs fun _ K3 => F.vl (x_fa0 fa27_0 rfl) fun a F => F.ld m1 flat3 rfl rfl fun a F => ?_
  refine s_callS [_] F E122 rfl (by decide) (arity109 xk w2) fun a F => ?_
  refine F.mv rfl fun a F => F.vl (x_ext rfl rfl) fun a F => F.vl (x_ext rfl rfl) fun a F => F.sg rfl fun a F => F.sg rfl fun a F => ?_
  refine s_end (K3 _ _ ?_)
  refine wp_seq_k fun _ K4 => ?_
  refine wp_rs fun _ K5 => F.vl (x_fa0 fa27_5 rfl) fun a F => F.ld m1 flat25 rfl rfl fun a F => F.vl (x_len Try.underlying25 rfl) fun a F => F.mv rfl fun a F => F.vl (lssF (by omega) rfl rfl) fun a F => ?_
  refine s_end (K5 _ _ ?_)
  refine wp_if F rfl ?_
  refine wp_skip (K4 _ _ ?_)
  refine wp_rs fun _ K6 => F.vl (x_fa0 fa27_5 rfl) fun a F => F.ld m1 flat25 rfl rfl fun a F => F.mv rfl fun a F => F.vl (x_slice (vlo := none) (vhi := some _) (vmx := none) rfl rfl rfl rfl (m_sliceUK c.kids.length Try.underlying25 el25.size (by omega) (by omega))) fun a F => F.sg rfl fun a F => ?_
  refine s_end (K6 _ _ ?_)
  refine wp_ret (res_slot F rfl rfl ⟨_, rfl, hkid, hB⟩)
 ·
  skip
  refine wp_rs fun _ K7 => ?_
  refine s_box ([.int .i64 xk, .int .i64 xn, .string xs, .int .i64 xl.1, .int .i64 xl.2.1, xl.2.2, xls, .slice av nv cv]) F (by decide) rfl rfl fun w4 b1 a eb1 m1 B5 zb1 F => ?_
  have sB5 := B5.size
  have hB := bt hB B5
  refine F.sg rfl fun a F => ?_
  refine s_end (K7 _ _ ?_)
  refine wp_rs fun _ K8 => F.vl (x_fa0 fa27_0 rfl) fun a F => F.ld m1 flat3 rfl rfl fun a F => ?_
  refine s_callS [_] F E122 rfl (by decide) (arity109 xk w4) fun a F => ?_
  refine F.mv rfl fun a F => F.vl (x_ext rfl rfl) fun a F => F.vl (x_ext rfl rfl) fun a F => F.sg rfl fun a F => F.sg rfl fun a F => ?_
  refine s_end (K8 _ _ ?_)
  refine wp_seq_k fun _ K9 => ?_
  refine wp_rs fun _ K10 => F.vl (x_fa0 fa27_5 rfl) fun a F => F.ld m1 flat25 rfl rfl fun a F => F.vl (x_len Try.underlying25 rfl) fun a F => F.mv rfl fun a F => F.vl (lssT (by omega) rfl rfl) fun a F => ?_
  refine s_end (K10 _ _ ?_)
  refine wp_if F rfl ?_
  refine wp_rs fun _ K11 => F.sg rfl fun a F => ?_
  refine s_end (K11 _ _ ?_)
  refine wp_ret (then_ret (res_slot F rfl rfl ⟨_, rfl, (by rw [List.eq_nil_of_length_eq_zero hk.2]; exact RK.nil _ _), hB⟩))
theorem leaf70 (c : CT) (x : C8) (A : Nat → Prop) (wa w0 : World) (hx : RC wa A c x) : Calls Try.prog 54 #[tv x] w0 fun e w' => e = .returned (.bool (decide (arT c.kd < 0 ∨ (c.len : Int) < arT c.kd))) ∧ Below w0.heap.size w0 w' := by
 obtain ⟨av, nv, cv, hts, hle, hlen, hcap, hkid⟩ := hx.kids
 obtain ⟨xk, xn, xs, xl, xls, xts⟩ := x
 simp only at hts
 subst hts
 have hkd : xk = c.kd := hx.kd
 have hone := hx.one
 have hB := Below.refl w0.heap.size w0
 have sB := hB.size
 refine calls_fs 16 [(0, tv ⟨xk, xn, xs, xl, xls, .slice av nv cv⟩)] Try.func54 rfl rfl rfl rfl rfl fun a F => ?_
 rcases (show arT xk < 0 ∨ (0 ≤ arT xk ∧ (nv : Int) < arT xk) ∨ (0 ≤ arT xk ∧ ¬ (nv : Int) < arT xk) by omega) with hk | hk | hk
 ·
  skip
  refine wp_rs fun _ K2 => ?_
  refine s_box ([.int .i64 xk, .int .i64 xn, .string xs, .int .i64 xl.1, .int .i64 xl.2.1, xl.2.2, xls, .slice av nv cv]) F (by decide) rfl rfl fun w2 b1 a eb1 m1 B3 zb1 F => ?_
  have sB3 := B3.size
  have hB := bt hB B3
  refine F.sg rfl fun a F => ?_
  refine s_end (K2 _ _ ?_)
  refine dk2_seq (w2.heap.size) (w2.heap.size) (ops := regOps Try.f54 1) (N := 14) (by kernel_rfl) wide_orders (by kernel_rfl) fun w4 hw4 B5 hS K3 K3 => ?_
  have zw4 : w4.heap.size = w2.heap.size := by rw [hw4]
  have sB5 := B5.size
  have hB := bt hB B5
  have m1 := m1.old B5
  have m1_d := m1
  have hB_d := hB
  refine F.dv 0 3 (.fieldAddr 27 (.tmp 1) 0) hS (fun W hW => x_fa0 fa27_0 rfl) fun a F => F.dv 1 4 (.load 3 (.tmp 3)) hS (fun W hW => x_load rfl (m_load flat3 ((m1_d.k2 hW (by omega)).cell (j := 0) rfl))) fun a F => ?_
  refine d1 2 (some 5) (.call (.mk (.value (.func 82)) #[(.tmp 4)] #[3])) fun ty pos af => ?_
  refine s_callS [_] F E82 rfl (by decide) (kids54 xk w4) fun a F => ?_
  refine s_end ⟨hS, ?_⟩
  refine F.dv 3 6 (.binOp .lss 3 (.tmp 5) (.const (.int .i64 0)) 3) hS (fun W hW => lssT (by omega) rfl rfl) fun a F => F.dv 4 7 (.move (.tmp 6)) hS (fun W hW => x_move rfl) fun a F => d_skip 5 8 7 (j := 4) (want := false) (op := (.fieldAddr 27 (.tmp 1) 5)) F hS (by kernel_rfl) (by kernel_rfl) rfl (by kernel_rfl) (by decide) fun a F => d_skip 6 9 7 (j := 4) (want := false) (op := (.load 25 (.tmp 8))) F hS (by kernel_rfl) (by kernel_rfl) rfl (by kernel_rfl) (by decide) fun a F => d_skip 7 10 7 (j := 4) (want := false) (op := (.call (.mk (.builtin .len) #[(.tmp 9)] #[25]))) F hS (by kernel_rfl) (by kernel_rfl) rfl (by kernel_rfl) (by decide) fun a F => d_skip 8 11 7 (j := 4) (want := false) (op := (.fieldAddr 27 (.tmp 1) 0)) F hS (by kernel_rfl) (by kernel_rfl) rfl (by kernel_rfl) (by decide) fun a F => d_skip 9 12 7 (j := 4) (want := false) (op := (.load 3 (.tmp 11))) F hS (by kernel_rfl) (by kernel_rfl) rfl (by kernel_rfl) (by decide) fun a F => d_skip 10 13 7 (j := 4) (want := false) (op := (.call (.mk (.value (.func 82)) #[(.tmp 12)] #[3]))) F hS (by kernel_rfl) (by kernel_rfl) rfl (by kernel_rfl) (by decide) fun a F => d_skip 11 14 7 (j := 4) (want := false) (op := (.binOp .lss 3 (.tmp 10) (.tmp 13) 3)) F hS (by kernel_rfl) (by kernel_rfl) rfl (by kernel_rfl) (by decide) fun a F => F.dv 12 15 (.pick (.tmp 7) (.const (.bool true)) (.tmp 14)) hS (fun W hW => x_pick (b := true) rfl rfl) fun a F => F.dv 13 2 (.assign (.tmp 15)) hS (fun W hW => x_assign rfl) fun a F => ?_
  refine d_end (by kernel_rfl) (K3 _ _ ?_)
  refine wp_ret (res_slot F rfl rfl ⟨by rw [← hkd, ← hlen, decide_eq_true (by omega)], hB⟩)
 ·
  skip
  refine wp_rs fun _ K4 => ?_
  refine s_box ([.int .i64 xk, .int .i64 xn, .string xs, .int .i64 xl.1, .int .i64 xl.2.1, xl.2.2, xls, .slice av nv cv]) F (by decide) rfl rfl fun w6 b1 a eb1 m1 B7 zb1 F => ?_
  have sB7 := B7.size
  have hB := bt hB B7
  refine F.sg rfl fun a F => ?_
  refine s_end (K4 _ _ ?_)
  refine dk2_seq (w6.heap.size) (w6.heap.size) (ops := regOps Try.f54 1) (N := 14) (by kernel_rfl) wide_orders (by kernel_rfl) fun w8 hw8 B9 hS K5 K5 => ?_
  have zw8 : w8.heap.size = w6.heap.size := by rw [hw8]
  have sB9 := B9.size
  have hB := bt hB B9
  have m1 := m1.old B9
  have m1_d := m1
  have hB_d := hB
  refine F.dv 0 3 (.fieldAddr 27 (.tmp 1) 0) hS (fun W hW => x_fa0 fa27_0 rfl) fun a F => F.dv 1 4 (.load 3 (.tmp 3)) hS (fun W hW => x_load rfl (m_load flat3 ((m1_d.k2 hW (by omega)).cell (j := 0) rfl))) fun a F => ?_
  refine d1 2 (some 5) (.call (.mk (.value (.func 82)) #[(.tmp 4)] #[3])) fun ty pos af => ?_
  refine s_callS [_] F E82 rfl (by decide) (kids54 xk w8) fun a F => ?_
  refine s_end ⟨hS, ?_⟩
  refine F.dv 3 6 (.binOp .lss 3 (.tmp 5) (.const (.int .i64 0)) 3) hS (fun W hW => lssF (by omega) rfl rfl) fun a F => F.dv 4 7 (.move (.tmp 6)) hS (fun W hW => x_move rfl) fun a F => F.dg 5 8 7 4 false (.fieldAddr 27 (.tmp 1) 5) hS rfl (fun W hW => x_fa0 fa27_5 rfl) fun a F => F.dg 6 9 7 4 false (.load 25 (.tmp 8)) hS rfl (fun W hW => x_load rfl (m_load flat25 ((m1_d.k2 hW (by omega)).cell (j := 7) rfl))) fun a F => F.dg 7 10 7 4 false (.call (.mk (.builtin .len) #[(.tmp 9)] #[25])) hS rfl (fun W hW => x_len Try.underlying25 rfl) fun a F => F.dg 8 11 7 4 false (.fieldAddr 27 (.tmp 1) 0) hS rfl (fun W hW => x_fa0 fa27_0 rfl) fun a F => F.dg 9 12 7 4 false (.load 3 (.tmp 11)) hS rfl (fun W hW => x_load rfl (m_load flat3 ((m1_d.k2 hW (by omega)).cell (j := 0) rfl))) fun a F => ?_
  refine d_oneg 10 7 (some 13) (.call (.mk (.value (.func 82)) #[(.tmp 12)] #[3])) (j := 4) (want := false) F (by kernel_rfl) (by kernel_rfl) (by kernel_rfl) rfl fun ty pos af => ?_
  refine s_callS [_] F E82 rfl (by decide) (kids54 xk w8) fun a F => ?_
  refine s_end ⟨hS, ?_⟩
  refine F.dg 11 14 7 4 false (.binOp .lss 3 (.tmp 10) (.tmp 13) 3) hS rfl (fun W hW => lssT (by omega) rfl rfl) fun a F => F.dv 12 15 (.pick (.tmp 7) (.const (.bool true)) (.tmp 14)) hS (fun W hW => x_pick (b := false) rfl rfl) fun a F => F.dv 13 2 (.assign (.tmp 15)) hS (fun W hW => x_assign rfl) fun a F => ?_
  refine d_end (by kernel_rfl) (K5 _ _ ?_)
  refine wp_ret (res_slot F rfl rfl ⟨by rw [← hkd, ← hlen, decide_eq_true (by omega)], hB⟩)
 ·
  skip
  refine wp_rs fun _ K6 => ?_
  refine s_box ([.int .i64 xk, .int .i64 xn, .string xs, .int .i64 xl.1, .int .i64 xl.2.1, xl.2.2, xls, .slice av nv cv]) F (by decide) rfl rfl fun w10 b1 a eb1 m1 B11 zb1 F => ?_
  have sB11 := B11.size
  have hB := bt hB B11
  refine F.sg rfl fun a F => ?_
  refine s_end (K6 _ _ ?_)
  refine dk2_seq (w10.heap.size) (w10.heap.size) (ops := regOps Try.f54 1) (N := 14) (by kernel_rfl) wide_orders (by kernel_rfl) fun w12 hw12 B13 hS K7 K7 => ?_
  have zw12 : w12.heap.size = w10.heap.size := by rw [hw12]
  have sB13 := B13.size
  have hB := bt hB B13
  have m1 := m1.old B13
  have m1_d := m1
  have hB_d := hB
  refine F.dv 0 3 (.fieldAddr 27 (.tmp 1) 0) hS (fun W hW => x_fa0 fa27_0 rfl) fun a F => F.dv 1 4 (.load 3 (.tmp 3)) hS (fun W hW => x_load rfl (m_load flat3 ((m1_d.k2 hW (by omega)).cell (j := 0) rfl))) fun a F => ?_
  refine d1 2 (some 5) (.call (.mk (.value (.func 82)) #[(.tmp 4)] #[3])) fun ty pos af => ?_
  refine s_callS [_] F E82 rfl (by decide) (kids54 xk w12) fun a F => ?_
  refine s_end ⟨hS, ?_⟩
  refine F.dv 3 6 (.binOp .lss 3 (.tmp 5) (.const (.int .i64 0)) 3) hS (fun W hW => lssF (by omega) rfl rfl) fun a F => F.dv 4 7 (.move (.tmp 6)) hS (fun W hW => x_move rfl) fun a F => F.dg 5 8 7 4 false (.fieldAddr 27 (.tmp 1) 5) hS rfl (fun W hW => x_fa0 fa27_5 rfl) fun a F => F.dg 6 9 7 4 false (.load 25 (.tmp 8)) hS rfl (fun W hW => x_load rfl (m_load flat25 ((m1_d.k2 hW (by omega)).cell (j := 7) rfl))) fun a F => F.dg 7 10 7 4 false (.call (.mk (.builtin .len) #[(.tmp 9)] #[25])) hS rfl (fun W hW => x_len Try.underlying25 rfl) fun a F => F.dg 8 11 7 4 false (.fieldAddr 27 (.tmp 1) 0) hS rfl (fun W hW => x_fa0 fa27_0 rfl) fun a F => F.dg 9 12 7 4 false (.load 3 (.tmp 11)) hS rfl (fun W hW => x_load rfl (m_load flat3 ((m1_d.k2 hW (by omega)).cell (j := 0) rfl))) fun a F => ?_
  refine d_oneg 10 7 (some 13) (.call (.mk (.value (.func 82)) #[(.tmp 12)] #[3])) (j := 4) (want := false) F (by kernel_rfl) (by kernel_rfl) (by kernel_rfl) rfl fun ty pos af => ?_
  refine s_callS [_] F E82 rfl (by decide) (kids54 xk w12) fun a F => ?_
  refine s_end ⟨hS, ?_⟩
  refine F.dg 11 14 7 4 false (.binOp .lss 3 (.tmp 10) (.tmp 13) 3) hS rfl (fun W hW => lssF (by omega) rfl rfl) fun a F => F.dv 12 15 (.pick (.tmp 7) (.const (.bool true)) (.tmp 14)) hS (fun W hW => x_pick (b := false) rfl rfl) fun a F => F.dv 13 2 (.assign (.tmp 15)) hS (fun W hW => x_assign rfl) fun a F => ?_
  refine d_end (by kernel_rfl) (K7 _ _ ?_)
  refine wp_ret (res_slot F rfl rfl ⟨by rw [← hkd, ← hlen, decide_eq_false (by omega)], hB⟩)
end Go.Proofs.Ytmkjhdiepkpdoaa

namespace Go.Proofs.Ytmkjhdiepkpdoaa
set_option maxRecDepth 100000
set_option maxHeartbeats 1600000
open Go.RowKit Go.Shelf
set_option linter.unusedVariables false
set_option linter.unusedSimpArgs false
/-- A term's nodes, with their depths. -/
def CT.nodes : CT → Int → List (Int × CT)
 | .two k a b m, d => (d, .two k a b m) :: (a.nodes (d + 1) ++ b.nodes (d + 1))
 | .lt a b c m, d => (d, .lt a b c m) :: (a.nodes (d + 1) ++ (b.nodes (d + 1) ++ c.nodes (d + 1)))
 | c, d => [(d, c)]
theorem CT.nodes_eq (c : CT) (d : Int) : c.nodes d = (d, c) :: c.kids.flatMap (·.nodes (d + 1)) := by
 cases c <;> simp [CT.nodes, CT.kids]
theorem take_at {α β : Type} {l : List α} {i : Nat} {x : α} (h : l[i]? = some x) (f : α → List β) : (l.take (i + 1)).flatMap f = (l.take i).flatMap f ++ f x := by
 rw [List.take_add_one, h, List.flatMap_append]; simp
theorem split_at {α : Type} {l : List α} {i : Nat} {x : α} (h : l[i]? = some x) : l = l.take i ++ x :: l.drop (i + 1) := by
 have hi : i < l.length := (List.getElem?_eq_some_iff.1 h).1
 have : l[i] = x := (List.getElem?_eq_some_iff.1 h).2
 rw [← this, List.getElem_cons_drop, List.take_append_drop]
theorem CT.nodes_split {c k : CT} {i : Nat} (d : Int) (h : c.kids[i]? = some k) : c.nodes d = ((d, c) :: (c.kids.take i).flatMap (·.nodes (d + 1))) ++ (k.nodes (d + 1) ++ (c.kids.drop (i + 1)).flatMap (·.nodes (d + 1))) := by
 rw [c.nodes_eq d]
 conv => lhs; rw [split_at h]
 simp
/-- What is handed on of a node. -/
def encN (w0 : World) (e : Int × CT) (vs : List Value) : Prop := ∃ y, vs = [.int .i64 e.1, tv y] ∧ RC w0 (fun k => k < w0.heap.size) e.2 y
theorem walk108 (w0 : World) : ∀ (N : Nat) (c : CT) (x : C8) (d : Int), c.size < N → RC w0 (fun k => k < w0.heap.size) c x → 0 ≤ d → d ≤ 4611686018427387905 →
    ∀ (hi L : Nat) (J Jx : List (Int × CT) → World → Prop), w0.heap.size ≤ hi → (∀ p W W', J p W → Below hi W W' → J p W') → (∀ p W W', Jx p W → Below hi W W' → Jx p W') → (∀ p e W, J (p ++ [e]) W → e.1 ≤ 4611686018427387904) →
    (∀ p e rest W vs, c.nodes d = p ++ e :: rest → encN w0 e vs → J p W → hi ≤ W.heap.size → Below w0.heap.size w0 W → YieldAt Fence.wide 0 Try.prog L vs.toArray W fun en W' => Mid w0.heap.size hi W W' ∧ ((en = .returned (.bool true) ∧ J (p ++ [e]) W') ∨ (en = .returned (.bool false) ∧ Jx (p ++ [e]) W'))) →
    ∀ W, J [] W → hi ≤ W.heap.size → Below w0.heap.size w0 W → Calls Try.prog 125 #[tv x, .int .i64 d, .func (.yield L) #[] #[]] W fun en W' => ∃ b, en = .returned (.bool b) ∧ Mid w0.heap.size hi W W' ∧ ((b = true ∧ J (c.nodes d) W') ∨ (b = false ∧ ∃ p, p <+: c.nodes d ∧ Jx p W')) := by
  intro N
  induction N with
  | zero => intro c x d h; omega
  | succ N ih =>
  intro c x d hN hx hd0 hd1 hi L J Jx hlo hJs hJxs hJb hY W hJ hWs hB
  obtain ⟨xk, xn, xs, xl, xls, xts⟩ := x
  have h3 := c.kids_le
  have hM := Mid.refl w0.heap.size hi W
  have sB := hB.size
  refine calls_fs 28 [(0, tv ⟨xk, xn, xs, xl, xls, xts⟩), (1, .int .i64 d), (2, .func (.yield L) #[] #[])] Try.func125 rfl rfl rfl rfl rfl fun a F => ?_
  refine wp_rs fun _ K1 => ?_
  refine s_box ([.int .i64 xk, .int .i64 xn, .string xs, .int .i64 xl.1, .int .i64 xl.2.1, xl.2.2, xls, xts]) F (by decide) rfl rfl fun w2 b3 a eb3 m3 B3 zb3 F => ?_
  have sB3 := B3.size
  have hB := bt hB B3
  have hM := hM.old B3
  have hJ := hJs _ _ _ hJ (B3.mono (by omega))
  refine F.sg rfl fun a F => ?_
  refine s_end (K1 _ _ ?_)
  refine wp_seq_k fun _ K2 => ?_
  refine wp_rsI fun _ K3 => ?_
  refine i_val F (x_move rfl) rfl (by decide) fun a F => ?_
  refine i_val F (x_move rfl) rfl (by decide) fun a F => ?_
  refine i_val F (x_ldW wide27 m3 rfl rfl) rfl (by decide) fun a F => ?_
  refine i_yield (R := fun v W' => ∃ b, v = .bool b ∧ Mid w0.heap.size hi w2 W' ∧ ((b = true ∧ J [(d, c)] W') ∨ (b = false ∧ Jx [(d, c)] W'))) F [_, _] rfl rfl (by decide) ?_ ?_
  · refine YieldAt.mono (hY [] (d, c) _ w2 _ (by rw [c.nodes_eq]; rfl) ⟨⟨xk, xn, xs, xl, xls, xts⟩, rfl, hx⟩ hJ (by omega) hB) ?_
    rintro en W' ⟨h1, ⟨rfl, h2⟩ | ⟨rfl, h2⟩⟩
    · exact ⟨_, rfl, true, rfl, h1, .inl ⟨rfl, h2⟩⟩
    · exact ⟨_, rfl, false, rfl, h1, .inr ⟨rfl, h2⟩⟩
  rintro _ w4 a ⟨b12, rfl, hm12, h12⟩ F
  have shm12 := hm12.size
  have hB := hB.trans (hm12.below (by omega))
  have hM := hM.trans hm12
  have m3 := m3.mid hm12 (.inr (by omega))
  refine i_val F (x_not rfl) rfl (by decide) fun a F => ?_
  refine i_end (K3 _ _ ?_)
  refine wp_ifb F rfl (fun hc13 => ?_) (fun hc13 => ?_)
  · obtain ⟨rfl, h12x⟩ : b12 = false ∧ Jx [(d, c)] _ := by rcases h12 with ⟨rfl, _⟩ | h; (· cases hc13); exact h
    refine wp_rs fun _ K4 => F.sg rfl fun a F => ?_
    refine s_end (K4 _ _ ?_)
    refine wp_ret (then_ret (res_slot F rfl rfl ⟨false, rfl, hM, .inr ⟨rfl, [(d, c)], by rw [c.nodes_eq]; exact ⟨_, rfl⟩, h12x⟩⟩))
  · obtain ⟨rfl, hJ⟩ : b12 = true ∧ J [(d, c)] _ := by rcases h12 with h | ⟨rfl, _⟩; (· exact h); cases hc13
    have hdd := hJb [] (d, c) _ hJ
    simp only at hdd
    refine wp_skip (K2 _ _ ?_)
    refine wp_seq_k fun _ K5 => ?_
    refine wp_rs fun _ K6 => F.vl (x_ldW wide27 m3 rfl rfl) fun a F => ?_
    refine s_callR (R := fun v w' => RK w0 (fun k => k < w0.heap.size) v c.kids) [_] F E84 rfl (by decide) (kidsOf101 c ⟨xk, xn, xs, xl, xls, xts⟩ _ w0 w4 hx) ?_
    rintro v15 w5 a hv15 B6 F
    have sB6 := B6.size
    have hB := bt hB B6
    have hM := hM.old B6
    have hJ := hJs _ _ _ hJ (B6.mono (by omega))
    obtain ⟨a15, c15, hve, _⟩ := hv15.form
    subst hve
    refine F.vl (x_len Try.underlying25 rfl) fun a F => F.mv rfl fun a F => ?_
    refine s_end (K6 _ _ ?_)
    refine wp_block ?_
    refine wp_up c.kids.length (fun i a w => J ((d, c) :: (c.kids.take i).flatMap (·.nodes (d + 1))) w ∧ Mid w0.heap.size hi W w ∧ Below w0.heap.size w0 w ∧ Fs 28 a [(17, .int .i64 (i : Int)), (16, .int .i64 (c.kids.length : Int)), (15, .slice a15 c.kids.length c15), (1, .int .i64 d), (2, .func (.yield L) #[] #[])]) ⟨by simpa using hJ, hM, hB, F.sub _ rfl⟩ ?_
    repeat clear F
    clear hJ hM hB
    rintro i a w hi2 ⟨hJ, hM, hB, F⟩ K' hK'
    have sB := hB.size
    have sM := hM.size
    refine wp_rs fun _ K7 => F.vl (x_lss (b := decide (i < c.kids.length)) (decide_eq_decide.2 (by omega)) rfl rfl) fun a F => ?_
    refine s_end (K7 _ _ ?_)
    refine wp_seq_k fun _ K8 => ?_
    refine wp_iff F rfl (fun hc18 => ?_) (fun hc18 => ?_)
    · obtain ⟨b9, off9, c9, y, kd, hve, hyk, hry, hAb, hbl, hrow⟩ := hv15.row (i := i) (by omega)
      cases hve
      have hks := CT.kid_size hyk
      refine wp_skip (K8 _ _ ?_)
      refine wp_seq_k fun _ K9 => ?_
      refine wp_block ?_
      refine wp_rs fun _ K10 => F.vl (x_ixa rfl rfl (m_ixsK i Try.underlying25 el25.size rfl (by omega))) fun a F => F.vl (x_ldA wide27 (hrow _ (hB.block _ hbl)) rfl rfl) fun a F => ?_
      refine s_alloc F (by decide) zero27 fun w7 b8 a eb8 m8 B8 zb8 F => ?_
      have sB8 := B8.size
      have hB := bt hB B8
      have hM := hM.old B8
      have hJ := hJs _ _ _ hJ (B8.mono (by omega))
      refine s_putW F rfl rfl (size_wide wide27) m8 rfl hry.one fun w11 m8 o12 => ?_
      have so12 := o12.size
      have hB := hB.trans (o12.below (by omega))
      have hM := hM.only o12 (by omega)
      have hJ := hJs _ _ _ hJ (o12.below (by omega))
      refine s_end (K10 _ _ ?_)
      refine wp_rs fun _ K11 => F.vl (x_ldW wide27 m8 rfl rfl) fun a F => F.mv rfl fun a F => F.vl (x_add (by omega) (by omega) rfl rfl) fun a F => F.mv rfl fun a F => ?_
      refine s_call (R := fun v W' => ∃ b, v = .bool b ∧ Mid w0.heap.size hi w11 W' ∧ ((b = true ∧ J ((d, c) :: (c.kids.take (i + 1)).flatMap (·.nodes (d + 1))) W') ∨ (b = false ∧ ∃ p, p <+: c.nodes d ∧ Jx p W'))) F [_, _, _] E125 rfl (by decide) ?_ ?_
      · refine Calls.mono (ih kd y (d + 1) (by omega) hry (by omega) (by omega) hi L (fun p W => J (((d, c) :: (c.kids.take i).flatMap (·.nodes (d + 1))) ++ p) W) (fun p W => Jx (((d, c) :: (c.kids.take i).flatMap (·.nodes (d + 1))) ++ p) W) hlo (fun p => hJs _) (fun p => hJxs _) (fun p e W h => hJb _ e W (by rw [List.append_assoc]; exact h)) ?_ w11 (by rw [List.append_nil]; exact hJ) (by omega) hB) ?_
        · intro p e rest W vs he hv hj h1 h2
          have := hY (((d, c) :: (c.kids.take i).flatMap (·.nodes (d + 1))) ++ p) e (rest ++ (c.kids.drop (i + 1)).flatMap (·.nodes (d + 1))) W vs (by rw [CT.nodes_split d hyk, he]; simp) hv hj h1 h2
          rw [List.append_assoc] at this
          exact this
        · rintro en W' ⟨b, rfl, h1, ⟨rfl, h2⟩ | ⟨rfl, p, h2, h4⟩⟩
          · exact ⟨_, rfl, true, rfl, h1, .inl ⟨rfl, by rw [take_at hyk]; exact h2⟩⟩
          · exact ⟨_, rfl, false, rfl, h1, .inr ⟨rfl, _, by rw [CT.nodes_split d hyk]; exact List.prefix_append_right_inj _ |>.2 (h2.trans (List.prefix_append _ _)), h4⟩⟩
      rintro _ w13 a ⟨b25, rfl, hm25, h25⟩ F
      have shm25 := hm25.size
      have hB := hB.trans (hm25.below (by omega))
      have hM := hM.trans hm25
      refine F.vl (x_not rfl) fun a F => ?_
      refine s_end (K11 _ _ ?_)
      refine wp_ifb F rfl (fun hc26 => ?_) (fun hc26 => ?_)
      · obtain ⟨rfl, p25, hp25, h25x⟩ : b25 = false ∧ ∃ p, p <+: c.nodes d ∧ Jx p _ := by rcases h25 with ⟨rfl, _⟩ | h; (· cases hc26); exact h
        refine wp_rs fun _ K12 => F.sg rfl fun a F => ?_
        refine s_end (K12 _ _ ?_)
        refine wp_ret (inb_ret (then_ret (then_ret (inb_ret (then_ret (res_slot F rfl rfl ⟨false, rfl, hM, .inr ⟨rfl, p25, hp25, h25x⟩⟩))))))
      · obtain ⟨rfl, hJ⟩ : b25 = true ∧ J ((d, c) :: (c.kids.take (i + 1)).flatMap (·.nodes (d + 1))) _ := by rcases h25 with h | ⟨rfl, _⟩; (· exact h); cases hc26
        refine wp_skip (K9 _ _ ?_)
        refine wp_region_lit ?_
        refine F.vl (x_add (by omega) (by omega) rfl rfl) fun a F => F.mv rfl fun a F => ?_
        refine s_end (hK' _ _ (by omega) ⟨hJ, hM, hB, F.sub _ rfl⟩)
    · obtain rfl : i = c.kids.length := by omega
      rw [List.take_length] at hJ
      refine wp_exit (K5 _ _ ?_)
      refine wp_rs fun _ K13 => F.sg rfl fun a F => ?_
      refine s_end (K13 _ _ ?_)
      refine wp_ret (res_slot F rfl rfl ⟨true, rfl, hM, .inl ⟨rfl, by rw [c.nodes_eq]; exact hJ⟩⟩)
theorem nodes107 (w0 : World) (c : CT) (x : C8) (b1 hi : Nat) (hx : RC w0 (fun k => k < w0.heap.size) c x) (h1 : w0.heap.size ≤ b1) (h2 : b1 < hi) (w1 : World) (m1 : Blk w1 b1 27 (tc x)) (h3 : w0.heap.size ≤ hi) (J Jx : List (Int × CT) → World → Prop) (L : Nat)
    (hJs : ∀ p W W', J p W → Below hi W W' → J p W') (hJxs : ∀ p W W', Jx p W → Below hi W W' → Jx p W') (hJb : ∀ p e W, J (p ++ [e]) W → e.1 ≤ 4611686018427387904)
    (hY : ∀ p e rest W vs, c.nodes 1 = p ++ e :: rest → encN w0 e vs → J p W → hi ≤ W.heap.size → Below w0.heap.size w0 W → YieldAt Fence.wide 0 Try.prog L vs.toArray W fun en W' => Mid w0.heap.size hi W W' ∧ ((en = .returned (.bool true) ∧ J (p ++ [e]) W') ∨ (en = .returned (.bool false) ∧ Jx (p ++ [e]) W')))
    (W : World) (hJ : J [] W) (hWs : hi ≤ W.heap.size) (hB : Below w0.heap.size w0 W) (hb : Blk W b1 27 (tc x)) :
    Calls Try.prog 124 #[.func (.yield L) #[] #[], .pointer (some ⟨b1, 0, none⟩)] W fun en W' => (∃ v, en = .returned v) ∧ Mid w0.heap.size hi W W' ∧ (J (c.nodes 1) W' ∨ ∃ p, p <+: c.nodes 1 ∧ Jx p W') := by
  refine calls_fs 6 [(0, .func (.yield L) #[] #[]), (1, .pointer (some ⟨b1, 0, none⟩))] Try.func124 rfl rfl rfl rfl rfl fun a F => ?_
  refine wp_region_lit ?_
  refine F.vl (x_ldW wide27 hb rfl rfl) fun a F => F.mv rfl fun a F => ?_
  refine s_call (R := fun v W' => ∃ b, v = .bool b ∧ Mid w0.heap.size hi W W' ∧ ((b = true ∧ J (c.nodes 1) W') ∨ (b = false ∧ ∃ p, p <+: c.nodes 1 ∧ Jx p W'))) F [_, _, _] E125 rfl (by decide) ((walk108 w0 (c.size + 1) c x 1 (by omega) hx (by decide) (by decide) hi L J Jx h3 hJs hJxs hJb hY W hJ hWs hB).mono fun en W' ⟨b, h, h'⟩ => ⟨_, h, b, rfl, h'⟩) ?_
  rintro _ w9 a ⟨b9, rfl, hm9, h9⟩ F
  refine s_end ?_
  show bodyPost Try.prog Try.f124 (fun en W' => (∃ v, en = .returned v) ∧ Mid w0.heap.size hi W W' ∧ (J (c.nodes 1) W' ∨ ∃ p, p <+: c.nodes 1 ∧ Jx p W')) .normal a w9
  refine post_normal (res_none F rfl ⟨⟨_, rfl⟩, hm9, ?_⟩)
  rcases h9 with ⟨_, h⟩ | ⟨_, h⟩
  · exact .inl h
  · exact .inr h
end Go.Proofs.Ytmkjhdiepkpdoaa

namespace Go.Proofs.Ytmkjhdiepkpdoaa
set_option maxRecDepth 100000
set_option maxHeartbeats 1600000
open Go.RowKit Go.Shelf
set_option linter.unusedVariables false
set_option linter.unusedSimpArgs false
/-- The block of what is deferred. -/
def Dfr (w : World) (b : Nat) : Prop := w.heap[b]? = some (.deferred (some []))
section
variable {w w' : World} {b : Nat}
theorem Dfr.lt (h : Dfr w b) : b < w.heap.size := (Array.getElem?_eq_some_iff.1 h).1
theorem Dfr.old (h : Dfr w b) (hB : Below w.heap.size w w') : Dfr w' b := (hB.block b h.lt).trans h
theorem Dfr.only {k : Nat} (h : Dfr w b) (ho : Only k w w') (hb : b ≠ k) : Dfr w' b := (ho.block b hb).trans h
theorem Dfr.k2 {a c : Nat} (h : Dfr w b) (hK : Ktw a c w w') (hb : b ≠ a ∧ b ≠ c) : Dfr w' b := (hK.block b h.lt hb).trans h
theorem Dfr.mid {lo hi : Nat} (h : Dfr w b) (hM : Mid lo hi w w') (hb : b < lo ∨ hi ≤ b) : Dfr w' b := (hM.block b h.lt hb).trans h
end
/-- It is not too great. -/
def CT.ok (c : CT) : Prop := c.size ≤ 20000 ∧ c.dep ≤ 2000
instance (c : CT) : Decidable c.ok := inferInstanceAs (Decidable (_ ∧ _))
def CT.mN (c : CT) : Nat := if c.ok then c.size else 0
def CT.mD (c : CT) : Nat := if c.ok then c.dep else 0
def mxd (p : List (Int × CT)) : Int := p.foldl (fun d e => max d e.1) 0
mutual
theorem CT.nodes_len : ∀ (c : CT) (d : Int), (c.nodes d).length = c.size
 | .two k a b m, d => by simp [CT.nodes, CT.size, a.nodes_len, b.nodes_len]
 | .lt a b c m, d => by simp [CT.nodes, CT.size, a.nodes_len, b.nodes_len, c.nodes_len]; omega
 | .var .., d => rfl
 | .sort .., d => rfl
 | .cst .., d => rfl
 | .odd .., d => rfl
end
/-- The nodes, handed on. -/
theorem hands107 (w0 : World) (c : CT) (x : C8) (b1 hi : Nat) (hx : RC w0 (fun k => k < w0.heap.size) c x) (h1 : w0.heap.size ≤ b1) (h2 : b1 < hi) (w1 : World) (m1 : Blk w1 b1 27 (tc x)) (h3 : w0.heap.size ≤ hi) : Hands Try.prog 124 #[.pointer (some ⟨b1, 0, none⟩)] w0.heap.size hi w0 (fun W => Blk W b1 27 (tc x)) (fun e => e.1 ≤ 4611686018427387904) (encN w0) (c.nodes 1) :=
 fun L J Jx hJs hJxs hJb hY W hS hJ hWs hB => nodes107 w0 c x b1 hi hx h1 h2 w1 m1 h3 J Jx L hJs hJxs hJb hY W hJ hWs hB hS
theorem nodes71 (x : C8) (w0 : World) (h1x : ∀ u ∈ tc x, u.oneCell' = true) : Calls Try.prog 88 #[tv x] w0 fun e w' => ∃ v, e = .returned v ∧ (∃ b1, v = .func (.func 124) #[] #[.pointer (some ⟨b1, 0, none⟩)] ∧ w0.heap.size ≤ b1 ∧ Blk w' b1 27 (tc x)) ∧ Below w0.heap.size w0 w' := by
 have hB := Below.refl w0.heap.size w0
 have sB := hB.size
 refine calls_fs 4 [(0, tv x)] Try.func88 rfl rfl rfl rfl rfl fun a F => ?_
 refine wp_rs fun _ K1 => ?_
 refine s_box (tc x) F (by decide) rfl rfl fun w2 b1 a eb1 m1 B3 zb1 F => ?_
 have sB3 := B3.size
 have hB := bt hB B3
 refine F.sg rfl fun a F => ?_
 refine s_end (K1 _ _ ?_)
 refine wp_rs fun _ K2 => F.vl (x_mkf [_] rfl) fun a F => F.sg rfl fun a F => ?_
 refine s_end (K2 _ _ ?_)
 refine wp_ret (res_slot F rfl rfl ⟨_, rfl, ⟨b1, rfl, by omega, m1⟩, hB⟩)
end Go.Proofs.Ytmkjhdiepkpdoaa

namespace Go.Proofs.Ytmkjhdiepkpdoaa
open Go.RowKit Go.Shelf
set_option linter.unusedVariables false
set_option linter.unusedSimpArgs false
/-! ### Levels: what is sound, and what that is -/
mutual
def parse : Lv → Option SL
 | .mk k n ls => if k = 1 then some (.num n.toNat) else if k = 2 then some (.var n.toNat) else match parses ls with
  | [some a] => some (.succ n.toNat a)
  | [some a, some b] => some (.mx a b)
  | _ => none
def parses : List Lv → List (Option SL)
 | [] => []
 | l :: ls => parse l :: parses ls
end
/-- The sound level that it is. -/
def slO (l : Lv) : Option SL := if sndL l then parse l else none
theorem parse_rs {W : World} : ∀ {s : SL} {x : C3} {l : Lv}, RL W x l → RS W s x → parse l = some s
 | .num m, (k, n, v), _, .mk hR hl hk _, ⟨h1, h2, h3⟩ => by
  simp only at h1 h2; subst h1 h2; simp [parse]
 | .var m, (k, n, v), _, .mk hR hl hk _, ⟨h1, h2, h3⟩ => by
  simp only at h1 h2; subst h1 h2; simp [parse]
 | .succ m a, (k, n, v), _, @RL.mk _ _ _ _ xs ls hR hl hk _, ⟨h1, h2, y, h3, h4⟩ => by
  simp only at h1 h2 h3; subst h1 h2
  obtain ⟨e1, e2⟩ := hR.inj h3
  obtain ⟨z, rfl⟩ : ∃ z, xs = [z] := List.length_eq_one_iff.1 e1
  obtain ⟨l, rfl⟩ : ∃ l, ls = [l] := List.length_eq_one_iff.1 (hl ▸ e1)
  have e3 : z = y := lc_inj (by simpa using e2)
  subst e3
  have := parse_rs (hk 0 z l rfl rfl) h4
  simp [parse, parses, this]
 | .mx a b, (k, n, v), _, @RL.mk _ _ _ _ xs ls hR hl hk _, ⟨h1, y, z, h3, h4, h5⟩ => by
  simp only at h1 h3; subst h1
  obtain ⟨e1, e2⟩ := hR.inj h3
  obtain ⟨y', z', rfl⟩ := len2 e1
  obtain ⟨la, lb, rfl⟩ := len2 (hl ▸ e1)
  have e2 : lc y' ++ lc z' = lc y ++ lc z := by simpa using e2
  obtain ⟨e3, e4⟩ := List.append_inj e2 rfl
  have e3 := lc_inj e3
  have e4 := lc_inj e4
  subst e3 e4
  have h6 := parse_rs (hk 0 y' la rfl rfl) h4
  have h7 := parse_rs (hk 1 z' lb rfl rfl) h5
  simp [parse, parses, h6, h7]
theorem slO_of {W : World} {x : C3} {l : Lv} {s : SL} (hL : RL W x l) (hs : RS W s x) (hg : s.good) : slO l = some s := by
 unfold slO
 rw [if_pos (rs_snd hL hs hg), parse_rs hL hs]
theorem slO_some {W : World} {x : C3} {l : Lv} {s : SL} (hL : RL W x l) (h : slO l = some s) : sndL l ∧ RS W s x ∧ s.good := by
 unfold slO at h
 split at h
 ·
  next hs =>
  obtain ⟨t, h1, h2⟩ := sound_sl hL hs
  rw [parse_rs hL h1] at h
  cases h
  exact ⟨hs, h1, h2⟩
 ·
  cases h
/-- A sound one lies where the level lies. -/
theorem RSn.of {W : World} {A : Nat → Prop} : ∀ {s : SL} {x : C3} {l : Lv}, RLn W A x l → RS W s x → RSn W A s x
 | .num m, (k, n, v), _, .mk hR hl hk _, h => h
 | .var m, (k, n, v), _, .mk hR hl hk _, h => h
 | .succ m a, (k, n, v), _, @RLn.mk _ _ _ _ _ xs ls hR hl hk _, ⟨h1, h2, y, h3, h4⟩ => by
  obtain ⟨e1, e2⟩ := hR.1.inj h3
  obtain ⟨z, rfl⟩ : ∃ z, xs = [z] := List.length_eq_one_iff.1 e1
  obtain ⟨l, rfl⟩ : ∃ l, ls = [l] := List.length_eq_one_iff.1 (hl ▸ e1)
  have e3 : z = y := lc_inj (by simpa using e2)
  subst e3
  exact ⟨h1, h2, z, h3, fun j hj => hR.2 (by simp) j hj, RSn.of (hk 0 z l rfl rfl) h4⟩
 | .mx a b, (k, n, v), _, @RLn.mk _ _ _ _ _ xs ls hR hl hk _, ⟨h1, y, z, h3, h4, h5⟩ => by
  obtain ⟨e1, e2⟩ := hR.1.inj h3
  obtain ⟨y', z', rfl⟩ := len2 e1
  obtain ⟨la, lb, rfl⟩ := len2 (hl ▸ e1)
  have e2 : lc y' ++ lc z' = lc y ++ lc z := by simpa using e2
  obtain ⟨e3, e4⟩ := List.append_inj e2 rfl
  have e3 := lc_inj e3
  have e4 := lc_inj e4
  subst e3 e4
  exact ⟨h1, y', z', h3, fun j hj => hR.2 (by simp) j hj, RSn.of (hk 0 y' la rfl rfl) h4, RSn.of (hk 1 z' lb rfl rfl) h5⟩
/-- A sound one, as one of whatever form, where it lies. -/
theorem RSn.rln {W : World} {A : Nat → Prop} : ∀ {s : SL} {x : C3}, RSn W A s x → ∃ l, RLn W A x l
 | .num m, (k, n, v), ⟨h1, h2, h3⟩ => ⟨.mk k n [], .mk (xs := []) ⟨h3, fun h => by simp at h⟩ rfl (fun i x l h => by simp at h)⟩
 | .var m, (k, n, v), ⟨h1, h2, h3⟩ => ⟨.mk k n [], .mk (xs := []) ⟨h3, fun h => by simp at h⟩ rfl (fun i x l h => by simp at h)⟩
 | .succ m a, (k, n, v), ⟨h1, h2, y, h3, ha, h4⟩ => by
  obtain ⟨l, g1⟩ := RSn.rln h4
  refine ⟨.mk k n [l], .mk (xs := [y]) ⟨by simpa using h3, fun _ b hb => ha b hb⟩ rfl (fun i x l' e1 e2 => ?_)⟩
  cases i
  ·
   simp at e1 e2; subst e1 e2; exact g1
  ·
   simp at e1
 | .mx a b, (k, n, v), ⟨h1, y, z, h3, ha, h4, h5⟩ => by
  obtain ⟨la, g1⟩ := RSn.rln h4
  obtain ⟨lb, g3⟩ := RSn.rln h5
  refine ⟨.mk k n [la, lb], .mk (xs := [y, z]) ⟨by simpa using h3, fun _ b hb => ha b hb⟩ rfl (fun i x l' e1 e2 => ?_)⟩
  rcases i with _ | _ | i
  ·
   simp at e1 e2; subst e1 e2; exact g1
  ·
   simp at e1 e2; subst e1 e2; exact g3
  ·
   simp at e1
/-- x reads as a level that says o. -/
def RO (W : World) (A : Nat → Prop) (o : Option SL) (x : C3) : Prop := ∃ l, RLn W A x l ∧ slO l = o
theorem RO.of {W : World} {A : Nat → Prop} {s : SL} {x : C3} (h : RSn W A s x) (hg : s.good) : RO W A (some s) x := by
 obtain ⟨l, hl⟩ := h.rln
 exact ⟨l, hl, slO_of hl.rl h.rs hg⟩
/-! ### Copies of levels -/
mutual
def cpy : Lv → Lv
 | .mk k n ls => if k = 1 ∨ k = 2 ∨ k = 3 then .mk k n (cpys ls) else if k = 4 then .mk 4 0 (cpys ls) else .mk k 0 []
def cpys : List Lv → List Lv
 | [] => []
 | l :: ls => cpy l :: cpys ls
end
theorem cpys_len : ∀ ls : List Lv, (cpys ls).length = ls.length
 | [] => rfl
 | l :: ls => by simp [cpys, cpys_len ls]
theorem nodeE_n4 {D top vars d n m : Int} {r : Nat} {len : Nat} : nodeE D top vars d r 4 n len = nodeE D top vars d r 4 m len := by simp [nodeE, numB]
theorem nodeE_odd {D top vars d n m : Int} {r : Nat} {k : Int} {len len' : Nat} (h : ¬ (k = 1 ∨ k = 2 ∨ k = 3) ∧ k ≠ 4) : nodeE D top vars d r k n len = nodeE D top vars d r k m len' ∧ nodeE D top vars d r k n len ≠ 0 := by
 have e : ∀ l, kidsB k l = false := by intro l; simp [kidsB]; omega
 simp only [nodeE, e, true_or, if_true]
 refine ⟨trivial, ?_⟩
 split <;> simp
mutual
theorem chk_cpy (D top vars : Int) (d : Int) (r : Nat) : ∀ l, chk D top vars d r (cpy l) = chk D top vars d r l
 | .mk k n ls => by
  unfold cpy
  split
  ·
   unfold chk
   rw [cpys_len, chks_cpy D top vars (d + 1) (r - 1) ls]
  ·
   next h1 =>
   split
   ·
    next h2 =>
    subst h2
    unfold chk
    rw [cpys_len, chks_cpy D top vars (d + 1) (r - 1) ls, nodeE_n4 (n := 0) (m := n)]
   ·
    next h2 =>
    obtain ⟨e1, e2⟩ := nodeE_odd (D := D) (top := top) (vars := vars) (d := d) (n := n) (m := 0) (r := r) (k := k) (len := ls.length) (len' := 0) ⟨h1, h2⟩
    unfold chk
    rw [List.length_nil, ← e1, if_pos e2, if_pos e2]
theorem chks_cpy (D top vars : Int) (d : Int) (r : Nat) : ∀ ls, chks D top vars d r (cpys ls) = chks D top vars d r ls
 | [] => rfl
 | l :: ls => by
  unfold cpys chks
  rw [chk_cpy D top vars d r l, chks_cpy D top vars d _ ls]
end
theorem snd_cpy (l : Lv) : sndL (cpy l) ↔ sndL l := by unfold sndL; rw [chk_cpy]
theorem parse_cpy {W : World} {A : Nat → Prop} : ∀ {s : SL} {x : C3} {l : Lv}, RL W x l → RS W s x → parse (cpy l) = some s
 | .num m, (k, n, v), _, .mk hR hl hk _, ⟨h1, h2, h3⟩ => by
  simp only at h1 h2; subst h1 h2; simp [parse, cpy]
 | .var m, (k, n, v), _, .mk hR hl hk _, ⟨h1, h2, h3⟩ => by
  simp only at h1 h2; subst h1 h2; simp [parse, cpy]
 | .succ m a, (k, n, v), _, @RL.mk _ _ _ _ xs ls hR hl hk _, ⟨h1, h2, y, h3, h4⟩ => by
  simp only at h1 h2 h3; subst h1 h2
  obtain ⟨e1, e2⟩ := hR.inj h3
  obtain ⟨z, rfl⟩ : ∃ z, xs = [z] := List.length_eq_one_iff.1 e1
  obtain ⟨l, rfl⟩ : ∃ l, ls = [l] := List.length_eq_one_iff.1 (hl ▸ e1)
  have e3 : z = y := lc_inj (by simpa using e2)
  subst e3
  have := parse_cpy (A := A) (hk 0 z l rfl rfl) h4
  simp [parse, parses, cpy, cpys, this]
 | .mx a b, (k, n, v), _, @RL.mk _ _ _ _ xs ls hR hl hk _, ⟨h1, y, z, h3, h4, h5⟩ => by
  simp only at h1 h3; subst h1
  obtain ⟨e1, e2⟩ := hR.inj h3
  obtain ⟨y', z', rfl⟩ := len2 e1
  obtain ⟨la, lb, rfl⟩ := len2 (hl ▸ e1)
  have e2 : lc y' ++ lc z' = lc y ++ lc z := by simpa using e2
  obtain ⟨e3, e4⟩ := List.append_inj e2 rfl
  have e3 := lc_inj e3
  have e4 := lc_inj e4
  subst e3 e4
  have h6 := parse_cpy (A := A) (hk 0 y' la rfl rfl) h4
  have h7 := parse_cpy (A := A) (hk 1 z' lb rfl rfl) h5
  simp [parse, parses, cpy, cpys, h6, h7]
theorem slO_cpy {W : World} {x : C3} {l : Lv} (hL : RL W x l) : slO (cpy l) = slO l := by
 by_cases h : sndL l
 ·
  obtain ⟨s, h1, h2⟩ := sound_sl hL h
  rw [slO_of hL h1 h2]
  unfold slO
  rw [if_pos ((snd_cpy l).2 h), parse_cpy (A := fun _ => True) hL h1]
 ·
  unfold slO
  rw [if_neg h, if_neg (fun h' => h ((snd_cpy l).1 h'))]
/-! ### Terms -/
inductive PT where
 | var (n : Int)
 | sort (o : Option SL)
 | cst (s : ByteArray) (os : List (Option SL))
 | odd (k : Int)
 | two (k : Int) (a b : PT)
 | lt (a b c : PT)
def CT.ess : CT → PT
 | .var n _ => .var n
 | .sort l _ => .sort (slO l)
 | .cst s ls _ => .cst s (ls.map slO)
 | .odd k _ => .odd k
 | .two k a b _ => .two k a.ess b.ess
 | .lt a b c _ => .lt a.ess b.ess c.ess
def PT.size : PT → Nat
 | .two _ a b => a.size + b.size + 1
 | .lt a b c => a.size + b.size + c.size + 1
 | _ => 1
def PT.dep : PT → Nat
 | .two _ a b => max a.dep b.dep + 1
 | .lt a b c => max a.dep (max b.dep c.dep) + 1
 | _ => 1
def PT.kids : PT → List PT
 | .two _ a b => [a, b]
 | .lt a b c => [a, b, c]
 | _ => []
/-- x reads as a term that says p. -/
def RE (W : World) (A : Nat → Prop) (p : PT) (x : C8) : Prop := ∃ c, RC W A c x ∧ c.ess = p
section
variable {W W' : World} {A B : Nat → Prop} {p : PT} {x : C8}
theorem RE.keep (hs : W.heap.size ≤ W'.heap.size) (hk : ∀ k, A k → k < W.heap.size → W'.heap[k]? = W.heap[k]?) (h : RE W A p x) : RE W' A p x := let ⟨c, h1, h2⟩ := h; ⟨c, h1.keep hs hk, h2⟩
theorem RE.mono (hAB : ∀ k, A k → B k) (h : RE W A p x) : RE W B p x := let ⟨c, h1, h2⟩ := h; ⟨c, h1.mono hAB, h2⟩
theorem RE.below (h : RE W A p x) (hB : Below W.heap.size W W') : RE W' A p x := h.keep hB.size (fun k _ hk => hB.block k hk)
theorem RE.only {b : Nat} (h : RE W A p x) (o : Only b W W') (hb : ¬ A b) : RE W' A p x := h.keep (Nat.le_of_eq o.size.symm) (fun k ha _ => o.block k (fun e => hb (e ▸ ha)))
theorem RE.k2 {a b : Nat} (h : RE W A p x) (hK : Ktw a b W W') (ha : ¬ A a) (hb : ¬ A b) : RE W' A p x := h.keep hK.size (fun k hA hk => hK.block k hk ⟨fun e => ha (e ▸ hA), fun e => hb (e ▸ hA)⟩)
theorem RE.one (h : RE W A p x) : ∀ u ∈ tc x, u.oneCell' = true := let ⟨_, h1, _⟩ := h; h1.one
end
/-! ### Folds -/
section
variable {α : Type}
def CT.fold (G : CT → Int → List α → α) : CT → Int → α
 | .two k a b m, d => G (.two k a b m) d [a.fold G (d + (CT.two k a b m).bnd 0), b.fold G (d + (CT.two k a b m).bnd 1)]
 | .lt a b c m, d => G (.lt a b c m) d [a.fold G (d + (CT.lt a b c m).bnd 0), b.fold G (d + (CT.lt a b c m).bnd 1), c.fold G (d + (CT.lt a b c m).bnd 2)]
 | .var n m, d => G (.var n m) d []
 | .sort l m, d => G (.sort l m) d []
 | .cst s ls m, d => G (.cst s ls m) d []
 | .odd k m, d => G (.odd k m) d []
/-- What is made of the kids. -/
def CT.folds (G : CT → Int → List α → α) (c : CT) (d : Int) : List α := c.kids.mapIdx fun i k => k.fold G (d + c.bnd i)
end
end Go.Proofs.Ytmkjhdiepkpdoaa

namespace Go.Proofs.Ytmkjhdiepkpdoaa
open Go.RowKit Go.Shelf
set_option linter.unusedVariables false
set_option linter.unusedSimpArgs false
section
variable {P : Program} {n d : Nat} {l : List (Nat × Value)} {w : World} {a : Act} {ops : Array Oper} {Q : Exit → Act → World → Prop} {rest : List Oper} {ty : TypeId} {pos : String} {af : Array Edge} {x y : Operand}
end
theorem put_len {α : Type} {cs vs : List α} {o : Nat} (h : o + vs.length ≤ cs.length) : (cs.take o ++ vs ++ cs.drop (o + vs.length)).length = cs.length := by
 simp; omega
section
variable {W : World} {A : Nat → Prop}
theorem RLn.valid {x : C3} {l : Lv} (h : RLn W A x l) : RLn W (fun k => A k ∧ k < W.heap.size) x l := by
 induction h with
 | mk hR hl hk hbd9 ih => exact .mk hR.lt hl ih hbd9
theorem RVn.valid {v : Value} {ls : List Lv} : RVn W A v ls → RVn W (fun k => A k ∧ k < W.heap.size) v ls := fun ⟨xs, h1, h2, h3⟩ => ⟨xs, h1.lt, h2, fun i x l e1 e2 => (h3 i x l e1 e2).valid⟩
theorem Ok.valid {x : C8} : Ok W A x → Ok W (fun k => A k ∧ k < W.heap.size) x := fun ⟨⟨l, h1⟩, ls, h2⟩ => ⟨⟨l, h1.valid⟩, ls, h2.valid⟩
theorem RC.valid : ∀ {c : CT} {x : C8}, RC W A c x → RC W (fun k => A k ∧ k < W.heap.size) c x
 | .var .., x, ⟨h1, h2, h3, ⟨cs, h4⟩, h5⟩ => ⟨h1, h2, h3, ⟨cs, h4.lt⟩, h5.valid⟩
 | .sort .., x, ⟨h1, h2, ⟨cs, h4⟩, h5⟩ => ⟨h1, h2.valid, ⟨cs, h4.lt⟩, h5.valid⟩
 | .cst .., x, ⟨h1, h2, h3, ⟨cs, h4⟩, h5⟩ => ⟨h1, h2, h3.valid, ⟨cs, h4.lt⟩, h5.valid⟩
 | .odd .., x, ⟨h1, h2, ⟨cs, h4⟩, h5⟩ => ⟨h1, h2, ⟨cs, h4.lt⟩, h5.valid⟩
 | .two .., x, ⟨h1, h2, ⟨y, z, cs, h3, h4, h5⟩, h6⟩ => ⟨h1, h2, ⟨y, z, cs, h3.lt, RC.valid h4, RC.valid h5⟩, h6.valid⟩
 | .lt .., x, ⟨h1, ⟨y, z, u, cs, h3, h4, h5, h7⟩, h6⟩ => ⟨h1, ⟨y, z, u, cs, h3.lt, RC.valid h4, RC.valid h5, RC.valid h7⟩, h6.valid⟩
theorem RE.valid {p : PT} {x : C8} (h : RE W A p x) : RE W (fun k => A k ∧ k < W.heap.size) p x := let ⟨c, h1, h2⟩ := h; ⟨c, h1.valid, h2⟩
end
/-- What is left of a room. -/
def Room (W : World) (br : Nat) : Prop := ∃ r : Int, Blk W br 102 [.int .i64 r] ∧ 0 ≤ r ∧ r ≤ 2147483647
theorem Room.below {W W' : World} {br : Nat} (h : Room W br) (hB : Below W.heap.size W W') : Room W' br := let ⟨r, h1, h2⟩ := h; ⟨r, h1.old hB, h2⟩
theorem Room.only {W W' : World} {br b : Nat} (h : Room W br) (hO : Only b W W') (hb : br ≠ b) : Room W' br := let ⟨r, h1, h2⟩ := h; ⟨r, h1.only hO hb, h2⟩
theorem Room.lt {W : World} {br : Nat} (h : Room W br) : br < W.heap.size := let ⟨_, h1, _⟩ := h; h1.lt
/-- Where what is handed in lies, and what has come about since a block. -/
def Ar (lo br s : Nat) : Nat → Prop := fun k => k ≠ br ∧ (k < lo ∨ s ≤ k)
def Ai (lo br : Nat) : Nat → Prop := fun k => k ≠ br ∧ k < lo
theorem Ar.mono {lo br s s' : Nat} (h : s' ≤ s) : ∀ k, Ar lo br s k → Ar lo br s' k := fun k ⟨h1, h2⟩ => ⟨h1, by omega⟩
theorem Ar.no {lo br s b : Nat} (h : lo ≤ b ∧ b < s) : ¬ Ar lo br s b := fun h' => by have := h'.2; omega
theorem Ai.no {lo br b : Nat} (h : lo ≤ b) : ¬ Ai lo br b := fun h' => by have := h'.2; omega
/-- What was handed in, and what has come about since a block. -/
def AS (A : Nat → Prop) (s : Nat) : Nat → Prop := fun k => A k ∨ s ≤ k
theorem AS.mono {A : Nat → Prop} {s s' : Nat} (h : s' ≤ s) : ∀ k, AS A s k → AS A s' k := fun k hk => hk.elim .inl (fun h' => .inr (by omega))
/-- A slice of terms that say ps. -/
def RKE (W : World) (A : Nat → Prop) (v : Value) (ps : List PT) : Prop := ∃ xs : List C8, Rn W A v 8 xs.length (xs.flatMap tc) ∧ xs.length = ps.length ∧ ∀ (i : Nat) x p, xs[i]? = some x → ps[i]? = some p → RE W A p x
section
variable {W W' : World} {A B : Nat → Prop} {v : Value} {ps : List PT}
theorem RKE.keep (hs : W.heap.size ≤ W'.heap.size) (hk : ∀ k, A k → k < W.heap.size → W'.heap[k]? = W.heap[k]?) : RKE W A v ps → RKE W' A v ps :=
 fun ⟨xs, h1, h2, h3⟩ => ⟨xs, h1.keep hs hk, h2, fun i x c e1 e2 => (h3 i x c e1 e2).keep hs hk⟩
theorem RKE.mono (hAB : ∀ k, A k → B k) : RKE W A v ps → RKE W B v ps := fun ⟨xs, h1, h2, h3⟩ => ⟨xs, h1.mono hAB, h2, fun i x c e1 e2 => (h3 i x c e1 e2).mono hAB⟩
theorem RKE.below (h : RKE W A v ps) (hB : Below W.heap.size W W') : RKE W' A v ps := h.keep hB.size (fun k _ hk => hB.block k hk)
theorem RKE.only {b : Nat} (h : RKE W A v ps) (o : Only b W W') (hb : ¬ A b) : RKE W' A v ps := h.keep (Nat.le_of_eq o.size.symm) (fun k ha _ => o.block k (fun e => hb (e ▸ ha)))
theorem RKE.k2 {a b : Nat} (h : RKE W A v ps) (hK : Ktw a b W W') (ha : ¬ A a) (hb : ¬ A b) : RKE W' A v ps := h.keep hK.size (fun k hA hk => hK.block k hk ⟨fun e => ha (e ▸ hA), fun e => hb (e ▸ hA)⟩)
theorem RKE.nil (W : World) (A : Nat → Prop) : RKE W A nilS [] := ⟨[], Rn.nil W A 8, rfl, fun i x c h => by simp at h⟩
theorem RKE.form (h : RKE W A v ps) : ∃ a c, v = .slice a ps.length c ∧ ps.length ≤ c ∧ (a = none → c = 0) := by
 obtain ⟨xs, h1, h2, _⟩ := h
 rw [← h2]
 exact h1.1.form
theorem RKE.one (h : RKE W A v ps) : v.oneCell' = true := by
 obtain ⟨a, c, rfl, _⟩ := h.form
 rfl
end
/-- The first of the cells read as terms that say ps. -/
def MkT (W : World) (A : Nat → Prop) (cs : List Value) (ps : List PT) : Prop := ∃ ys : List C8, cs.take (ps.length * 8) = ys.flatMap tc ∧ ys.length = ps.length ∧ ∀ (j : Nat) y p, ys[j]? = some y → ps[j]? = some p → RE W A p y
section
variable {W W' : World} {A B : Nat → Prop} {cs : List Value} {ps : List PT}
theorem MkT.start (W : World) (A : Nat → Prop) (cs : List Value) : MkT W A cs [] := ⟨[], by simp, rfl, fun j y p h => by simp at h⟩
theorem MkT.valid : MkT W A cs ps → MkT W (fun k => A k ∧ k < W.heap.size) cs ps := fun ⟨xs, h1, h2, h3⟩ => ⟨xs, h1, h2, fun i x c e1 e2 => (h3 i x c e1 e2).valid⟩
theorem MkT.mono (hAB : ∀ k, A k → B k) : MkT W A cs ps → MkT W B cs ps := fun ⟨xs, h1, h2, h3⟩ => ⟨xs, h1, h2, fun i x c e1 e2 => (h3 i x c e1 e2).mono hAB⟩
theorem MkT.keep (hs : W.heap.size ≤ W'.heap.size) (hk : ∀ k, A k → k < W.heap.size → W'.heap[k]? = W.heap[k]?) : MkT W A cs ps → MkT W' A cs ps :=
 fun ⟨xs, h1, h2, h3⟩ => ⟨xs, h1, h2, fun i x c e1 e2 => (h3 i x c e1 e2).keep hs hk⟩
theorem MkT.below (h : MkT W A cs ps) (hB : Below W.heap.size W W') : MkT W' A cs ps := h.keep hB.size (fun k _ hk => hB.block k hk)
theorem MkT.only {b : Nat} (h : MkT W A cs ps) (o : Only b W W') (hb : ¬ A b) : MkT W' A cs ps := h.keep (Nat.le_of_eq o.size.symm) (fun k ha _ => o.block k (fun e => hb (e ▸ ha)))
theorem MkT.k2 {a b : Nat} (h : MkT W A cs ps) (hK : Ktw a b W W') (ha : ¬ A a) (hb : ¬ A b) : MkT W' A cs ps := h.keep hK.size (fun k hA hk => hK.block k hk ⟨fun e => ha (e ▸ hA), fun e => hb (e ▸ hA)⟩)
end
end Go.Proofs.Ytmkjhdiepkpdoaa

namespace Go.Proofs.Ytmkjhdiepkpdoaa
open Go.RowKit Go.Shelf
set_option linter.unusedVariables false
set_option linter.unusedSimpArgs false
/-- Its kids' list holds just so many. -/
def Tn (n : Nat) (y : C8) : Prop := ∃ a cp, y.ts = .slice a n cp
def Tt (c : CT) (y : C8) : Prop := 0 < c.kids.length → Tn c.kids.length y
theorem take_snoc {α : Type} {l : List α} {i : Nat} {p : α} (h : l[i]? = some p) : l.take (i + 1) = l.take i ++ [p] := by
 rw [List.take_add_one, h]; rfl
end Go.Proofs.Ytmkjhdiepkpdoaa

namespace Go.Proofs.Ytmkjhdiepkpdoaa
open Go.RowKit Go.Shelf
set_option linter.unusedVariables false
set_option linter.unusedSimpArgs false
def enc2 (p : Int × Int) : List Value := [.int .i64 p.1, .int .i64 p.2]
def enc1 (z : Int) : List Value := [.int .i64 z]
end Go.Proofs.Ytmkjhdiepkpdoaa
