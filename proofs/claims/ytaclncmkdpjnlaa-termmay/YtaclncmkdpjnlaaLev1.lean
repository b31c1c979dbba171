/- Num, Var, sum, hasKids, hasNumber, arity, join, succ. -/
import Derived.Test.YtaclncmkdpjnlaaLevB
namespace Go.Proofs.Ytaclncmkdpjnlaa
open Go.RowKit Go.Shelf
set_option linter.unusedVariables false
set_option linter.unusedSimpArgs false

def arI (k : Int) : Int := if k = 1 ∨ k = 2 then 0 else if k = 3 then 1 else if k = 4 then 2 else -1

set_option maxRecDepth 100000 in
set_option maxHeartbeats 1600000 in
theorem arity58 (k : Int) (w0 : World) : Calls Try.prog 119 #[.int .i64 k] w0 fun e w' => e = .returned (.int .i64 (arI k)) ∧ w' = w0 := by
  refine calls_fs 11 [(0, .int .i64 k)] Try.func119 rfl rfl rfl rfl rfl fun a hF => ?_
  rcases (show k = 1 ∨ k = 2 ∨ k = 3 ∨ k = 4 ∨ (k ≠ 1 ∧ k ≠ 2 ∧ k ≠ 3 ∧ k ≠ 4) by omega) with hk | hk | hk | hk | hk
  · skip
    refine wp_rs fun K2 hK2 => ?_
    refine s_val hF (x_assign rfl) (by decide) fun a hF => ?_
    refine s_end (hK2 _ _ ?_)
    refine wp_seq_k fun K3 hK3 => ?_
    refine wp_rs fun K4 hK4 => ?_
    refine s_val hF (x_move rfl) (by decide) fun a hF => ?_
    refine s_end (hK4 _ _ ?_)
    refine wp_block ?_
    refine wp_seq_k fun K5 hK5 => ?_
    refine wp_rs fun K6 hK6 => ?_
    refine s_val hF (x_eql (b := true) (decide_eq_true (by omega)) rfl rfl) (by decide) fun a hF => ?_
    refine s_val hF (x_assign rfl) (by decide) fun a hF => ?_
    refine s_end (hK6 _ _ ?_)
    refine wp_if hF rfl ?_
    refine wp_skip (hK5 _ _ ?_)
    refine wp_if hF rfl ?_
    refine wp_rs fun K7 hK7 => ?_
    refine s_val hF (x_assign rfl) (by decide) fun a hF => ?_
    refine s_end (hK7 _ _ ?_)
    refine wp_ret (inb_ret (then_ret (res_slot hF rfl rfl ⟨by simp [arI, hk], rfl⟩)))
  · skip
    refine wp_rs fun K8 hK8 => ?_
    refine s_val hF (x_assign rfl) (by decide) fun a hF => ?_
    refine s_end (hK8 _ _ ?_)
    refine wp_seq_k fun K9 hK9 => ?_
    refine wp_rs fun K10 hK10 => ?_
    refine s_val hF (x_move rfl) (by decide) fun a hF => ?_
    refine s_end (hK10 _ _ ?_)
    refine wp_block ?_
    refine wp_seq_k fun K11 hK11 => ?_
    refine wp_rs fun K12 hK12 => ?_
    refine s_val hF (x_eql (b := false) (decide_eq_false (by omega)) rfl rfl) (by decide) fun a hF => ?_
    refine s_val hF (x_assign rfl) (by decide) fun a hF => ?_
    refine s_end (hK12 _ _ ?_)
    refine wp_if hF rfl ?_
    refine wp_region_lit ?_
    refine s_val hF (x_eql (b := true) (decide_eq_true (by omega)) rfl rfl) (by decide) fun a hF => ?_
    refine s_val hF (x_assign rfl) (by decide) fun a hF => ?_
    refine s_end (hK11 _ _ ?_)
    refine wp_if hF rfl ?_
    refine wp_rs fun K13 hK13 => ?_
    refine s_val hF (x_assign rfl) (by decide) fun a hF => ?_
    refine s_end (hK13 _ _ ?_)
    refine wp_ret (inb_ret (then_ret (res_slot hF rfl rfl ⟨by simp [arI, hk], rfl⟩)))
  · skip
    refine wp_rs fun K14 hK14 => ?_
    refine s_val hF (x_assign rfl) (by decide) fun a hF => ?_
    refine s_end (hK14 _ _ ?_)
    refine wp_seq_k fun K15 hK15 => ?_
    refine wp_rs fun K16 hK16 => ?_
    refine s_val hF (x_move rfl) (by decide) fun a hF => ?_
    refine s_end (hK16 _ _ ?_)
    refine wp_block ?_
    refine wp_seq_k fun K17 hK17 => ?_
    refine wp_rs fun K18 hK18 => ?_
    refine s_val hF (x_eql (b := false) (decide_eq_false (by omega)) rfl rfl) (by decide) fun a hF => ?_
    refine s_val hF (x_assign rfl) (by decide) fun a hF => ?_
    refine s_end (hK18 _ _ ?_)
    refine wp_if hF rfl ?_
    refine wp_region_lit ?_
    refine s_val hF (x_eql (b := false) (decide_eq_false (by omega)) rfl rfl) (by decide) fun a hF => ?_
    refine s_val hF (x_assign rfl) (by decide) fun a hF => ?_
    refine s_end (hK17 _ _ ?_)
    refine wp_if hF rfl ?_
    refine wp_rs fun K19 hK19 => ?_
    refine s_val hF (x_eql (b := true) (decide_eq_true (by omega)) rfl rfl) (by decide) fun a hF => ?_
    refine s_val hF (x_assign rfl) (by decide) fun a hF => ?_
    refine s_end (hK19 _ _ ?_)
    refine wp_if hF rfl ?_
    refine wp_rs fun K20 hK20 => ?_
    refine s_val hF (x_assign rfl) (by decide) fun a hF => ?_
    refine s_end (hK20 _ _ ?_)
    refine wp_ret (inb_ret (then_ret (res_slot hF rfl rfl ⟨by simp [arI, hk], rfl⟩)))
  · skip
    refine wp_rs fun K21 hK21 => ?_
    refine s_val hF (x_assign rfl) (by decide) fun a hF => ?_
    refine s_end (hK21 _ _ ?_)
    refine wp_seq_k fun K22 hK22 => ?_
    refine wp_rs fun K23 hK23 => ?_
    refine s_val hF (x_move rfl) (by decide) fun a hF => ?_
    refine s_end (hK23 _ _ ?_)
    refine wp_block ?_
    refine wp_seq_k fun K24 hK24 => ?_
    refine wp_rs fun K25 hK25 => ?_
    refine s_val hF (x_eql (b := false) (decide_eq_false (by omega)) rfl rfl) (by decide) fun a hF => ?_
    refine s_val hF (x_assign rfl) (by decide) fun a hF => ?_
    refine s_end (hK25 _ _ ?_)
    refine wp_if hF rfl ?_
    refine wp_region_lit ?_
    refine s_val hF (x_eql (b := false) (decide_eq_false (by omega)) rfl rfl) (by decide) fun a hF => ?_
    refine s_val hF (x_assign rfl) (by decide) fun a hF => ?_
    refine s_end (hK24 _ _ ?_)
    refine wp_if hF rfl ?_
    refine wp_rs fun K26 hK26 => ?_
    refine s_val hF (x_eql (b := false) (decide_eq_false (by omega)) rfl rfl) (by decide) fun a hF => ?_
    refine s_val hF (x_assign rfl) (by decide) fun a hF => ?_
    refine s_end (hK26 _ _ ?_)
    refine wp_if hF rfl ?_
    refine wp_rs fun K27 hK27 => ?_
    refine s_val hF (x_eql (b := true) (decide_eq_true (by omega)) rfl rfl) (by decide) fun a hF => ?_
    refine s_val hF (x_assign rfl) (by decide) fun a hF => ?_
    refine s_end (hK27 _ _ ?_)
    refine wp_if hF rfl ?_
    refine wp_rs fun K28 hK28 => ?_
    refine s_val hF (x_assign rfl) (by decide) fun a hF => ?_
    refine s_end (hK28 _ _ ?_)
    refine wp_ret (inb_ret (then_ret (res_slot hF rfl rfl ⟨by simp [arI, hk], rfl⟩)))
  · skip
    refine wp_rs fun K29 hK29 => ?_
    refine s_val hF (x_assign rfl) (by decide) fun a hF => ?_
    refine s_end (hK29 _ _ ?_)
    refine wp_seq_k fun K30 hK30 => ?_
    refine wp_rs fun K31 hK31 => ?_
    refine s_val hF (x_move rfl) (by decide) fun a hF => ?_
    refine s_end (hK31 _ _ ?_)
    refine wp_block ?_
    refine wp_seq_k fun K32 hK32 => ?_
    refine wp_rs fun K33 hK33 => ?_
    refine s_val hF (x_eql (b := false) (decide_eq_false (by omega)) rfl rfl) (by decide) fun a hF => ?_
    refine s_val hF (x_assign rfl) (by decide) fun a hF => ?_
    refine s_end (hK33 _ _ ?_)
    refine wp_if hF rfl ?_
    refine wp_region_lit ?_
    refine s_val hF (x_eql (b := false) (decide_eq_false (by omega)) rfl rfl) (by decide) fun a hF => ?_
    refine s_val hF (x_assign rfl) (by decide) fun a hF => ?_
    refine s_end (hK32 _ _ ?_)
    refine wp_if hF rfl ?_
    refine wp_rs fun K34 hK34 => ?_
    refine s_val hF (x_eql (b := false) (decide_eq_false (by omega)) rfl rfl) (by decide) fun a hF => ?_
    refine s_val hF (x_assign rfl) (by decide) fun a hF => ?_
    refine s_end (hK34 _ _ ?_)
    refine wp_if hF rfl ?_
    refine wp_rs fun K35 hK35 => ?_
    refine s_val hF (x_eql (b := false) (decide_eq_false (by omega)) rfl rfl) (by decide) fun a hF => ?_
    refine s_val hF (x_assign rfl) (by decide) fun a hF => ?_
    refine s_end (hK35 _ _ ?_)
    refine wp_if hF rfl ?_
    refine wp_skip (hK30 _ _ ?_)
    refine wp_rs fun K36 hK36 => ?_
    refine s_val hF (x_assign rfl) (by decide) fun a hF => ?_
    refine s_end (hK36 _ _ ?_)
    refine wp_ret (res_slot hF rfl rfl ⟨by simp [arI, hk], rfl⟩)

set_option maxRecDepth 100000 in
set_option maxHeartbeats 1600000 in
theorem hasKids56 (k n : Int) (v : Value) (len : Nat) (cs : List Value) (w0 : World) (hR : Rd w0 v 3 len cs) : Calls Try.prog 132 #[.agg [.int .i64 k, .int .i64 n, v].toArray] w0 fun e w' => e = .returned (.bool (kidsB k len)) ∧ Below w0.heap.size w0 w' := by
  obtain ⟨av, cv, rfl, _⟩ := hR.form
  have hB := Below.refl w0.heap.size w0
  have sB := hB.size
  refine calls_fs 24 [(0, .agg [.int .i64 k, .int .i64 n, .slice av len cv].toArray)] Try.func132 rfl rfl rfl rfl rfl fun a hF => ?_
  rcases (show k = 1 ∨ k = 2 ∨ k = 3 ∨ k = 4 ∨ (k ≠ 1 ∧ k ≠ 2 ∧ k ≠ 3 ∧ k ≠ 4) by omega) with hk | hk | hk | hk | hk
  · skip
    refine wp_rs fun K2 hK2 => ?_
    refine s_box ([.int .i64 k, .int .i64 n, .slice av len cv]) hF (by decide) rfl rfl fun w2 b1 a eb1 m1 B3 zb1 hF => ?_
    have sB3 := B3.size
    have hB := hB.trans (B3.mono hB.size)
    refine s_val hF (x_assign rfl) (by decide) fun a hF => ?_
    refine s_end (hK2 _ _ ?_)
    refine wp_seq_k fun K3 hK3 => ?_
    refine wp_rs fun K4 hK4 => ?_
    refine s_val hF (x_fa0 fa24_0 rfl) (by decide) fun a hF => ?_
    refine s_val hF (x_load rfl (m_load flat3 (m1.cell (j := 0) rfl))) (by decide) fun a hF => ?_
    refine s_end (hK4 _ _ ?_)
    refine wp_block ?_
    refine wp_seq_k fun K5 hK5 => ?_
    refine wp_rs fun K6 hK6 => ?_
    refine s_val hF (x_eql (b := true) (decide_eq_true (by omega)) rfl rfl) (by decide) fun a hF => ?_
    refine s_val hF (x_assign rfl) (by decide) fun a hF => ?_
    refine s_end (hK6 _ _ ?_)
    refine wp_if hF rfl ?_
    refine wp_skip (hK5 _ _ ?_)
    refine wp_if hF rfl ?_
    refine wp_rs fun K7 hK7 => ?_
    refine s_val hF (x_fa0 fa24_2 rfl) (by decide) fun a hF => ?_
    refine s_val hF (x_load rfl (m_load flat22 (m1.cell (j := 2) rfl))) (by decide) fun a hF => ?_
    refine s_val hF (x_len Try.underlying22 rfl) (by decide) fun a hF => ?_
    refine s_val hF (x_eql (b := decide (len = 0)) (decide_eq_decide.2 (by omega)) rfl rfl) (by decide) fun a hF => ?_
    refine s_val hF (x_assign rfl) (by decide) fun a hF => ?_
    refine s_end (hK7 _ _ ?_)
    refine wp_ret (inb_ret (then_ret (res_slot hF rfl rfl ⟨by simp [kidsB, hk], hB⟩)))
  · skip
    refine wp_rs fun K8 hK8 => ?_
    refine s_box ([.int .i64 k, .int .i64 n, .slice av len cv]) hF (by decide) rfl rfl fun w4 b1 a eb1 m1 B5 zb1 hF => ?_
    have sB5 := B5.size
    have hB := hB.trans (B5.mono hB.size)
    refine s_val hF (x_assign rfl) (by decide) fun a hF => ?_
    refine s_end (hK8 _ _ ?_)
    refine wp_seq_k fun K9 hK9 => ?_
    refine wp_rs fun K10 hK10 => ?_
    refine s_val hF (x_fa0 fa24_0 rfl) (by decide) fun a hF => ?_
    refine s_val hF (x_load rfl (m_load flat3 (m1.cell (j := 0) rfl))) (by decide) fun a hF => ?_
    refine s_end (hK10 _ _ ?_)
    refine wp_block ?_
    refine wp_seq_k fun K11 hK11 => ?_
    refine wp_rs fun K12 hK12 => ?_
    refine s_val hF (x_eql (b := false) (decide_eq_false (by omega)) rfl rfl) (by decide) fun a hF => ?_
    refine s_val hF (x_assign rfl) (by decide) fun a hF => ?_
    refine s_end (hK12 _ _ ?_)
    refine wp_if hF rfl ?_
    refine wp_region_lit ?_
    refine s_val hF (x_eql (b := true) (decide_eq_true (by omega)) rfl rfl) (by decide) fun a hF => ?_
    refine s_val hF (x_assign rfl) (by decide) fun a hF => ?_
    refine s_end (hK11 _ _ ?_)
    refine wp_if hF rfl ?_
    refine wp_rs fun K13 hK13 => ?_
    refine s_val hF (x_fa0 fa24_2 rfl) (by decide) fun a hF => ?_
    refine s_val hF (x_load rfl (m_load flat22 (m1.cell (j := 2) rfl))) (by decide) fun a hF => ?_
    refine s_val hF (x_len Try.underlying22 rfl) (by decide) fun a hF => ?_
    refine s_val hF (x_eql (b := decide (len = 0)) (decide_eq_decide.2 (by omega)) rfl rfl) (by decide) fun a hF => ?_
    refine s_val hF (x_assign rfl) (by decide) fun a hF => ?_
    refine s_end (hK13 _ _ ?_)
    refine wp_ret (inb_ret (then_ret (res_slot hF rfl rfl ⟨by simp [kidsB, hk], hB⟩)))
  · skip
    refine wp_rs fun K14 hK14 => ?_
    refine s_box ([.int .i64 k, .int .i64 n, .slice av len cv]) hF (by decide) rfl rfl fun w6 b1 a eb1 m1 B7 zb1 hF => ?_
    have sB7 := B7.size
    have hB := hB.trans (B7.mono hB.size)
    refine s_val hF (x_assign rfl) (by decide) fun a hF => ?_
    refine s_end (hK14 _ _ ?_)
    refine wp_seq_k fun K15 hK15 => ?_
    refine wp_rs fun K16 hK16 => ?_
    refine s_val hF (x_fa0 fa24_0 rfl) (by decide) fun a hF => ?_
    refine s_val hF (x_load rfl (m_load flat3 (m1.cell (j := 0) rfl))) (by decide) fun a hF => ?_
    refine s_end (hK16 _ _ ?_)
    refine wp_block ?_
    refine wp_seq_k fun K17 hK17 => ?_
    refine wp_rs fun K18 hK18 => ?_
    refine s_val hF (x_eql (b := false) (decide_eq_false (by omega)) rfl rfl) (by decide) fun a hF => ?_
    refine s_val hF (x_assign rfl) (by decide) fun a hF => ?_
    refine s_end (hK18 _ _ ?_)
    refine wp_if hF rfl ?_
    refine wp_region_lit ?_
    refine s_val hF (x_eql (b := false) (decide_eq_false (by omega)) rfl rfl) (by decide) fun a hF => ?_
    refine s_val hF (x_assign rfl) (by decide) fun a hF => ?_
    refine s_end (hK17 _ _ ?_)
    refine wp_if hF rfl ?_
    refine wp_rs fun K19 hK19 => ?_
    refine s_val hF (x_eql (b := true) (decide_eq_true (by omega)) rfl rfl) (by decide) fun a hF => ?_
    refine s_val hF (x_assign rfl) (by decide) fun a hF => ?_
    refine s_end (hK19 _ _ ?_)
    refine wp_if hF rfl ?_
    refine wp_rs fun K20 hK20 => ?_
    refine s_val hF (x_fa0 fa24_2 rfl) (by decide) fun a hF => ?_
    refine s_val hF (x_load rfl (m_load flat22 (m1.cell (j := 2) rfl))) (by decide) fun a hF => ?_
    refine s_val hF (x_len Try.underlying22 rfl) (by decide) fun a hF => ?_
    refine s_val hF (x_eql (b := decide (len = 1)) (decide_eq_decide.2 (by omega)) rfl rfl) (by decide) fun a hF => ?_
    refine s_val hF (x_assign rfl) (by decide) fun a hF => ?_
    refine s_end (hK20 _ _ ?_)
    refine wp_ret (inb_ret (then_ret (res_slot hF rfl rfl ⟨by simp [kidsB, hk], hB⟩)))
  · skip
    refine wp_rs fun K21 hK21 => ?_
    refine s_box ([.int .i64 k, .int .i64 n, .slice av len cv]) hF (by decide) rfl rfl fun w8 b1 a eb1 m1 B9 zb1 hF => ?_
    have sB9 := B9.size
    have hB := hB.trans (B9.mono hB.size)
    refine s_val hF (x_assign rfl) (by decide) fun a hF => ?_
    refine s_end (hK21 _ _ ?_)
    refine wp_seq_k fun K22 hK22 => ?_
    refine wp_rs fun K23 hK23 => ?_
    refine s_val hF (x_fa0 fa24_0 rfl) (by decide) fun a hF => ?_
    refine s_val hF (x_load rfl (m_load flat3 (m1.cell (j := 0) rfl))) (by decide) fun a hF => ?_
    refine s_end (hK23 _ _ ?_)
    refine wp_block ?_
    refine wp_seq_k fun K24 hK24 => ?_
    refine wp_rs fun K25 hK25 => ?_
    refine s_val hF (x_eql (b := false) (decide_eq_false (by omega)) rfl rfl) (by decide) fun a hF => ?_
    refine s_val hF (x_assign rfl) (by decide) fun a hF => ?_
    refine s_end (hK25 _ _ ?_)
    refine wp_if hF rfl ?_
    refine wp_region_lit ?_
    refine s_val hF (x_eql (b := false) (decide_eq_false (by omega)) rfl rfl) (by decide) fun a hF => ?_
    refine s_val hF (x_assign rfl) (by decide) fun a hF => ?_
    refine s_end (hK24 _ _ ?_)
    refine wp_if hF rfl ?_
    refine wp_rs fun K26 hK26 => ?_
    refine s_val hF (x_eql (b := false) (decide_eq_false (by omega)) rfl rfl) (by decide) fun a hF => ?_
    refine s_val hF (x_assign rfl) (by decide) fun a hF => ?_
    refine s_end (hK26 _ _ ?_)
    refine wp_if hF rfl ?_
    refine wp_rs fun K27 hK27 => ?_
    refine s_val hF (x_eql (b := true) (decide_eq_true (by omega)) rfl rfl) (by decide) fun a hF => ?_
    refine s_val hF (x_assign rfl) (by decide) fun a hF => ?_
    refine s_end (hK27 _ _ ?_)
    refine wp_if hF rfl ?_
    refine wp_rs fun K28 hK28 => ?_
    refine s_val hF (x_fa0 fa24_2 rfl) (by decide) fun a hF => ?_
    refine s_val hF (x_load rfl (m_load flat22 (m1.cell (j := 2) rfl))) (by decide) fun a hF => ?_
    refine s_val hF (x_len Try.underlying22 rfl) (by decide) fun a hF => ?_
    refine s_val hF (x_eql (b := decide (len = 2)) (decide_eq_decide.2 (by omega)) rfl rfl) (by decide) fun a hF => ?_
    refine s_val hF (x_assign rfl) (by decide) fun a hF => ?_
    refine s_end (hK28 _ _ ?_)
    refine wp_ret (inb_ret (then_ret (res_slot hF rfl rfl ⟨by simp [kidsB, hk], hB⟩)))
  · skip
    refine wp_rs fun K29 hK29 => ?_
    refine s_box ([.int .i64 k, .int .i64 n, .slice av len cv]) hF (by decide) rfl rfl fun w10 b1 a eb1 m1 B11 zb1 hF => ?_
    have sB11 := B11.size
    have hB := hB.trans (B11.mono hB.size)
    refine s_val hF (x_assign rfl) (by decide) fun a hF => ?_
    refine s_end (hK29 _ _ ?_)
    refine wp_seq_k fun K30 hK30 => ?_
    refine wp_rs fun K31 hK31 => ?_
    refine s_val hF (x_fa0 fa24_0 rfl) (by decide) fun a hF => ?_
    refine s_val hF (x_load rfl (m_load flat3 (m1.cell (j := 0) rfl))) (by decide) fun a hF => ?_
    refine s_end (hK31 _ _ ?_)
    refine wp_block ?_
    refine wp_seq_k fun K32 hK32 => ?_
    refine wp_rs fun K33 hK33 => ?_
    refine s_val hF (x_eql (b := false) (decide_eq_false (by omega)) rfl rfl) (by decide) fun a hF => ?_
    refine s_val hF (x_assign rfl) (by decide) fun a hF => ?_
    refine s_end (hK33 _ _ ?_)
    refine wp_if hF rfl ?_
    refine wp_region_lit ?_
    refine s_val hF (x_eql (b := false) (decide_eq_false (by omega)) rfl rfl) (by decide) fun a hF => ?_
    refine s_val hF (x_assign rfl) (by decide) fun a hF => ?_
    refine s_end (hK32 _ _ ?_)
    refine wp_if hF rfl ?_
    refine wp_rs fun K34 hK34 => ?_
    refine s_val hF (x_eql (b := false) (decide_eq_false (by omega)) rfl rfl) (by decide) fun a hF => ?_
    refine s_val hF (x_assign rfl) (by decide) fun a hF => ?_
    refine s_end (hK34 _ _ ?_)
    refine wp_if hF rfl ?_
    refine wp_rs fun K35 hK35 => ?_
    refine s_val hF (x_eql (b := false) (decide_eq_false (by omega)) rfl rfl) (by decide) fun a hF => ?_
    refine s_val hF (x_assign rfl) (by decide) fun a hF => ?_
    refine s_end (hK35 _ _ ?_)
    refine wp_if hF rfl ?_
    refine wp_skip (hK30 _ _ ?_)
    refine wp_rs fun K36 hK36 => ?_
    refine s_val hF (x_assign rfl) (by decide) fun a hF => ?_
    refine s_end (hK36 _ _ ?_)
    refine wp_ret (res_slot hF rfl rfl ⟨by simp [kidsB, hk], hB⟩)

set_option maxRecDepth 100000 in
set_option maxHeartbeats 1600000 in
theorem hasNumber57 (k n top : Int) (v : Value) (w0 : World) : Calls Try.prog 133 #[.agg [.int .i64 k, .int .i64 n, v].toArray, .int .i64 top] w0 fun e w' => e = .returned (.bool (numB top k n)) ∧ Below w0.heap.size w0 w' := by
  have hB := Below.refl w0.heap.size w0
  have sB := hB.size
  refine calls_fs 29 [(0, .agg [.int .i64 k, .int .i64 n, v].toArray), (1, .int .i64 top)] Try.func133 rfl rfl rfl rfl rfl fun a hF => ?_
  rcases (show (k = 1 ∧ n < 0) ∨ (k = 1 ∧ 0 ≤ n ∧ n ≤ top) ∨ (k = 1 ∧ 0 ≤ n ∧ top < n) ∨ (k = 3 ∧ n < 1) ∨ (k = 3 ∧ 1 ≤ n ∧ n ≤ top) ∨ (k = 3 ∧ 1 ≤ n ∧ top < n) ∨ (k ≠ 1 ∧ k ≠ 3) by omega) with hk | hk | hk | hk | hk | hk | hk
  · skip
    refine wp_rs fun K2 hK2 => ?_
    refine s_box ([.int .i64 k, .int .i64 n, v]) hF (by decide) rfl rfl fun w2 b2 a eb2 m2 B3 zb2 hF => ?_
    have sB3 := B3.size
    have hB := hB.trans (B3.mono hB.size)
    refine s_val hF (x_assign rfl) (by decide) fun a hF => ?_
    refine s_end (hK2 _ _ ?_)
    refine wp_seq_k fun K3 hK3 => ?_
    refine wp_rs fun K4 hK4 => ?_
    refine s_val hF (x_fa0 fa24_0 rfl) (by decide) fun a hF => ?_
    refine s_val hF (x_load rfl (m_load flat3 (m2.cell (j := 0) rfl))) (by decide) fun a hF => ?_
    refine s_end (hK4 _ _ ?_)
    refine wp_block ?_
    refine wp_rs fun K5 hK5 => ?_
    refine s_val hF (x_eql (b := true) (decide_eq_true (by omega)) rfl rfl) (by decide) fun a hF => ?_
    refine s_val hF (x_assign rfl) (by decide) fun a hF => ?_
    refine s_end (hK5 _ _ ?_)
    refine wp_if hF rfl ?_
    refine wp_rs fun K6 hK6 => ?_
    refine s_val hF (x_fa0 fa24_1 rfl) (by decide) fun a hF => ?_
    refine s_val hF (x_load rfl (m_load flat3 (m2.cell (j := 1) rfl))) (by decide) fun a hF => ?_
    refine s_val hF (x_leq (b := false) (decide_eq_false (by omega)) rfl rfl) (by decide) fun a hF => ?_
    refine s_val hF (x_move rfl) (by decide) fun a hF => ?_
    refine s_grdn 12 hF rfl rfl (by decide) fun a hF => ?_
    refine s_grdn 12 hF rfl rfl (by decide) fun a hF => ?_
    refine s_grdn 12 hF rfl rfl (by decide) fun a hF => ?_
    refine s_grdn 12 hF rfl rfl (by decide) fun a hF => ?_
    refine s_val hF (x_pick (b := false) rfl rfl) (by decide) fun a hF => ?_
    refine s_val hF (x_assign rfl) (by decide) fun a hF => ?_
    refine s_end (hK6 _ _ ?_)
    refine wp_ret (inb_ret (then_ret (res_slot hF rfl rfl ⟨by rw [show numB top k n = false from Bool.eq_false_iff.2 (fun h => by have := numB_iff.1 h; omega)], hB⟩)))
  · skip
    refine wp_rs fun K7 hK7 => ?_
    refine s_box ([.int .i64 k, .int .i64 n, v]) hF (by decide) rfl rfl fun w4 b2 a eb2 m2 B5 zb2 hF => ?_
    have sB5 := B5.size
    have hB := hB.trans (B5.mono hB.size)
    refine s_val hF (x_assign rfl) (by decide) fun a hF => ?_
    refine s_end (hK7 _ _ ?_)
    refine wp_seq_k fun K8 hK8 => ?_
    refine wp_rs fun K9 hK9 => ?_
    refine s_val hF (x_fa0 fa24_0 rfl) (by decide) fun a hF => ?_
    refine s_val hF (x_load rfl (m_load flat3 (m2.cell (j := 0) rfl))) (by decide) fun a hF => ?_
    refine s_end (hK9 _ _ ?_)
    refine wp_block ?_
    refine wp_rs fun K10 hK10 => ?_
    refine s_val hF (x_eql (b := true) (decide_eq_true (by omega)) rfl rfl) (by decide) fun a hF => ?_
    refine s_val hF (x_assign rfl) (by decide) fun a hF => ?_
    refine s_end (hK10 _ _ ?_)
    refine wp_if hF rfl ?_
    refine wp_rs fun K11 hK11 => ?_
    refine s_val hF (x_fa0 fa24_1 rfl) (by decide) fun a hF => ?_
    refine s_val hF (x_load rfl (m_load flat3 (m2.cell (j := 1) rfl))) (by decide) fun a hF => ?_
    refine s_val hF (x_leq (b := true) (decide_eq_true (by omega)) rfl rfl) (by decide) fun a hF => ?_
    refine s_val hF (x_move rfl) (by decide) fun a hF => ?_
    refine s_grd 12 hF rfl rfl rfl ?_
    refine s_val hF (x_fa0 fa24_1 rfl) (by decide) fun a hF => ?_
    refine s_grd 12 hF rfl rfl rfl ?_
    refine s_val hF (x_load rfl (m_load flat3 (m2.cell (j := 1) rfl))) (by decide) fun a hF => ?_
    refine s_grd 12 hF rfl rfl rfl ?_
    refine s_val hF (x_move rfl) (by decide) fun a hF => ?_
    refine s_grd 12 hF rfl rfl rfl ?_
    refine s_val hF (x_leq (b := true) (decide_eq_true (by omega)) rfl rfl) (by decide) fun a hF => ?_
    refine s_val hF (x_pick (b := true) rfl rfl) (by decide) fun a hF => ?_
    refine s_val hF (x_assign rfl) (by decide) fun a hF => ?_
    refine s_end (hK11 _ _ ?_)
    refine wp_ret (inb_ret (then_ret (res_slot hF rfl rfl ⟨by rw [show numB top k n = true from numB_iff.2 (by omega)], hB⟩)))
  · skip
    refine wp_rs fun K12 hK12 => ?_
    refine s_box ([.int .i64 k, .int .i64 n, v]) hF (by decide) rfl rfl fun w6 b2 a eb2 m2 B7 zb2 hF => ?_
    have sB7 := B7.size
    have hB := hB.trans (B7.mono hB.size)
    refine s_val hF (x_assign rfl) (by decide) fun a hF => ?_
    refine s_end (hK12 _ _ ?_)
    refine wp_seq_k fun K13 hK13 => ?_
    refine wp_rs fun K14 hK14 => ?_
    refine s_val hF (x_fa0 fa24_0 rfl) (by decide) fun a hF => ?_
    refine s_val hF (x_load rfl (m_load flat3 (m2.cell (j := 0) rfl))) (by decide) fun a hF => ?_
    refine s_end (hK14 _ _ ?_)
    refine wp_block ?_
    refine wp_rs fun K15 hK15 => ?_
    refine s_val hF (x_eql (b := true) (decide_eq_true (by omega)) rfl rfl) (by decide) fun a hF => ?_
    refine s_val hF (x_assign rfl) (by decide) fun a hF => ?_
    refine s_end (hK15 _ _ ?_)
    refine wp_if hF rfl ?_
    refine wp_rs fun K16 hK16 => ?_
    refine s_val hF (x_fa0 fa24_1 rfl) (by decide) fun a hF => ?_
    refine s_val hF (x_load rfl (m_load flat3 (m2.cell (j := 1) rfl))) (by decide) fun a hF => ?_
    refine s_val hF (x_leq (b := true) (decide_eq_true (by omega)) rfl rfl) (by decide) fun a hF => ?_
    refine s_val hF (x_move rfl) (by decide) fun a hF => ?_
    refine s_grd 12 hF rfl rfl rfl ?_
    refine s_val hF (x_fa0 fa24_1 rfl) (by decide) fun a hF => ?_
    refine s_grd 12 hF rfl rfl rfl ?_
    refine s_val hF (x_load rfl (m_load flat3 (m2.cell (j := 1) rfl))) (by decide) fun a hF => ?_
    refine s_grd 12 hF rfl rfl rfl ?_
    refine s_val hF (x_move rfl) (by decide) fun a hF => ?_
    refine s_grd 12 hF rfl rfl rfl ?_
    refine s_val hF (x_leq (b := false) (decide_eq_false (by omega)) rfl rfl) (by decide) fun a hF => ?_
    refine s_val hF (x_pick (b := true) rfl rfl) (by decide) fun a hF => ?_
    refine s_val hF (x_assign rfl) (by decide) fun a hF => ?_
    refine s_end (hK16 _ _ ?_)
    refine wp_ret (inb_ret (then_ret (res_slot hF rfl rfl ⟨by rw [show numB top k n = false from Bool.eq_false_iff.2 (fun h => by have := numB_iff.1 h; omega)], hB⟩)))
  · skip
    refine wp_rs fun K17 hK17 => ?_
    refine s_box ([.int .i64 k, .int .i64 n, v]) hF (by decide) rfl rfl fun w8 b2 a eb2 m2 B9 zb2 hF => ?_
    have sB9 := B9.size
    have hB := hB.trans (B9.mono hB.size)
    refine s_val hF (x_assign rfl) (by decide) fun a hF => ?_
    refine s_end (hK17 _ _ ?_)
    refine wp_seq_k fun K18 hK18 => ?_
    refine wp_rs fun K19 hK19 => ?_
    refine s_val hF (x_fa0 fa24_0 rfl) (by decide) fun a hF => ?_
    refine s_val hF (x_load rfl (m_load flat3 (m2.cell (j := 0) rfl))) (by decide) fun a hF => ?_
    refine s_end (hK19 _ _ ?_)
    refine wp_block ?_
    refine wp_rs fun K20 hK20 => ?_
    refine s_val hF (x_eql (b := false) (decide_eq_false (by omega)) rfl rfl) (by decide) fun a hF => ?_
    refine s_val hF (x_assign rfl) (by decide) fun a hF => ?_
    refine s_end (hK20 _ _ ?_)
    refine wp_if hF rfl ?_
    refine wp_rs fun K21 hK21 => ?_
    refine s_val hF (x_eql (b := true) (decide_eq_true (by omega)) rfl rfl) (by decide) fun a hF => ?_
    refine s_val hF (x_assign rfl) (by decide) fun a hF => ?_
    refine s_end (hK21 _ _ ?_)
    refine wp_if hF rfl ?_
    refine wp_rs fun K22 hK22 => ?_
    refine s_val hF (x_fa0 fa24_1 rfl) (by decide) fun a hF => ?_
    refine s_val hF (x_load rfl (m_load flat3 (m2.cell (j := 1) rfl))) (by decide) fun a hF => ?_
    refine s_val hF (x_leq (b := false) (decide_eq_false (by omega)) rfl rfl) (by decide) fun a hF => ?_
    refine s_val hF (x_move rfl) (by decide) fun a hF => ?_
    refine s_grdn 23 hF rfl rfl (by decide) fun a hF => ?_
    refine s_grdn 23 hF rfl rfl (by decide) fun a hF => ?_
    refine s_grdn 23 hF rfl rfl (by decide) fun a hF => ?_
    refine s_grdn 23 hF rfl rfl (by decide) fun a hF => ?_
    refine s_val hF (x_pick (b := false) rfl rfl) (by decide) fun a hF => ?_
    refine s_val hF (x_assign rfl) (by decide) fun a hF => ?_
    refine s_end (hK22 _ _ ?_)
    refine wp_ret (inb_ret (then_ret (res_slot hF rfl rfl ⟨by rw [show numB top k n = false from Bool.eq_false_iff.2 (fun h => by have := numB_iff.1 h; omega)], hB⟩)))
  · skip
    refine wp_rs fun K23 hK23 => ?_
    refine s_box ([.int .i64 k, .int .i64 n, v]) hF (by decide) rfl rfl fun w10 b2 a eb2 m2 B11 zb2 hF => ?_
    have sB11 := B11.size
    have hB := hB.trans (B11.mono hB.size)
    refine s_val hF (x_assign rfl) (by decide) fun a hF => ?_
    refine s_end (hK23 _ _ ?_)
    refine wp_seq_k fun K24 hK24 => ?_
    refine wp_rs fun K25 hK25 => ?_
    refine s_val hF (x_fa0 fa24_0 rfl) (by decide) fun a hF => ?_
    refine s_val hF (x_load rfl (m_load flat3 (m2.cell (j := 0) rfl))) (by decide) fun a hF => ?_
    refine s_end (hK25 _ _ ?_)
    refine wp_block ?_
    refine wp_rs fun K26 hK26 => ?_
    refine s_val hF (x_eql (b := false) (decide_eq_false (by omega)) rfl rfl) (by decide) fun a hF => ?_
    refine s_val hF (x_assign rfl) (by decide) fun a hF => ?_
    refine s_end (hK26 _ _ ?_)
    refine wp_if hF rfl ?_
    refine wp_rs fun K27 hK27 => ?_
    refine s_val hF (x_eql (b := true) (decide_eq_true (by omega)) rfl rfl) (by decide) fun a hF => ?_
    refine s_val hF (x_assign rfl) (by decide) fun a hF => ?_
    refine s_end (hK27 _ _ ?_)
    refine wp_if hF rfl ?_
    refine wp_rs fun K28 hK28 => ?_
    refine s_val hF (x_fa0 fa24_1 rfl) (by decide) fun a hF => ?_
    refine s_val hF (x_load rfl (m_load flat3 (m2.cell (j := 1) rfl))) (by decide) fun a hF => ?_
    refine s_val hF (x_leq (b := true) (decide_eq_true (by omega)) rfl rfl) (by decide) fun a hF => ?_
    refine s_val hF (x_move rfl) (by decide) fun a hF => ?_
    refine s_grd 23 hF rfl rfl rfl ?_
    refine s_val hF (x_fa0 fa24_1 rfl) (by decide) fun a hF => ?_
    refine s_grd 23 hF rfl rfl rfl ?_
    refine s_val hF (x_load rfl (m_load flat3 (m2.cell (j := 1) rfl))) (by decide) fun a hF => ?_
    refine s_grd 23 hF rfl rfl rfl ?_
    refine s_val hF (x_move rfl) (by decide) fun a hF => ?_
    refine s_grd 23 hF rfl rfl rfl ?_
    refine s_val hF (x_leq (b := true) (decide_eq_true (by omega)) rfl rfl) (by decide) fun a hF => ?_
    refine s_val hF (x_pick (b := true) rfl rfl) (by decide) fun a hF => ?_
    refine s_val hF (x_assign rfl) (by decide) fun a hF => ?_
    refine s_end (hK28 _ _ ?_)
    refine wp_ret (inb_ret (then_ret (res_slot hF rfl rfl ⟨by rw [show numB top k n = true from numB_iff.2 (by omega)], hB⟩)))
  · skip
    refine wp_rs fun K29 hK29 => ?_
    refine s_box ([.int .i64 k, .int .i64 n, v]) hF (by decide) rfl rfl fun w12 b2 a eb2 m2 B13 zb2 hF => ?_
    have sB13 := B13.size
    have hB := hB.trans (B13.mono hB.size)
    refine s_val hF (x_assign rfl) (by decide) fun a hF => ?_
    refine s_end (hK29 _ _ ?_)
    refine wp_seq_k fun K30 hK30 => ?_
    refine wp_rs fun K31 hK31 => ?_
    refine s_val hF (x_fa0 fa24_0 rfl) (by decide) fun a hF => ?_
    refine s_val hF (x_load rfl (m_load flat3 (m2.cell (j := 0) rfl))) (by decide) fun a hF => ?_
    refine s_end (hK31 _ _ ?_)
    refine wp_block ?_
    refine wp_rs fun K32 hK32 => ?_
    refine s_val hF (x_eql (b := false) (decide_eq_false (by omega)) rfl rfl) (by decide) fun a hF => ?_
    refine s_val hF (x_assign rfl) (by decide) fun a hF => ?_
    refine s_end (hK32 _ _ ?_)
    refine wp_if hF rfl ?_
    refine wp_rs fun K33 hK33 => ?_
    refine s_val hF (x_eql (b := true) (decide_eq_true (by omega)) rfl rfl) (by decide) fun a hF => ?_
    refine s_val hF (x_assign rfl) (by decide) fun a hF => ?_
    refine s_end (hK33 _ _ ?_)
    refine wp_if hF rfl ?_
    refine wp_rs fun K34 hK34 => ?_
    refine s_val hF (x_fa0 fa24_1 rfl) (by decide) fun a hF => ?_
    refine s_val hF (x_load rfl (m_load flat3 (m2.cell (j := 1) rfl))) (by decide) fun a hF => ?_
    refine s_val hF (x_leq (b := true) (decide_eq_true (by omega)) rfl rfl) (by decide) fun a hF => ?_
    refine s_val hF (x_move rfl) (by decide) fun a hF => ?_
    refine s_grd 23 hF rfl rfl rfl ?_
    refine s_val hF (x_fa0 fa24_1 rfl) (by decide) fun a hF => ?_
    refine s_grd 23 hF rfl rfl rfl ?_
    refine s_val hF (x_load rfl (m_load flat3 (m2.cell (j := 1) rfl))) (by decide) fun a hF => ?_
    refine s_grd 23 hF rfl rfl rfl ?_
    refine s_val hF (x_move rfl) (by decide) fun a hF => ?_
    refine s_grd 23 hF rfl rfl rfl ?_
    refine s_val hF (x_leq (b := false) (decide_eq_false (by omega)) rfl rfl) (by decide) fun a hF => ?_
    refine s_val hF (x_pick (b := true) rfl rfl) (by decide) fun a hF => ?_
    refine s_val hF (x_assign rfl) (by decide) fun a hF => ?_
    refine s_end (hK34 _ _ ?_)
    refine wp_ret (inb_ret (then_ret (res_slot hF rfl rfl ⟨by rw [show numB top k n = false from Bool.eq_false_iff.2 (fun h => by have := numB_iff.1 h; omega)], hB⟩)))
  · skip
    refine wp_rs fun K35 hK35 => ?_
    refine s_box ([.int .i64 k, .int .i64 n, v]) hF (by decide) rfl rfl fun w14 b2 a eb2 m2 B15 zb2 hF => ?_
    have sB15 := B15.size
    have hB := hB.trans (B15.mono hB.size)
    refine s_val hF (x_assign rfl) (by decide) fun a hF => ?_
    refine s_end (hK35 _ _ ?_)
    refine wp_seq_k fun K36 hK36 => ?_
    refine wp_rs fun K37 hK37 => ?_
    refine s_val hF (x_fa0 fa24_0 rfl) (by decide) fun a hF => ?_
    refine s_val hF (x_load rfl (m_load flat3 (m2.cell (j := 0) rfl))) (by decide) fun a hF => ?_
    refine s_end (hK37 _ _ ?_)
    refine wp_block ?_
    refine wp_rs fun K38 hK38 => ?_
    refine s_val hF (x_eql (b := false) (decide_eq_false (by omega)) rfl rfl) (by decide) fun a hF => ?_
    refine s_val hF (x_assign rfl) (by decide) fun a hF => ?_
    refine s_end (hK38 _ _ ?_)
    refine wp_if hF rfl ?_
    refine wp_rs fun K39 hK39 => ?_
    refine s_val hF (x_eql (b := false) (decide_eq_false (by omega)) rfl rfl) (by decide) fun a hF => ?_
    refine s_val hF (x_assign rfl) (by decide) fun a hF => ?_
    refine s_end (hK39 _ _ ?_)
    refine wp_if hF rfl ?_
    refine wp_skip (hK36 _ _ ?_)
    refine wp_rs fun K40 hK40 => ?_
    refine s_val hF (x_assign rfl) (by decide) fun a hF => ?_
    refine s_end (hK40 _ _ ?_)
    refine wp_ret (res_slot hF rfl rfl ⟨by rw [show numB top k n = true from numB_iff.2 (by omega)], hB⟩)

end Go.Proofs.Ytaclncmkdpjnlaa
