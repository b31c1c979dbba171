/- LevelMay, LevelNorms, LevelOrders, LevelValues. -/
import Derived.Test.YtnnkggfhhkhnmaaLev12
namespace Go.Proofs.Ytnnkggfhhkhnmaa
open Go.RowKit Go.Shelf
set_option linter.unusedVariables false
set_option linter.unusedSimpArgs false

set_option maxRecDepth 100000 in
set_option maxHeartbeats 1600000 in
theorem levelMay_walk (x : C3) (l : Lv) (vars : Int) (w0 : World) (hL : RL w0 x l) : Calls Try.prog 3 #[lv x, .int .i64 vars] w0 fun e w' => e = .returned (.bool true) ∧ Below w0.heap.size w0 w' := by
  have hB := Below.refl w0.heap.size w0
  have sB := hB.size
  refine calls_fs 15 [(0, lv x), (1, .int .i64 vars)] Try.func3 rfl rfl rfl rfl rfl fun a hF => ?_
  refine wp_rs fun K1 hK1 => ?_
  refine s_box (lc x) hF (by decide) rfl rfl fun w2 b2 a eb2 m2 B3 zb2 hF => ?_
  have sB3 := B3.size
  have hB := hB.trans (B3.mono hB.size)
  refine s_val hF (x_assign rfl) (by decide) fun a hF => ?_
  refine s_end (hK1 _ _ ?_)
  refine dk2_seq (w2.heap.size) (w2.heap.size) (ops := regOps Try.f3 1) (N := 11) (by kernel_rfl) wide_orders (by kernel_rfl) fun w4 hw4 B5 hS K2 hK2 => ?_
  have zw4 : w4.heap.size = w2.heap.size := by rw [hw4]
  have sB5 := B5.size
  have hB := hB.trans (B5.mono hB.size)
  have m2 := m2.old B5
  have m2_d := m2
  have hB_d := hB
  refine d_val 0 5 (op := (Go.Op.load 24 (Go.Operand.tmp 2))) hF hS (by kernel_rfl) (fun W hW => x_ldW wide24 (m2_d.k2 hW (by omega)) rfl rfl) (by kernel_rfl) (by decide) fun a hF => ?_
  refine d_val 1 6 (op := (Go.Op.move (Go.Operand.tmp 1))) hF hS (by kernel_rfl) (fun W hW => x_move rfl) (by kernel_rfl) (by decide) fun a hF => ?_
  refine d_val 3 8 (op := (Go.Op.load 24 (Go.Operand.tmp 2))) hF hS (by kernel_rfl) (fun W hW => x_ldW wide24 (m2_d.k2 hW (by omega)) rfl rfl) (by kernel_rfl) (by decide) fun a hF => ?_
  refine d_val 4 9 (op := (Go.Op.move (Go.Operand.tmp 1))) hF hS (by kernel_rfl) (fun W hW => x_move rfl) (by kernel_rfl) (by decide) fun a hF => ?_
  refine d_one 2 (some 7) (Go.Op.call (Go.Call.mk (Go.Callee.value (Go.Operand.func 13)) #[(Go.Operand.tmp 5), (Go.Operand.tmp 6)] #[24, 3])) (by kernel_rfl) (by kernel_rfl) fun ty pos af => ?_
  refine s_callB [_, _] hF (enters_of Try.func13 (by kernel_rfl) rfl) rfl (by decide) (may13 x l vars w4 (hL.old hB)) fun w6 a B7 hF => ?_
  have sB7 := B7.size
  have hB := hB.trans (B7.mono hB.size)
  have m2 := m2.old B7
  have hS := hS.below B7
  refine s_end ⟨hS, ?_⟩
  refine d_one 5 (some 10) (Go.Op.call (Go.Call.mk (Go.Callee.value (Go.Operand.func 14)) #[(Go.Operand.tmp 8), (Go.Operand.tmp 9)] #[24, 3])) (by kernel_rfl) (by kernel_rfl) fun ty pos af => ?_
  refine s_callB [_, _] hF (enters_of Try.func14 (by kernel_rfl) rfl) rfl (by decide) (rmay14 x l vars w6 (hL.old hB)) fun w8 a B9 hF => ?_
  have sB9 := B9.size
  have hB := hB.trans (B9.mono hB.size)
  have m2 := m2.old B9
  have hS := hS.below B9
  refine s_end ⟨hS, ?_⟩
  refine d_val 6 11 (op := (Go.Op.binOp Go.BinOp.eql 25 (Go.Operand.tmp 7) (Go.Operand.tmp 10) 25)) hF hS (by kernel_rfl) (fun W hW => x_eql (b := true) (decide_eq_true rfl) rfl rfl) (by kernel_rfl) (by decide) fun a hF => ?_
  refine d_val 7 12 (op := (Go.Op.move (Go.Operand.tmp 11))) hF hS (by kernel_rfl) (fun W hW => x_move rfl) (by kernel_rfl) (by decide) fun a hF => ?_
  refine d_oneg 8 12 (some 13) (Go.Op.call (Go.Call.mk (Go.Callee.value (Go.Operand.func 15)) #[] #[])) (j := 7) (want := true) hF (by kernel_rfl) (by kernel_rfl) (by kernel_rfl) rfl fun ty pos af => ?_
  refine s_callB [] hF (enters_of Try.func15 (by kernel_rfl) rfl) rfl (by decide) (awake15 w8) fun w10 a B11 hF => ?_
  have sB11 := B11.size
  have hB := hB.trans (B11.mono hB.size)
  have m2 := m2.old B11
  have hS := hS.below B11
  refine s_end ⟨hS, ?_⟩
  refine d_val 9 14 (op := (Go.Op.pick (Go.Operand.tmp 12) (Go.Operand.tmp 13) (Go.Operand.const (Go.Value.bool false)))) hF hS (by kernel_rfl) (fun W hW => x_pick (b := true) rfl rfl) (by kernel_rfl) (by decide) fun a hF => ?_
  refine d_val 10 4 (op := (Go.Op.assign (Go.Operand.tmp 14))) hF hS (by kernel_rfl) (fun W hW => x_assign rfl) (by kernel_rfl) (by decide) fun a hF => ?_
  refine d_end (by kernel_rfl) (hK2 _ _ ?_)
  refine wp_ret (res_slot hF rfl rfl ⟨rfl, hB⟩)

set_option maxRecDepth 100000 in
set_option maxHeartbeats 1600000 in
theorem levelNorms_walk (x : C3) (l : Lv) (w0 : World) (hL : RL w0 x l) : Calls Try.prog 4 #[lv x] w0 fun e w' => e = .returned (.bool true) ∧ Below w0.heap.size w0 w' := by
  have hB := Below.refl w0.heap.size w0
  have sB := hB.size
  refine calls_fs 52 [(0, lv x)] Try.func4 rfl rfl rfl rfl rfl fun a hF => ?_
  refine wp_rs fun K1 hK1 => ?_
  refine s_box (lc x) hF (by decide) rfl rfl fun w2 b1 a eb1 m1 B3 zb1 hF => ?_
  have sB3 := B3.size
  have hB := hB.trans (B3.mono hB.size)
  refine s_val hF (x_assign rfl) (by decide) fun a hF => ?_
  refine s_end (hK1 _ _ ?_)
  rcases (show decide (sndL l) = false ∨ decide (sndL l) = true by cases decide (sndL l) <;> simp) with hd | hd
  · have hn : ¬ sndL l := of_decide_eq_false hd
    refine wp_rs fun K3 hK3 => ?_
    refine s_val hF (x_ldW wide24 m1 rfl rfl) (by decide) fun a hF => ?_
    have hB9 := hB
    refine s_callR (R := fun v w' => ∃ c vk ks, v = .tuple #[.int .i64 c, vk] ∧ FF w2 x l w' c vk ks) [_] hF (enters_of Try.func16 (by kernel_rfl) rfl) rfl (by decide) (norm16 x l w2 (hL.old hB)) ?_
    rintro _ w4 a ⟨c, vk, ks, rfl, hf⟩ B5 hF
    have sB5 := B5.size
    have hB := hB.trans (B5.mono hB.size)
    have m1 := m1.old B5
    have hB1 := Below.refl w4.heap.size w4
    obtain ⟨rfl, rfl⟩ := hf.2.1 hn
    obtain ⟨ak, ck, rfl, _⟩ := hf.1.form
    refine s_val hF (x_move rfl) (by decide) fun a hF => ?_
    refine s_val hF (x_ext rfl rfl) (by decide) fun a hF => ?_
    refine s_val hF (x_ext rfl rfl) (by decide) fun a hF => ?_
    refine s_val hF (x_assign rfl) (by decide) fun a hF => ?_
    refine s_val hF (x_assign rfl) (by decide) fun a hF => ?_
    refine s_end (hK3 _ _ ?_)
    refine wp_seq_k fun K4 hK4 => ?_
    refine wp_rs fun K5 hK5 => ?_
    refine s_val hF (x_ldW wide24 m1 rfl rfl) (by decide) fun a hF => ?_
    refine s_callB [_] hF (enters_of Try.func17 (by kernel_rfl) rfl) rfl (by decide) (rSound17 x l w4 (hL.old hB)) fun w6 a B7 hF => ?_
    have sB7 := B7.size
    have hB := hB.trans (B7.mono hB.size)
    have hB1 := hB1.trans (B7.mono hB1.size)
    have m1 := m1.old B7
    rw [hd] at hF
    refine s_val hF (x_not rfl) (by decide) fun a hF => ?_
    refine s_end (hK5 _ _ ?_)
    refine wp_if hF rfl ?_
    refine wp_rs fun K6 hK6 => ?_
    refine s_val hF (x_move rfl) (by decide) fun a hF => ?_
    refine s_val hF (x_eql (b := true) rfl rfl rfl) (by decide) fun a hF => ?_
    refine s_val hF (x_move rfl) (by decide) fun a hF => ?_
    refine s_grd 16 hF rfl rfl rfl ?_
    refine s_val hF (x_move rfl) (by decide) fun a hF => ?_
    refine s_grd 16 hF rfl rfl rfl ?_
    refine s_val hF (x_len Try.underlying29 rfl) (by decide) fun a hF => ?_
    refine s_grd 16 hF rfl rfl rfl ?_
    refine s_val hF (x_eql (b := true) rfl rfl rfl) (by decide) fun a hF => ?_
    refine s_val hF (x_pick (b := true) rfl rfl) (by decide) fun a hF => ?_
    refine s_val hF (x_move rfl) (by decide) fun a hF => ?_
    refine s_grd 21 hF rfl rfl rfl ?_
    refine s_val hF (x_ldW wide24 m1 rfl rfl) (by decide) fun a hF => ?_
    refine s_grd 21 hF rfl rfl rfl ?_
    refine s_callR (R := fun u w' => ∃ z, u = lv z ∧ (¬ sndL l → z = (0, 0, .slice none 0 0)) ∧ ∀ s, RS w6 s x → s.good → RS w' (levF (nfC s) (nfK s)) z) [_] hF (enters_of Try.func19 (by kernel_rfl) rfl) rfl (by decide) (Reduce19 x l w6 (hL.old hB)) ?_
    rintro _ w8 a ⟨z1, rfl, hzn, hzy⟩ B9 hF
    have sB9 := B9.size
    have hB := hB.trans (B9.mono hB.size)
    have hB1 := hB1.trans (B9.mono hB1.size)
    have m1 := m1.old B9
    obtain rfl := hzn hn
    refine s_grd 21 hF rfl rfl rfl ?_
    refine s_val hF (x_build (vs := []) rfl (b24_ _)) (by decide) fun a hF => ?_
    refine s_grd 21 hF rfl rfl rfl ?_
    refine s_callB [_, _] hF (enters_of Try.func18 (by kernel_rfl) rfl) rfl (by decide) (Same18z w8) fun w10 a B11 hF => ?_
    have sB11 := B11.size
    have hB := hB.trans (B11.mono hB.size)
    have hB1 := hB1.trans (B11.mono hB1.size)
    have m1 := m1.old B11
    refine s_val hF (x_pick (b := true) rfl rfl) (by decide) fun a hF => ?_
    refine s_val hF (x_move rfl) (by decide) fun a hF => ?_
    refine s_grd 27 hF rfl rfl rfl ?_
    refine s_callB [] hF (enters_of Try.func15 (by kernel_rfl) rfl) rfl (by decide) (awake15 w10) fun w12 a B13 hF => ?_
    have sB13 := B13.size
    have hB := hB.trans (B13.mono hB.size)
    have hB1 := hB1.trans (B13.mono hB1.size)
    have m1 := m1.old B13
    refine s_val hF (x_pick (b := true) rfl rfl) (by decide) fun a hF => ?_
    refine s_val hF (x_assign rfl) (by decide) fun a hF => ?_
    refine s_end (hK6 _ _ ?_)
    refine wp_ret (then_ret (res_slot hF rfl rfl ⟨rfl, hB⟩))
  · have hn : sndL l := of_decide_eq_true hd
    obtain ⟨s, hs, hsg⟩ := sound_sl hL hn
    refine wp_rs fun K7 hK7 => ?_
    refine s_val hF (x_ldW wide24 m1 rfl rfl) (by decide) fun a hF => ?_
    have hB9 := hB
    refine s_callR (R := fun v w' => ∃ c vk ks, v = .tuple #[.int .i64 c, vk] ∧ FF w2 x l w' c vk ks) [_] hF (enters_of Try.func16 (by kernel_rfl) rfl) rfl (by decide) (norm16 x l w2 (hL.old hB)) ?_
    rintro _ w14 a ⟨c, vk, ks, rfl, hf⟩ B15 hF
    have sB15 := B15.size
    have hB := hB.trans (B15.mono hB.size)
    have m1 := m1.old B15
    have hB1 := Below.refl w14.heap.size w14
    obtain ⟨rfl, rfl⟩ := hf.2.2 s (RS.below hB9 hs) hsg
    obtain ⟨ak, ck, rfl, _⟩ := hf.1.form
    refine s_val hF (x_move rfl) (by decide) fun a hF => ?_
    refine s_val hF (x_ext rfl rfl) (by decide) fun a hF => ?_
    refine s_val hF (x_ext rfl rfl) (by decide) fun a hF => ?_
    refine s_val hF (x_assign rfl) (by decide) fun a hF => ?_
    refine s_val hF (x_assign rfl) (by decide) fun a hF => ?_
    refine s_end (hK7 _ _ ?_)
    refine wp_seq_k fun K8 hK8 => ?_
    refine wp_rs fun K9 hK9 => ?_
    refine s_val hF (x_ldW wide24 m1 rfl rfl) (by decide) fun a hF => ?_
    refine s_callB [_] hF (enters_of Try.func17 (by kernel_rfl) rfl) rfl (by decide) (rSound17 x l w14 (hL.old hB)) fun w16 a B17 hF => ?_
    have sB17 := B17.size
    have hB := hB.trans (B17.mono hB.size)
    have hB1 := hB1.trans (B17.mono hB1.size)
    have m1 := m1.old B17
    rw [hd] at hF
    refine s_val hF (x_not rfl) (by decide) fun a hF => ?_
    refine s_end (hK9 _ _ ?_)
    refine wp_if hF rfl ?_
    refine wp_skip (hK8 _ _ ?_)
    refine wp_rs fun K10 hK10 => ?_
    refine s_val hF (x_ldW wide24 m1 rfl rfl) (by decide) fun a hF => ?_
    refine s_callR (R := fun u w' => ∃ v', u = .agg [.int .i64 (nfC s), v'].toArray ∧ Rd w' v' 1 (nfK s).length (ints (nfK s)) ∧ ∀ j, v'.ownBlock = some j → w16.heap.size ≤ j) [_] hF (enters_of Try.func20 (by kernel_rfl) rfl) rfl (by decide) (rNorm20 s x w16 (RS.below hB hs) hsg.2.2) ?_
    rintro _ w18 a ⟨v2, rfl, hv2, _⟩ B19 hF
    have sB19 := B19.size
    have hB := hB.trans (B19.mono hB.size)
    have hB1 := hB1.trans (B19.mono hB1.size)
    have m1 := m1.old B19
    have hB2 := Below.refl w18.heap.size w18
    have h1v2 := hv2.one
    refine s_alloc hF (by decide) zero36 fun w20 b5 a eb5 m5 B21 zb5 hF => ?_
    have sB21 := B21.size
    have hB := hB.trans (B21.mono hB.size)
    have hB1 := hB1.trans (B21.mono hB1.size)
    have hB2 := hB2.trans (B21.mono hB2.size)
    have m1 := m1.old B21
    refine s_putW hF rfl rfl (size_wide wide36) m5 rfl (one2 h1v2) fun w22 m5 o23 => ?_
    have so23 := o23.size
    have hB := hB.trans (o23.below (by omega))
    have hB1 := hB1.trans (o23.below (by omega))
    have hB2 := hB2.trans (o23.below (by omega))
    have m1 := m1.only o23 (by omega)
    refine s_end (hK10 _ _ ?_)
    refine dk2_seq (w22.heap.size) (w22.heap.size) (ops := regOps Try.f4 5) (N := 21) (by kernel_rfl) wide_orders (by kernel_rfl) fun w24 hw24 B25 hS K11 hK11 => ?_
    have zw24 : w24.heap.size = w22.heap.size := by rw [hw24]
    have sB25 := B25.size
    have hB := hB.trans (B25.mono hB.size)
    have hB1 := hB1.trans (B25.mono hB1.size)
    have hB2 := hB2.trans (B25.mono hB2.size)
    have m1 := m1.old B25
    have m5 := m5.old B25
    have m1_d := m1
    have m5_d := m5
    have hB_d := hB
    have hB1_d := hB1
    have hB2_d := hB2
    refine d_val 0 32 (op := (Go.Op.move (Go.Operand.tmp 3))) hF hS (by kernel_rfl) (fun W hW => x_move rfl) (by kernel_rfl) (by decide) fun a hF => ?_
    refine d_val 1 33 (op := (Go.Op.fieldAddr 36 (Go.Operand.tmp 5) 0)) hF hS (by kernel_rfl) (fun W hW => x_fa0 fa36_0 rfl) (by kernel_rfl) (by decide) fun a hF => ?_
    refine d_val 2 34 (op := (Go.Op.load 3 (Go.Operand.tmp 33))) hF hS (by kernel_rfl) (fun W hW => x_load rfl (m_load flat3 ((m5_d.k2 hW (by omega)).cell (j := 0) rfl))) (by kernel_rfl) (by decide) fun a hF => ?_
    refine d_val 3 35 (op := (Go.Op.binOp Go.BinOp.eql 3 (Go.Operand.tmp 32) (Go.Operand.tmp 34) 3)) hF hS (by kernel_rfl) (fun W hW => x_eql (b := true) (decide_eq_true rfl) rfl rfl) (by kernel_rfl) (by decide) fun a hF => ?_
    refine d_val 4 36 (op := (Go.Op.move (Go.Operand.tmp 35))) hF hS (by kernel_rfl) (fun W hW => x_move rfl) (by kernel_rfl) (by decide) fun a hF => ?_
    refine d_valg 5 37 36 (j := 4) (want := true) (op := (Go.Op.move (Go.Operand.tmp 4))) hF hS (by kernel_rfl) (by kernel_rfl) rfl (fun W hW => x_move rfl) (by kernel_rfl) (by decide) fun a hF => ?_
    refine d_valg 6 38 36 (j := 4) (want := true) (op := (Go.Op.fieldAddr 36 (Go.Operand.tmp 5) 1)) hF hS (by kernel_rfl) (by kernel_rfl) rfl (fun W hW => x_fa0 fa36_1 rfl) (by kernel_rfl) (by decide) fun a hF => ?_
    refine d_valg 7 39 36 (j := 4) (want := true) (op := (Go.Op.load 29 (Go.Operand.tmp 38))) hF hS (by kernel_rfl) (by kernel_rfl) rfl (fun W hW => x_load rfl (m_load flat29 ((m5_d.k2 hW (by omega)).cell (j := 1) rfl))) (by kernel_rfl) (by decide) fun a hF => ?_
    refine d_oneg 8 36 (some 40) (Go.Op.call (Go.Call.mk (Go.Callee.value (Go.Operand.func 21)) #[(Go.Operand.tmp 37), (Go.Operand.tmp 39)] #[29, 29])) (j := 4) (want := true) hF (by kernel_rfl) (by kernel_rfl) (by kernel_rfl) rfl fun ty pos af => ?_
    refine s_callB [_, _] hF (enters_of Try.func21 (by kernel_rfl) rfl) rfl (by decide) (sameInts21 (nfK s) (nfK s) _ _ w24 (by have := nfK_len s hsg; omega) (hf.1.below hB1) (hv2.below hB2)) fun w26 a B27 hF => ?_
    have sB27 := B27.size
    have hB := hB.trans (B27.mono hB.size)
    have hB1 := hB1.trans (B27.mono hB1.size)
    have hB2 := hB2.trans (B27.mono hB2.size)
    have m1 := m1.old B27
    have m5 := m5.old B27
    have hS := hS.below B27
    rw [decide_eq_true rfl] at hF
    refine s_end ⟨hS, ?_⟩
    refine d_val 9 41 (op := (Go.Op.pick (Go.Operand.tmp 36) (Go.Operand.tmp 40) (Go.Operand.const (Go.Value.bool false)))) hF hS (by kernel_rfl) (fun W hW => x_pick (b := true) rfl rfl) (by kernel_rfl) (by decide) fun a hF => ?_
    refine d_val 10 42 (op := (Go.Op.move (Go.Operand.tmp 41))) hF hS (by kernel_rfl) (fun W hW => x_move rfl) (by kernel_rfl) (by decide) fun a hF => ?_
    refine d_valg 11 43 42 (j := 10) (want := true) (op := (Go.Op.load 24 (Go.Operand.tmp 1))) hF hS (by kernel_rfl) (by kernel_rfl) rfl (fun W hW => x_ldW wide24 (m1_d.k2 hW (by omega)) rfl rfl) (by kernel_rfl) (by decide) fun a hF => ?_
    refine d_valg 13 45 42 (j := 10) (want := true) (op := (Go.Op.load 36 (Go.Operand.tmp 5))) hF hS (by kernel_rfl) (by kernel_rfl) rfl (fun W hW => x_ldW wide36 (m5_d.k2 hW (by omega)) rfl rfl) (by kernel_rfl) (by decide) fun a hF => ?_
    refine d_oneg 12 42 (some 44) (Go.Op.call (Go.Call.mk (Go.Callee.value (Go.Operand.func 19)) #[(Go.Operand.tmp 43)] #[24])) (j := 10) (want := true) hF (by kernel_rfl) (by kernel_rfl) (by kernel_rfl) rfl fun ty pos af => ?_
    have hB8 := hB
    refine s_callR (R := fun u w' => ∃ z, u = lv z ∧ (¬ sndL l → z = (0, 0, .slice none 0 0)) ∧ ∀ s, RS w26 s x → s.good → RS w' (levF (nfC s) (nfK s)) z) [_] hF (enters_of Try.func19 (by kernel_rfl) rfl) rfl (by decide) (Reduce19 x l w26 (hL.old hB)) ?_
    rintro _ w28 a ⟨z1, rfl, hzn, hzy⟩ B29 hF
    have sB29 := B29.size
    have hB := hB.trans (B29.mono hB.size)
    have hB1 := hB1.trans (B29.mono hB1.size)
    have hB2 := hB2.trans (B29.mono hB2.size)
    have m1 := m1.old B29
    have m5 := m5.old B29
    have hS := hS.below B29
    have hz1 := hzy s (RS.below hB8 hs) hsg
    refine s_end ⟨hS, ?_⟩
    refine d_oneg 14 42 (some 46) (Go.Op.call (Go.Call.mk (Go.Callee.value (Go.Operand.func 22)) #[(Go.Operand.tmp 45)] #[36])) (j := 10) (want := true) hF (by kernel_rfl) (by kernel_rfl) (by kernel_rfl) rfl fun ty pos af => ?_
    refine s_callR (R := fun u w' => ∃ z, u = lv z ∧ RSn w' (fun k => w28.heap.size ≤ k) (levF (nfC s) (nfK s)) z) [_] hF (enters_of Try.func22 (by kernel_rfl) rfl) rfl (by decide) (rLevel22 (nfC s) (nfK s) v2 w28 (nfC_nn s) (nfK_len s hsg) (nfK_lo s) (nfK_tm s) (hv2.below hB2)) ?_
    rintro _ w30 a ⟨z2, rfl, hz2⟩ B31 hF
    have sB31 := B31.size
    have hB := hB.trans (B31.mono hB.size)
    have hB1 := hB1.trans (B31.mono hB1.size)
    have hB2 := hB2.trans (B31.mono hB2.size)
    have m1 := m1.old B31
    have m5 := m5.old B31
    have hz1 := RS.below B31 hz1
    have hS := hS.below B31
    refine s_end ⟨hS, ?_⟩
    refine d_oneg 15 42 (some 47) (Go.Op.call (Go.Call.mk (Go.Callee.value (Go.Operand.func 18)) #[(Go.Operand.tmp 44), (Go.Operand.tmp 46)] #[24, 24])) (j := 10) (want := true) hF (by kernel_rfl) (by kernel_rfl) (by kernel_rfl) rfl fun ty pos af => ?_
    refine s_callB [_, _] hF (enters_of Try.func18 (by kernel_rfl) rfl) rfl (by decide) (Same18 _ _ z1 z2 w30 hz1 hz2.rs (by have := levF_size (c := nfC s) (nfK_len s hsg); omega)) fun w32 a B33 hF => ?_
    have sB33 := B33.size
    have hB := hB.trans (B33.mono hB.size)
    have hB1 := hB1.trans (B33.mono hB1.size)
    have hB2 := hB2.trans (B33.mono hB2.size)
    have m1 := m1.old B33
    have m5 := m5.old B33
    have hz1 := RS.below B33 hz1
    have hS := hS.below B33
    rw [decide_eq_true rfl] at hF
    refine s_end ⟨hS, ?_⟩
    refine d_val 16 48 (op := (Go.Op.pick (Go.Operand.tmp 42) (Go.Operand.tmp 47) (Go.Operand.const (Go.Value.bool false)))) hF hS (by kernel_rfl) (fun W hW => x_pick (b := true) rfl rfl) (by kernel_rfl) (by decide) fun a hF => ?_
    refine d_val 17 49 (op := (Go.Op.move (Go.Operand.tmp 48))) hF hS (by kernel_rfl) (fun W hW => x_move rfl) (by kernel_rfl) (by decide) fun a hF => ?_
    refine d_oneg 18 49 (some 50) (Go.Op.call (Go.Call.mk (Go.Callee.value (Go.Operand.func 15)) #[] #[])) (j := 17) (want := true) hF (by kernel_rfl) (by kernel_rfl) (by kernel_rfl) rfl fun ty pos af => ?_
    refine s_callB [] hF (enters_of Try.func15 (by kernel_rfl) rfl) rfl (by decide) (awake15 w32) fun w34 a B35 hF => ?_
    have sB35 := B35.size
    have hB := hB.trans (B35.mono hB.size)
    have hB1 := hB1.trans (B35.mono hB1.size)
    have hB2 := hB2.trans (B35.mono hB2.size)
    have m1 := m1.old B35
    have m5 := m5.old B35
    have hz1 := RS.below B35 hz1
    have hS := hS.below B35
    refine s_end ⟨hS, ?_⟩
    refine d_val 19 51 (op := (Go.Op.pick (Go.Operand.tmp 49) (Go.Operand.tmp 50) (Go.Operand.const (Go.Value.bool false)))) hF hS (by kernel_rfl) (fun W hW => x_pick (b := true) rfl rfl) (by kernel_rfl) (by decide) fun a hF => ?_
    refine d_val 20 2 (op := (Go.Op.assign (Go.Operand.tmp 51))) hF hS (by kernel_rfl) (fun W hW => x_assign rfl) (by kernel_rfl) (by decide) fun a hF => ?_
    refine d_end (by kernel_rfl) (hK11 _ _ ?_)
    refine wp_ret (res_slot hF rfl rfl ⟨rfl, hB⟩)

theorem TB_eq {W0 W1 W2 : World} {x y : C3} {la lb : Lv} {P : SL → SL → Prop} [∀ s t, Decidable (P s t)] {b1 b2 : Bool} (hLa : RL W0 x la) (hLb : RL W0 y lb) (h1 : TB W1 x y la lb P b1) (h2 : TB W2 x y la lb P b2) (B1 : Below W0.heap.size W0 W1) (B2 : Below W0.heap.size W0 W2) : b1 = b2 := by
  by_cases h : sndL la ∧ sndL lb
  · obtain ⟨s, hs, hsg⟩ := sound_sl hLa h.1
    obtain ⟨t, ht, htg⟩ := sound_sl hLb h.2
    rw [h1.2 s t (RS.below B1 hs) (RS.below B1 ht) hsg htg, h2.2 s t (RS.below B2 hs) (RS.below B2 ht) hsg htg]
  · rw [h1.1 h, h2.1 h]

set_option maxRecDepth 100000 in
set_option maxHeartbeats 1600000 in
theorem levelOrders_walk (x y : C3) (la lb : Lv) (w0 : World) (hLa : RL w0 x la) (hLb : RL w0 y lb) : Calls Try.prog 5 #[lv x, lv y] w0 fun e w' => e = .returned (.bool true) ∧ Below w0.heap.size w0 w' := by
  have hB := Below.refl w0.heap.size w0
  have sB := hB.size
  refine calls_fs 24 [(0, lv x), (1, lv y)] Try.func5 rfl rfl rfl rfl rfl fun a hF => ?_
  refine wp_rs fun K1 hK1 => ?_
  refine s_box (lc x) hF (by decide) rfl rfl fun w2 b2 a eb2 m2 B3 zb2 hF => ?_
  have sB3 := B3.size
  have hB := hB.trans (B3.mono hB.size)
  refine s_box (lc y) hF (by decide) rfl rfl fun w4 b3 a eb3 m3 B5 zb3 hF => ?_
  have sB5 := B5.size
  have hB := hB.trans (B5.mono hB.size)
  have m2 := m2.old B5
  refine s_val hF (x_assign rfl) (by decide) fun a hF => ?_
  refine s_end (hK1 _ _ ?_)
  refine dk2_seq (w4.heap.size) (w4.heap.size) (ops := regOps Try.f5 1) (N := 20) (by kernel_rfl) wide_orders (by kernel_rfl) fun w6 hw6 B7 hS K2 hK2 => ?_
  have zw6 : w6.heap.size = w4.heap.size := by rw [hw6]
  have sB7 := B7.size
  have hB := hB.trans (B7.mono hB.size)
  have m2 := m2.old B7
  have m3 := m3.old B7
  have m2_d := m2
  have m3_d := m3
  have hB_d := hB
  refine d_val 0 5 (op := (Go.Op.load 24 (Go.Operand.tmp 2))) hF hS (by kernel_rfl) (fun W hW => x_ldW wide24 (m2_d.k2 hW (by omega)) rfl rfl) (by kernel_rfl) (by decide) fun a hF => ?_
  refine d_val 1 6 (op := (Go.Op.load 24 (Go.Operand.tmp 3))) hF hS (by kernel_rfl) (fun W hW => x_ldW wide24 (m3_d.k2 hW (by omega)) rfl rfl) (by kernel_rfl) (by decide) fun a hF => ?_
  refine d_val 3 8 (op := (Go.Op.load 24 (Go.Operand.tmp 2))) hF hS (by kernel_rfl) (fun W hW => x_ldW wide24 (m2_d.k2 hW (by omega)) rfl rfl) (by kernel_rfl) (by decide) fun a hF => ?_
  refine d_val 4 9 (op := (Go.Op.load 24 (Go.Operand.tmp 3))) hF hS (by kernel_rfl) (fun W hW => x_ldW wide24 (m3_d.k2 hW (by omega)) rfl rfl) (by kernel_rfl) (by decide) fun a hF => ?_
  refine d_one 2 (some 7) (Go.Op.call (Go.Call.mk (Go.Callee.value (Go.Operand.func 23)) #[(Go.Operand.tmp 5), (Go.Operand.tmp 6)] #[24, 24])) (by kernel_rfl) (by kernel_rfl) fun ty pos af => ?_
  have hBt1 := hB
  refine s_callR (R := fun v w' => ∃ b, v = .bool b ∧ TB w6 x y la lb eqF b) [_, _] hF (enters_of Try.func23 (by kernel_rfl) rfl) rfl (by decide) (Equal23 x y la lb w6 (hLa.old hB) (hLb.old hB)) ?_
  rintro _ w8 a ⟨t1, rfl, ht1⟩ B9 hF
  have sB9 := B9.size
  have hB := hB.trans (B9.mono hB.size)
  have m2 := m2.old B9
  have m3 := m3.old B9
  have hS := hS.below B9
  refine s_end ⟨hS, ?_⟩
  refine d_one 5 (some 10) (Go.Op.call (Go.Call.mk (Go.Callee.value (Go.Operand.func 24)) #[(Go.Operand.tmp 8), (Go.Operand.tmp 9)] #[24, 24])) (by kernel_rfl) (by kernel_rfl) fun ty pos af => ?_
  have hBt2 := hB
  refine s_callR (R := fun v w' => ∃ b, v = .bool b ∧ TB w8 x y la lb eqF b) [_, _] hF (enters_of Try.func24 (by kernel_rfl) rfl) rfl (by decide) (rEqual24 x y la lb w8 (hLa.old hB) (hLb.old hB)) ?_
  rintro _ w10 a ⟨t2, rfl, ht2⟩ B11 hF
  have sB11 := B11.size
  have hB := hB.trans (B11.mono hB.size)
  have m2 := m2.old B11
  have m3 := m3.old B11
  have hS := hS.below B11
  obtain rfl : t1 = t2 := TB_eq hLa hLb ht1 ht2 hBt1 hBt2
  refine s_end ⟨hS, ?_⟩
  refine d_val 6 11 (op := (Go.Op.binOp Go.BinOp.eql 4 (Go.Operand.tmp 7) (Go.Operand.tmp 10) 4)) hF hS (by kernel_rfl) (fun W hW => x_eqB (b := true) Try.underlying4 (beq_self_eq_true _) rfl rfl) (by kernel_rfl) (by decide) fun a hF => ?_
  refine d_val 7 12 (op := (Go.Op.move (Go.Operand.tmp 11))) hF hS (by kernel_rfl) (fun W hW => x_move rfl) (by kernel_rfl) (by decide) fun a hF => ?_
  refine d_valg 8 13 12 (j := 7) (want := true) (op := (Go.Op.load 24 (Go.Operand.tmp 2))) hF hS (by kernel_rfl) (by kernel_rfl) rfl (fun W hW => x_ldW wide24 (m2_d.k2 hW (by omega)) rfl rfl) (by kernel_rfl) (by decide) fun a hF => ?_
  refine d_valg 9 14 12 (j := 7) (want := true) (op := (Go.Op.load 24 (Go.Operand.tmp 3))) hF hS (by kernel_rfl) (by kernel_rfl) rfl (fun W hW => x_ldW wide24 (m3_d.k2 hW (by omega)) rfl rfl) (by kernel_rfl) (by decide) fun a hF => ?_
  refine d_valg 11 16 12 (j := 7) (want := true) (op := (Go.Op.load 24 (Go.Operand.tmp 2))) hF hS (by kernel_rfl) (by kernel_rfl) rfl (fun W hW => x_ldW wide24 (m2_d.k2 hW (by omega)) rfl rfl) (by kernel_rfl) (by decide) fun a hF => ?_
  refine d_valg 12 17 12 (j := 7) (want := true) (op := (Go.Op.load 24 (Go.Operand.tmp 3))) hF hS (by kernel_rfl) (by kernel_rfl) rfl (fun W hW => x_ldW wide24 (m3_d.k2 hW (by omega)) rfl rfl) (by kernel_rfl) (by decide) fun a hF => ?_
  refine d_oneg 10 12 (some 15) (Go.Op.call (Go.Call.mk (Go.Callee.value (Go.Operand.func 25)) #[(Go.Operand.tmp 13), (Go.Operand.tmp 14)] #[24, 24])) (j := 7) (want := true) hF (by kernel_rfl) (by kernel_rfl) (by kernel_rfl) rfl fun ty pos af => ?_
  have hBt3 := hB
  refine s_callR (R := fun v w' => ∃ b, v = .bool b ∧ TB w10 x y la lb leS b) [_, _] hF (enters_of Try.func25 (by kernel_rfl) rfl) rfl (by decide) (Leq25 x y la lb w10 (hLa.old hB) (hLb.old hB)) ?_
  rintro _ w12 a ⟨t3, rfl, ht3⟩ B13 hF
  have sB13 := B13.size
  have hB := hB.trans (B13.mono hB.size)
  have m2 := m2.old B13
  have m3 := m3.old B13
  have hS := hS.below B13
  refine s_end ⟨hS, ?_⟩
  refine d_oneg 13 12 (some 18) (Go.Op.call (Go.Call.mk (Go.Callee.value (Go.Operand.func 26)) #[(Go.Operand.tmp 16), (Go.Operand.tmp 17)] #[24, 24])) (j := 7) (want := true) hF (by kernel_rfl) (by kernel_rfl) (by kernel_rfl) rfl fun ty pos af => ?_
  have hBt4 := hB
  refine s_callR (R := fun v w' => ∃ b, v = .bool b ∧ TB w12 x y la lb leS b) [_, _] hF (enters_of Try.func26 (by kernel_rfl) rfl) rfl (by decide) (rLeq26 x y la lb w12 (hLa.old hB) (hLb.old hB)) ?_
  rintro _ w14 a ⟨t4, rfl, ht4⟩ B15 hF
  have sB15 := B15.size
  have hB := hB.trans (B15.mono hB.size)
  have m2 := m2.old B15
  have m3 := m3.old B15
  have hS := hS.below B15
  obtain rfl : t3 = t4 := TB_eq hLa hLb ht3 ht4 hBt3 hBt4
  refine s_end ⟨hS, ?_⟩
  refine d_valg 14 19 12 (j := 7) (want := true) (op := (Go.Op.binOp Go.BinOp.eql 4 (Go.Operand.tmp 15) (Go.Operand.tmp 18) 4)) hF hS (by kernel_rfl) (by kernel_rfl) rfl (fun W hW => x_eqB (b := true) Try.underlying4 (beq_self_eq_true _) rfl rfl) (by kernel_rfl) (by decide) fun a hF => ?_
  refine d_val 15 20 (op := (Go.Op.pick (Go.Operand.tmp 12) (Go.Operand.tmp 19) (Go.Operand.const (Go.Value.bool false)))) hF hS (by kernel_rfl) (fun W hW => x_pick (b := true) rfl rfl) (by kernel_rfl) (by decide) fun a hF => ?_
  refine d_val 16 21 (op := (Go.Op.move (Go.Operand.tmp 20))) hF hS (by kernel_rfl) (fun W hW => x_move rfl) (by kernel_rfl) (by decide) fun a hF => ?_
  refine d_oneg 17 21 (some 22) (Go.Op.call (Go.Call.mk (Go.Callee.value (Go.Operand.func 15)) #[] #[])) (j := 16) (want := true) hF (by kernel_rfl) (by kernel_rfl) (by kernel_rfl) rfl fun ty pos af => ?_
  refine s_callB [] hF (enters_of Try.func15 (by kernel_rfl) rfl) rfl (by decide) (awake15 w14) fun w16 a B17 hF => ?_
  have sB17 := B17.size
  have hB := hB.trans (B17.mono hB.size)
  have m2 := m2.old B17
  have m3 := m3.old B17
  have hS := hS.below B17
  refine s_end ⟨hS, ?_⟩
  refine d_val 18 23 (op := (Go.Op.pick (Go.Operand.tmp 21) (Go.Operand.tmp 22) (Go.Operand.const (Go.Value.bool false)))) hF hS (by kernel_rfl) (fun W hW => x_pick (b := true) rfl rfl) (by kernel_rfl) (by decide) fun a hF => ?_
  refine d_val 19 4 (op := (Go.Op.assign (Go.Operand.tmp 23))) hF hS (by kernel_rfl) (fun W hW => x_assign rfl) (by kernel_rfl) (by decide) fun a hF => ?_
  refine d_end (by kernel_rfl) (hK2 _ _ ?_)
  refine wp_ret (res_slot hF rfl rfl ⟨rfl, hB⟩)

set_option maxRecDepth 100000 in
set_option maxHeartbeats 1600000 in
theorem levelValues_walk (x : C3) (l : Lv) (vs : List Int) (vv : Value) (w0 : World) (hL : RL w0 x l) (hV : Rd w0 vv 1 vs.length (ints vs)) (hvl : vs.length ≤ 9223372036854775807) : Calls Try.prog 7 #[lv x, vv] w0 fun e w' => e = .returned (.bool true) ∧ Below w0.heap.size w0 w' := by
  have hB := Below.refl w0.heap.size w0
  have sB := hB.size
  refine calls_fs 15 [(0, lv x), (1, vv)] Try.func7 rfl rfl rfl rfl rfl fun a hF => ?_
  refine wp_rs fun K1 hK1 => ?_
  refine s_box (lc x) hF (by decide) rfl rfl fun w2 b2 a eb2 m2 B3 zb2 hF => ?_
  have sB3 := B3.size
  have hB := hB.trans (B3.mono hB.size)
  refine s_val hF (x_assign rfl) (by decide) fun a hF => ?_
  refine s_end (hK1 _ _ ?_)
  refine dk2_seq (w2.heap.size) (w2.heap.size) (ops := regOps Try.f7 1) (N := 11) (by kernel_rfl) wide_orders (by kernel_rfl) fun w4 hw4 B5 hS K2 hK2 => ?_
  have zw4 : w4.heap.size = w2.heap.size := by rw [hw4]
  have sB5 := B5.size
  have hB := hB.trans (B5.mono hB.size)
  have m2 := m2.old B5
  have m2_d := m2
  have hB_d := hB
  refine d_val 0 5 (op := (Go.Op.load 24 (Go.Operand.tmp 2))) hF hS (by kernel_rfl) (fun W hW => x_ldW wide24 (m2_d.k2 hW (by omega)) rfl rfl) (by kernel_rfl) (by decide) fun a hF => ?_
  refine d_val 1 6 (op := (Go.Op.move (Go.Operand.tmp 1))) hF hS (by kernel_rfl) (fun W hW => x_move rfl) (by kernel_rfl) (by decide) fun a hF => ?_
  refine d_val 3 8 (op := (Go.Op.load 24 (Go.Operand.tmp 2))) hF hS (by kernel_rfl) (fun W hW => x_ldW wide24 (m2_d.k2 hW (by omega)) rfl rfl) (by kernel_rfl) (by decide) fun a hF => ?_
  refine d_val 4 9 (op := (Go.Op.move (Go.Operand.tmp 1))) hF hS (by kernel_rfl) (fun W hW => x_move rfl) (by kernel_rfl) (by decide) fun a hF => ?_
  refine d_one 2 (some 7) (Go.Op.call (Go.Call.mk (Go.Callee.value (Go.Operand.func 29)) #[(Go.Operand.tmp 5), (Go.Operand.tmp 6)] #[24, 29])) (by kernel_rfl) (by kernel_rfl) fun ty pos af => ?_
  have hBt1 := hB
  refine s_callR (R := fun v w' => ∃ z, v = .int .i64 z ∧ (¬ sndL l → z = 0) ∧ ∀ s, RS w4 s x → s.good → z = val s (rho vs)) [_, _] hF (enters_of Try.func29 (by kernel_rfl) rfl) rfl (by decide) (Value29 vs vv hvl x l w4 (hL.old hB) (hV.below hB)) ?_
  rintro _ w6 a ⟨t1, rfl, hn1, hy1⟩ B7 hF
  have sB7 := B7.size
  have hB := hB.trans (B7.mono hB.size)
  have m2 := m2.old B7
  have hS := hS.below B7
  refine s_end ⟨hS, ?_⟩
  refine d_one 5 (some 10) (Go.Op.call (Go.Call.mk (Go.Callee.value (Go.Operand.func 30)) #[(Go.Operand.tmp 8), (Go.Operand.tmp 9)] #[24, 29])) (by kernel_rfl) (by kernel_rfl) fun ty pos af => ?_
  have hBt2 := hB
  refine s_callR (R := fun v w' => ∃ z, v = .int .i64 z ∧ (¬ sndL l → z = 0) ∧ ∀ s, RS w6 s x → s.good → z = val s (rho vs)) [_, _] hF (enters_of Try.func30 (by kernel_rfl) rfl) rfl (by decide) (rValue30 vs vv hvl x l w6 (hL.old hB) (hV.below hB)) ?_
  rintro _ w8 a ⟨t2, rfl, hn2, hy2⟩ B9 hF
  have sB9 := B9.size
  have hB := hB.trans (B9.mono hB.size)
  have m2 := m2.old B9
  have hS := hS.below B9
  obtain rfl : t1 = t2 := by
    by_cases h : sndL l
    · obtain ⟨s, hs, hsg⟩ := sound_sl hL h
      rw [hy1 s (RS.below hBt1 hs) hsg, hy2 s (RS.below hBt2 hs) hsg]
    · rw [hn1 h, hn2 h]
  refine s_end ⟨hS, ?_⟩
  refine d_val 6 11 (op := (Go.Op.binOp Go.BinOp.eql 3 (Go.Operand.tmp 7) (Go.Operand.tmp 10) 3)) hF hS (by kernel_rfl) (fun W hW => x_eql (b := true) (decide_eq_true rfl) rfl rfl) (by kernel_rfl) (by decide) fun a hF => ?_
  refine d_val 7 12 (op := (Go.Op.move (Go.Operand.tmp 11))) hF hS (by kernel_rfl) (fun W hW => x_move rfl) (by kernel_rfl) (by decide) fun a hF => ?_
  refine d_oneg 8 12 (some 13) (Go.Op.call (Go.Call.mk (Go.Callee.value (Go.Operand.func 15)) #[] #[])) (j := 7) (want := true) hF (by kernel_rfl) (by kernel_rfl) (by kernel_rfl) rfl fun ty pos af => ?_
  refine s_callB [] hF (enters_of Try.func15 (by kernel_rfl) rfl) rfl (by decide) (awake15 w8) fun w10 a B11 hF => ?_
  have sB11 := B11.size
  have hB := hB.trans (B11.mono hB.size)
  have m2 := m2.old B11
  have hS := hS.below B11
  refine s_end ⟨hS, ?_⟩
  refine d_val 9 14 (op := (Go.Op.pick (Go.Operand.tmp 12) (Go.Operand.tmp 13) (Go.Operand.const (Go.Value.bool false)))) hF hS (by kernel_rfl) (fun W hW => x_pick (b := true) rfl rfl) (by kernel_rfl) (by decide) fun a hF => ?_
  refine d_val 10 4 (op := (Go.Op.assign (Go.Operand.tmp 14))) hF hS (by kernel_rfl) (fun W hW => x_assign rfl) (by kernel_rfl) (by decide) fun a hF => ?_
  refine d_end (by kernel_rfl) (hK2 _ _ ?_)
  refine wp_ret (res_slot hF rfl rfl ⟨rfl, hB⟩)
end Go.Proofs.Ytnnkggfhhkhnmaa
