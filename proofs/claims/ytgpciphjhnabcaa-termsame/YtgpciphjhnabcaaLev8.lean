/- The reference's Norm, sameForm, Equal, Leq. -/
import Derived.Test.YtgpciphjhnabcaaLev7
namespace Go.Proofs.Ytgpciphjhnabcaa
open Go.RowKit Go.Shelf
set_option linter.unusedVariables false
set_option linter.unusedSimpArgs false

set_option maxRecDepth 100000 in
set_option maxHeartbeats 1600000 in
theorem rNorm20 : ∀ (s : SL) (x : C3) (w0 : World), RS w0 s x → s.nums 1099511627776 1001 → Calls Try.prog 96 #[lv x] w0 fun e w' => ∃ z, e = .returned z ∧ (∃ v', z = .agg [.int .i64 (nfC s), v'].toArray ∧ Rd w' v' 1 (nfK s).length (ints (nfK s)) ∧ ∀ j, v'.ownBlock = some j → w0.heap.size ≤ j) ∧ Below w0.heap.size w0 w' := by
  intro s
  induction s with
  | num p =>
    rintro ⟨k, n, vx⟩ w0 hS0 hnm
    have hB := Below.refl w0.heap.size w0
    have sB := hB.size
    obtain ⟨h1, h2, h3⟩ := hS0
    simp only at h1 h2
    subst h1 h2
    obtain ⟨hn1, hn2⟩ := nf_num p hnm
    refine calls_fs 51 [(0, .agg [.int .i64 1, .int .i64 (p : Int), vx].toArray)] Try.func96 rfl rfl rfl rfl rfl fun a hF => ?_
    refine wp_rs fun K1 hK1 => ?_
    refine s_box ([.int .i64 1, .int .i64 (p : Int), vx]) hF (by decide) rfl rfl fun w2 b1 a eb1 m1 B3 zb1 hF => ?_
    have sB3 := B3.size
    have hB := hB.trans (B3.mono hB.size)
    refine s_alloc hF (by decide) zero36 fun w4 b2 a eb2 m2 B5 zb2 hF => ?_
    have sB5 := B5.size
    have hB := hB.trans (B5.mono hB.size)
    have m1 := m1.old B5
    refine s_end (hK1 _ _ ?_)
    refine wp_seq_k fun K2 hK2 => ?_
    refine wp_rs fun K3 hK3 => ?_
    refine s_val hF (x_fa0 fa24_0 rfl) (by decide) fun a hF => ?_
    refine s_val hF (x_load rfl (m_load flat3 (m1.cell (j := 0) rfl))) (by decide) fun a hF => ?_
    refine s_end (hK3 _ _ ?_)
    refine wp_block ?_
    refine wp_rs fun K4 hK4 => ?_
    refine s_val hF (x_eql (b := true) (decide_eq_true (by omega)) rfl rfl) (by decide) fun a hF => ?_
    refine s_val hF (x_assign rfl) (by decide) fun a hF => ?_
    refine s_end (hK4 _ _ ?_)
    refine wp_if hF rfl ?_
    refine wp_rs fun K5 hK5 => ?_
    refine s_val hF (x_fa0 fa24_1 rfl) (by decide) fun a hF => ?_
    refine s_val hF (x_load rfl (m_load flat3 (m1.cell (j := 1) rfl))) (by decide) fun a hF => ?_
    refine s_val hF (x_build (vs := [(0, _)]) rfl (b36_0 _ _)) (by decide) fun a hF => ?_
    refine s_putW hF rfl rfl (size_wide wide36) m2 rfl (one2 rfl) fun w6 m2 o7 => ?_
    have so7 := o7.size
    have hB := hB.trans (o7.below (by omega))
    have m1 := m1.only o7 (by omega)
    refine s_end (hK5 _ _ ?_)
    refine wp_ret (inb_ret (then_ret (res_cell hF rfl rfl m2 wide36 ⟨_, rfl, ⟨_, by rw [hn1], by rw [hn2]; exact Rd.nil _ _, fun j h => by cases h⟩, hB⟩)))
  | var p =>
    rintro ⟨k, n, vx⟩ w0 hS0 hnm
    have hB := Below.refl w0.heap.size w0
    have sB := hB.size
    obtain ⟨h1, h2, h3⟩ := hS0
    simp only at h1 h2
    subst h1 h2
    have hp : p < 1001 := hnm
    obtain ⟨hn1, hn2⟩ := nf_var p
    refine calls_fs 51 [(0, .agg [.int .i64 2, .int .i64 (p : Int), vx].toArray)] Try.func96 rfl rfl rfl rfl rfl fun a hF => ?_
    refine wp_rs fun K1 hK1 => ?_
    refine s_box ([.int .i64 2, .int .i64 (p : Int), vx]) hF (by decide) rfl rfl fun w2 b1 a eb1 m1 B3 zb1 hF => ?_
    have sB3 := B3.size
    have hB := hB.trans (B3.mono hB.size)
    refine s_alloc hF (by decide) zero36 fun w4 b2 a eb2 m2 B5 zb2 hF => ?_
    have sB5 := B5.size
    have hB := hB.trans (B5.mono hB.size)
    have m1 := m1.old B5
    refine s_end (hK1 _ _ ?_)
    refine wp_seq_k fun K2 hK2 => ?_
    refine wp_rs fun K3 hK3 => ?_
    refine s_val hF (x_fa0 fa24_0 rfl) (by decide) fun a hF => ?_
    refine s_val hF (x_load rfl (m_load flat3 (m1.cell (j := 0) rfl))) (by decide) fun a hF => ?_
    refine s_end (hK3 _ _ ?_)
    refine wp_block ?_
    refine wp_rs fun K4 hK4 => ?_
    refine s_val hF (x_eql (b := false) (decide_eq_false (by omega)) rfl rfl) (by decide) fun a hF => ?_
    refine s_val hF (x_assign rfl) (by decide) fun a hF => ?_
    refine s_end (hK4 _ _ ?_)
    refine wp_if hF rfl ?_
    refine wp_rs fun K5 hK5 => ?_
    refine s_val hF (x_eql (b := true) (decide_eq_true (by omega)) rfl rfl) (by decide) fun a hF => ?_
    refine s_val hF (x_assign rfl) (by decide) fun a hF => ?_
    refine s_end (hK5 _ _ ?_)
    refine wp_if hF rfl ?_
    refine wp_rs fun K6 hK6 => ?_
    refine s_val hF (x_build (vs := []) rfl (b36_ _)) (by decide) fun a hF => ?_
    refine s_alloc hF (by decide) zero36 fun w6 b3 a eb3 m3 B7 zb3 hF => ?_
    have sB7 := B7.size
    have hB := hB.trans (B7.mono hB.size)
    have m1 := m1.old B7
    have m2 := m2.old B7
    refine s_putW hF rfl rfl (size_wide wide36) m3 rfl (one2 rfl) fun w8 m3 o9 => ?_
    have so9 := o9.size
    have hB := hB.trans (o9.below (by omega))
    have m1 := m1.only o9 (by omega)
    have m2 := m2.only o9 (by omega)
    refine s_end (hK6 _ _ ?_)
    refine wp_seq_k fun K7 hK7 => ?_
    obtain ⟨bz, hbz⟩ : ∃ b, b = b3 := ⟨_, rfl⟩
    have hbb : w0.heap.size ≤ b2 ∧ b2 < b3 := ⟨by omega, by omega⟩
    refine wp_rs fun K8 hK8 => ?_
    refine s_val hF (x_fa0 fa24_1 rfl) (by decide) fun a hF => ?_
    refine s_val hF (x_load rfl (m_load flat3 (m1.cell (j := 1) rfl))) (by decide) fun a hF => ?_
    refine s_val hF (x_move rfl) (by decide) fun a hF => ?_
    refine s_end (hK8 _ _ ?_)
    refine wp_block ?_
    refine wp_up p (fun i a w => ∃ v' o', FA 104 w0.heap.size w b3 o' v' 0 (List.replicate i (-1)) ∧ (o' = b3 ∨ bz < o') ∧ Blk w b2 104 [.int .i64 0, .slice none 0 0] ∧ Below w0.heap.size w0 w ∧ Fs 51 a [(16, .int .i64 (i : Int)), (15, .int .i64 (p : Int)), (2, .pointer (some ⟨b2, 0, none⟩)), (3, .pointer (some ⟨b3, 0, none⟩))]) ⟨_, b3, FA.start m3 (by omega), .inl rfl, m2, hB, hF.sub _ rfl⟩ ?_
    clear hF hB m2 m3
    rintro i a w hi ⟨vv, o2, hA, ho2, m2, hB, hF⟩ K' hK'
    have sB := hB.size
    obtain ⟨L, hL⟩ : ∃ L, L = List.replicate i (-1 : Int) := ⟨_, rfl⟩
    rw [← hL] at hA
    have hLl : L.length = i := by rw [hL]; simp
    have mg := hA.blk
    have hO := hA.own
    have hat := hA.at'
    have hne := hA.ne
    have hlo := hA.lo
    have hgl := mg.lt
    obtain ⟨ag, cg, rfl, hcg⟩ := hA.form
    refine wp_rs fun K9 hK9 => ?_
    refine s_val hF (x_lss (b := decide (i < p)) (decide_eq_decide.2 (by omega)) rfl rfl) (by decide) fun a hF => ?_
    refine s_end (hK9 _ _ ?_)
    refine wp_seq_k fun K10 hK10 => ?_
    refine wp_iff hF rfl (fun hc17 => ?_) (fun hc17 => ?_)
    · refine wp_skip (hK10 _ _ ?_)
      refine wp_seq_k fun K11 hK11 => ?_
      refine wp_block ?_
      refine wp_region_lit ?_
      refine s_val hF (x_fa0 fa36_1 rfl) (by decide) fun a hF => ?_
      refine s_val hF (x_load rfl (m_load flat29 (mg.cell (j := 1) rfl))) (by decide) fun a hF => ?_
      refine s_litG [.int .i64 (-1)] el29 hF (by decide) rfl (by simp [Value.cells]) rfl (by decide) (by decide) fun w10 bl a ebl ml B11 zbl hF => ?_
      have sB11 := B11.size
      have hB := hB.trans (B11.mono hB.size)
      have m2 := m2.old B11
      have mg := mg.old B11
      have hO := own_below hO B11
      have ml : Blk w10 bl 3 [.int .i64 (-1)] := by simpa [Value.cells] using ml
      refine s_app1 (o := o2) el29 hF (by decide) rfl rfl hO ml rfl (by simp [Value.oneCell']) hat (by omega) (by omega) (by decide) (by omega) fun v3 w12 a o3 hOn hOatn how hsrc k13 hkeep hF => ?_
      have sk13 := k13.size
      have hB := k13.under hB (by omega)
      have m2 := m2.k2 k13 (by omega)
      have mg := (hkeep _ mg.lt hne).trans mg
      have ml := ml.k2 k13 (by omega)
      have hO := hOn
      have hO_at := hOatn
      have hneg : v3.ownBlock ≠ some b3 := fun h => by rcases hsrc b3 h with h | h; exact hne h; omega
      refine s_val hF (x_fa0 fa36_1 rfl) (by decide) fun a hF => ?_
      refine s_put hF rfl rfl flat29 mg (by simp) (Rd.own hO).one fun w14 mg o15 => ?_
      have so15 := o15.size
      have hB := hB.trans (o15.below (by omega))
      have m2 := m2.only o15 (by omega)
      have hO := own_only hO o15 (hneg)
      have ml := ml.only o15 (by omega)
      refine s_end (hK11 _ _ ?_)
      refine wp_region_lit ?_
      refine s_val hF (x_addn (i + 1) (by omega) (by omega) rfl rfl) (by decide) fun a hF => ?_
      refine s_val hF (x_move rfl) (by decide) fun a hF => ?_
      have hL2 : List.replicate (i + 1) (-1 : Int) = L ++ [-1] := by rw [hL, List.replicate_succ']
      refine s_end (hK' _ _ (by omega) ⟨v3, o3, ⟨mg, by rw [hL2, ints_app]; simpa using hO, hO_at, hneg, by omega⟩, by omega, m2, hB, hF.sub _ rfl⟩)
    · have hip : i = p := by omega
      refine wp_exit (hK7 _ _ ?_)
      refine wp_rs fun K12 hK12 => ?_
      refine s_val hF (x_fa0 fa36_1 rfl) (by decide) fun a hF => ?_
      refine s_val hF (x_load rfl (m_load flat29 (mg.cell (j := 1) rfl))) (by decide) fun a hF => ?_
      refine s_litG [.int .i64 (0)] el29 hF (by decide) rfl (by simp [Value.cells]) rfl (by decide) (by decide) fun w16 bl a ebl ml B17 zbl hF => ?_
      have sB17 := B17.size
      have hB := hB.trans (B17.mono hB.size)
      have m2 := m2.old B17
      have mg := mg.old B17
      have hO := own_below hO B17
      have ml : Blk w16 bl 3 [.int .i64 (0)] := by simpa [Value.cells] using ml
      refine s_app1 (o := o2) el29 hF (by decide) rfl rfl hO ml rfl (by simp [Value.oneCell']) hat (by omega) (by omega) (by decide) (by omega) fun v3 w18 a o3 hOn hOatn how hsrc k19 hkeep hF => ?_
      have sk19 := k19.size
      have hB := k19.under hB (by omega)
      have m2 := m2.k2 k19 (by omega)
      have mg := (hkeep _ mg.lt hne).trans mg
      have ml := ml.k2 k19 (by omega)
      have hO := hOn
      have hO_at := hOatn
      have hneg : v3.ownBlock ≠ some b3 := fun h => by rcases hsrc b3 h with h | h; exact hne h; omega
      refine s_val hF (x_fa0 fa36_1 rfl) (by decide) fun a hF => ?_
      refine s_put hF rfl rfl flat29 mg (by simp) (Rd.own hO).one fun w20 mg o21 => ?_
      have so21 := o21.size
      have hB := hB.trans (o21.below (by omega))
      have m2 := m2.only o21 (by omega)
      have hO := own_only hO o21 (hneg)
      have ml := ml.only o21 (by omega)
      refine s_end (hK12 _ _ ?_)
      refine wp_rs fun K13 hK13 => ?_
      refine s_val hF (x_ldW wide36 mg rfl rfl) (by decide) fun a hF => ?_
      refine s_putW hF rfl rfl (size_wide wide36) m2 rfl (one2 (Rd.own hO).one) fun w22 m2 o23 => ?_
      have so23 := o23.size
      have hB := hB.trans (o23.below (by omega))
      have mg := mg.only o23 (by omega)
      have hO := own_only hO o23 (fun e => by have := hO_at _ e; omega)
      have ml := ml.only o23 (by omega)
      refine s_end (hK13 _ _ ?_)
      have hfin : nfK (.var p) = L ++ [0] := by rw [hn2, hL, hip]
      refine wp_ret (inb_ret (then_ret (res_cell hF rfl rfl m2 wide36 ⟨_, rfl, ⟨v3, by rw [hn1]; rfl, by rw [hfin, ints_app]; simpa using Rd.own hO, fun j h => (hO.lt j h).1⟩, hB⟩)))
  | succ p sa iha =>
    rintro ⟨k, n, vx⟩ w0 hS0 hnm
    have hB := Below.refl w0.heap.size w0
    have sB := hB.size
    obtain ⟨h1, h2, y, h3, hy⟩ := hS0
    simp only at h1 h2 h3
    subst h1 h2
    have hp1 := hnm.1
    have hp2 := hnm.2.1
    obtain ⟨b, off, cp, rfl, hrow⟩ := rd_row1 h3
    refine calls_fs 51 [(0, .agg [.int .i64 3, .int .i64 (p : Int), .slice (some ⟨b, off, none⟩) 1 cp].toArray)] Try.func96 rfl rfl rfl rfl rfl fun a hF => ?_
    refine wp_rs fun K1 hK1 => ?_
    refine s_box ([.int .i64 3, .int .i64 (p : Int), .slice (some ⟨b, off, none⟩) 1 cp]) hF (by decide) rfl rfl fun w2 b1 a eb1 m1 B3 zb1 hF => ?_
    have sB3 := B3.size
    have hB := hB.trans (B3.mono hB.size)
    refine s_alloc hF (by decide) zero36 fun w4 b2 a eb2 m2 B5 zb2 hF => ?_
    have sB5 := B5.size
    have hB := hB.trans (B5.mono hB.size)
    have m1 := m1.old B5
    refine s_end (hK1 _ _ ?_)
    refine wp_seq_k fun K2 hK2 => ?_
    refine wp_rs fun K3 hK3 => ?_
    refine s_val hF (x_fa0 fa24_0 rfl) (by decide) fun a hF => ?_
    refine s_val hF (x_load rfl (m_load flat3 (m1.cell (j := 0) rfl))) (by decide) fun a hF => ?_
    refine s_end (hK3 _ _ ?_)
    refine wp_block ?_
    refine wp_rs fun K4 hK4 => ?_
    refine s_val hF (x_eql (b := false) (decide_eq_false (by omega)) rfl rfl) (by decide) fun a hF => ?_
    refine s_val hF (x_assign rfl) (by decide) fun a hF => ?_
    refine s_end (hK4 _ _ ?_)
    refine wp_if hF rfl ?_
    refine wp_rs fun K5 hK5 => ?_
    refine s_val hF (x_eql (b := false) (decide_eq_false (by omega)) rfl rfl) (by decide) fun a hF => ?_
    refine s_val hF (x_assign rfl) (by decide) fun a hF => ?_
    refine s_end (hK5 _ _ ?_)
    refine wp_if hF rfl ?_
    refine wp_rs fun K6 hK6 => ?_
    refine s_val hF (x_eql (b := true) (decide_eq_true (by omega)) rfl rfl) (by decide) fun a hF => ?_
    refine s_val hF (x_assign rfl) (by decide) fun a hF => ?_
    refine s_end (hK6 _ _ ?_)
    refine wp_if hF rfl ?_
    refine dk2_seq (b2) (b2) (ops := regOps Try.f96 13) (N := 9) (by kernel_rfl) wide_orders (by kernel_rfl) fun w6 hw6 B7 hS K7 hK7 => ?_
    have zw6 : w6.heap.size = w4.heap.size := by rw [hw6]
    have sB7 := B7.size
    have hB := hB.trans (B7.mono hB.size)
    have m1 := m1.old B7
    have m2 := m2.old B7
    have m1_d := m1
    have m2_d := m2
    have hB_d := hB
    refine d_val 0 32 (op := (Go.Op.fieldAddr 24 (Go.Operand.tmp 1) 2)) hF hS (by kernel_rfl) (fun W hW => x_fa0 fa24_2 rfl) (by kernel_rfl) (by decide) fun a hF => ?_
    refine d_val 1 33 (op := (Go.Op.load 22 (Go.Operand.tmp 32))) hF hS (by kernel_rfl) (fun W hW => x_load rfl (m_load flat22 ((m1_d.k2 hW (by omega)).cell (j := 2) rfl))) (by kernel_rfl) (by decide) fun a hF => ?_
    refine d_val 2 34 (op := (Go.Op.indexAddr 22 (Go.Operand.tmp 33) (Go.Operand.const (Go.Value.int Go.IntKind.i64 0)))) hF hS (by kernel_rfl) (fun W hW => x_ixa rfl rfl (m_ixsK 0 Try.underlying22 el22.size rfl (by omega))) (by kernel_rfl) (by decide) fun a hF => ?_
    refine d_val 3 35 (op := (Go.Op.load 24 (Go.Operand.tmp 34))) hF hS (by kernel_rfl) (fun W hW => x_ldA wide24 (hrow _ (hW.under hB_d (by omega))) rfl rfl) (by kernel_rfl) (by decide) fun a hF => ?_
    refine d_val 5 37 (op := (Go.Op.fieldAddr 24 (Go.Operand.tmp 1) 1)) hF hS (by kernel_rfl) (fun W hW => x_fa0 fa24_1 rfl) (by kernel_rfl) (by decide) fun a hF => ?_
    refine d_val 6 38 (op := (Go.Op.load 3 (Go.Operand.tmp 37))) hF hS (by kernel_rfl) (fun W hW => x_load rfl (m_load flat3 ((m1_d.k2 hW (by omega)).cell (j := 1) rfl))) (by kernel_rfl) (by decide) fun a hF => ?_
    refine d_one 4 (some 36) (Go.Op.call (Go.Call.mk (Go.Callee.value (Go.Operand.func 96)) #[(Go.Operand.tmp 35)] #[24])) (by kernel_rfl) (by kernel_rfl) fun ty pos af => ?_
    refine s_callR (R := fun u w' => ∃ v', u = .agg [.int .i64 (nfC sa), v'].toArray ∧ Rd w' v' 1 (nfK sa).length (ints (nfK sa)) ∧ ∀ j, v'.ownBlock = some j → w6.heap.size ≤ j) [_] hF (enters_of Try.func96 (by kernel_rfl) rfl) rfl (by decide) (iha _ w6 (RS.below hB hy) hnm.2.2) ?_
    rintro _ w8 a ⟨v1, rfl, hv1, hy1⟩ B9 hF
    have sB9 := B9.size
    have hB := hB.trans (B9.mono hB.size)
    have m1 := m1.old B9
    have m2 := m2.old B9
    have hS := hS.below B9
    have h1v1 := hv1.one
    refine s_end ⟨hS, ?_⟩
    refine d_one 7 (some 39) (Go.Op.call (Go.Call.mk (Go.Callee.value (Go.Operand.func 98)) #[(Go.Operand.tmp 36), (Go.Operand.tmp 38)] #[104, 3])) (by kernel_rfl) (by kernel_rfl) fun ty pos af => ?_
    refine s_callR (R := fun u w' => ∃ v', u = .agg [.int .i64 (setl (plusC (nfC sa) (nfK sa) p) (tidyK (plusK (nfK sa) p))), v'].toArray ∧ Rd w' v' 1 (tidyK (plusK (nfK sa) p)).length (ints (tidyK (plusK (nfK sa) p))) ∧ ∀ j, v'.ownBlock = some j → w8.heap.size ≤ j) [_, _] hF (enters_of Try.func98 (by kernel_rfl) rfl) rfl (by decide) (plus42 (nfC sa) (nfK sa) _ p w8 (nfC_nn sa) (nfC_le sa) (by omega) (by omega) (by have := rk_len sa 0 [] 1001 hnm.2.2 (by simp); unfold nfK; omega) (nfK_lo sa) (nfK_hi sa) hv1) ?_
    rintro _ w10 a ⟨v3, rfl, hv3, hy3⟩ B11 hF
    have sB11 := B11.size
    have hB := hB.trans (B11.mono hB.size)
    have m1 := m1.old B11
    have m2 := m2.old B11
    have hv1 := hv1.below B11
    have hS := hS.below B11
    rw [plusK_is] at hv3 hF
    rw [plusC_is] at hF
    have h1v3 := hv3.one
    refine s_end ⟨hS, ?_⟩
    refine d_one 8 none (Go.Op.store 104 (Go.Operand.tmp 2) (Go.Operand.tmp 39)) (by kernel_rfl) (by kernel_rfl) fun ty pos af => ?_
    refine s_putW hF rfl rfl (size_wide wide36) m2 rfl (one2 h1v3) fun w12 m2 o13 => ?_
    have so13 := o13.size
    have hB := hB.trans (o13.below (by omega))
    have m1 := m1.only o13 (by omega)
    have hv1 := rd_only hv1 o13 (fun h => by have := hy1 _ h; omega)
    have hv3 := rd_only hv3 o13 (fun h => by have := hy3 _ h; omega)
    have hS := hS.only o13 (by omega)
    refine s_end ⟨hS, ?_⟩
    refine d_end (by kernel_rfl) (hK7 _ _ ?_)
    refine wp_ret (inb_ret (then_ret (res_cell hF rfl rfl m2 wide36 ⟨_, rfl, ⟨v3, rfl, hv3, fun j h => by have := hy3 j h; omega⟩, hB⟩)))
  | mx sa sb iha ihb =>
    rintro ⟨k, n, vx⟩ w0 hS0 hnm
    have hB := Below.refl w0.heap.size w0
    have sB := hB.size
    obtain ⟨h1, y, z, h3, hy, hz⟩ := hS0
    simp only at h1 h3
    subst h1
    obtain ⟨b, off, cp, rfl, hrow1, hrow2⟩ := rd_row2 h3
    refine calls_fs 51 [(0, .agg [.int .i64 4, .int .i64 n, .slice (some ⟨b, off, none⟩) 2 cp].toArray)] Try.func96 rfl rfl rfl rfl rfl fun a hF => ?_
    refine wp_rs fun K1 hK1 => ?_
    refine s_box ([.int .i64 4, .int .i64 n, .slice (some ⟨b, off, none⟩) 2 cp]) hF (by decide) rfl rfl fun w2 b1 a eb1 m1 B3 zb1 hF => ?_
    have sB3 := B3.size
    have hB := hB.trans (B3.mono hB.size)
    refine s_alloc hF (by decide) zero36 fun w4 b2 a eb2 m2 B5 zb2 hF => ?_
    have sB5 := B5.size
    have hB := hB.trans (B5.mono hB.size)
    have m1 := m1.old B5
    refine s_end (hK1 _ _ ?_)
    refine wp_seq_k fun K2 hK2 => ?_
    refine wp_rs fun K3 hK3 => ?_
    refine s_val hF (x_fa0 fa24_0 rfl) (by decide) fun a hF => ?_
    refine s_val hF (x_load rfl (m_load flat3 (m1.cell (j := 0) rfl))) (by decide) fun a hF => ?_
    refine s_end (hK3 _ _ ?_)
    refine wp_block ?_
    refine wp_rs fun K4 hK4 => ?_
    refine s_val hF (x_eql (b := false) (decide_eq_false (by omega)) rfl rfl) (by decide) fun a hF => ?_
    refine s_val hF (x_assign rfl) (by decide) fun a hF => ?_
    refine s_end (hK4 _ _ ?_)
    refine wp_if hF rfl ?_
    refine wp_rs fun K5 hK5 => ?_
    refine s_val hF (x_eql (b := false) (decide_eq_false (by omega)) rfl rfl) (by decide) fun a hF => ?_
    refine s_val hF (x_assign rfl) (by decide) fun a hF => ?_
    refine s_end (hK5 _ _ ?_)
    refine wp_if hF rfl ?_
    refine wp_rs fun K6 hK6 => ?_
    refine s_val hF (x_eql (b := false) (decide_eq_false (by omega)) rfl rfl) (by decide) fun a hF => ?_
    refine s_val hF (x_assign rfl) (by decide) fun a hF => ?_
    refine s_end (hK6 _ _ ?_)
    refine wp_if hF rfl ?_
    refine wp_skip (hK2 _ _ ?_)
    refine dk2_seq (b2) (b2) (ops := regOps Try.f96 14) (N := 12) (by kernel_rfl) wide_orders (by kernel_rfl) fun w6 hw6 B7 hS K7 hK7 => ?_
    have zw6 : w6.heap.size = w4.heap.size := by rw [hw6]
    have sB7 := B7.size
    have hB := hB.trans (B7.mono hB.size)
    have m1 := m1.old B7
    have m2 := m2.old B7
    have m1_d := m1
    have m2_d := m2
    have hB_d := hB
    refine d_val 0 40 (op := (Go.Op.fieldAddr 24 (Go.Operand.tmp 1) 2)) hF hS (by kernel_rfl) (fun W hW => x_fa0 fa24_2 rfl) (by kernel_rfl) (by decide) fun a hF => ?_
    refine d_val 1 41 (op := (Go.Op.load 22 (Go.Operand.tmp 40))) hF hS (by kernel_rfl) (fun W hW => x_load rfl (m_load flat22 ((m1_d.k2 hW (by omega)).cell (j := 2) rfl))) (by kernel_rfl) (by decide) fun a hF => ?_
    refine d_val 2 42 (op := (Go.Op.indexAddr 22 (Go.Operand.tmp 41) (Go.Operand.const (Go.Value.int Go.IntKind.i64 0)))) hF hS (by kernel_rfl) (fun W hW => x_ixa rfl rfl (m_ixsK 0 Try.underlying22 el22.size rfl (by omega))) (by kernel_rfl) (by decide) fun a hF => ?_
    refine d_val 3 43 (op := (Go.Op.load 24 (Go.Operand.tmp 42))) hF hS (by kernel_rfl) (fun W hW => x_ldA wide24 (hrow1 _ (hW.under hB_d (by omega))) rfl rfl) (by kernel_rfl) (by decide) fun a hF => ?_
    refine d_val 5 45 (op := (Go.Op.fieldAddr 24 (Go.Operand.tmp 1) 2)) hF hS (by kernel_rfl) (fun W hW => x_fa0 fa24_2 rfl) (by kernel_rfl) (by decide) fun a hF => ?_
    refine d_val 6 46 (op := (Go.Op.load 22 (Go.Operand.tmp 45))) hF hS (by kernel_rfl) (fun W hW => x_load rfl (m_load flat22 ((m1_d.k2 hW (by omega)).cell (j := 2) rfl))) (by kernel_rfl) (by decide) fun a hF => ?_
    refine d_val 7 47 (op := (Go.Op.indexAddr 22 (Go.Operand.tmp 46) (Go.Operand.const (Go.Value.int Go.IntKind.i64 1)))) hF hS (by kernel_rfl) (fun W hW => x_ixa rfl rfl (m_ixsK 1 Try.underlying22 el22.size rfl (by omega))) (by kernel_rfl) (by decide) fun a hF => ?_
    refine d_val 8 48 (op := (Go.Op.load 24 (Go.Operand.tmp 47))) hF hS (by kernel_rfl) (fun W hW => x_ldA wide24 (hrow2 _ (hW.under hB_d (by omega))) rfl rfl) (by kernel_rfl) (by decide) fun a hF => ?_
    refine d_one 4 (some 44) (Go.Op.call (Go.Call.mk (Go.Callee.value (Go.Operand.func 96)) #[(Go.Operand.tmp 43)] #[24])) (by kernel_rfl) (by kernel_rfl) fun ty pos af => ?_
    refine s_callR (R := fun u w' => ∃ v', u = .agg [.int .i64 (nfC sa), v'].toArray ∧ Rd w' v' 1 (nfK sa).length (ints (nfK sa)) ∧ ∀ j, v'.ownBlock = some j → w6.heap.size ≤ j) [_] hF (enters_of Try.func96 (by kernel_rfl) rfl) rfl (by decide) (iha _ w6 (RS.below hB hy) hnm.1) ?_
    rintro _ w8 a ⟨v1, rfl, hv1, hy1⟩ B9 hF
    have sB9 := B9.size
    have hB := hB.trans (B9.mono hB.size)
    have m1 := m1.old B9
    have m2 := m2.old B9
    have hS := hS.below B9
    have h1v1 := hv1.one
    refine s_end ⟨hS, ?_⟩
    refine d_one 9 (some 49) (Go.Op.call (Go.Call.mk (Go.Callee.value (Go.Operand.func 96)) #[(Go.Operand.tmp 48)] #[24])) (by kernel_rfl) (by kernel_rfl) fun ty pos af => ?_
    refine s_callR (R := fun u w' => ∃ v', u = .agg [.int .i64 (nfC sb), v'].toArray ∧ Rd w' v' 1 (nfK sb).length (ints (nfK sb)) ∧ ∀ j, v'.ownBlock = some j → w8.heap.size ≤ j) [_] hF (enters_of Try.func96 (by kernel_rfl) rfl) rfl (by decide) (ihb _ w8 (RS.below hB hz) hnm.2) ?_
    rintro _ w10 a ⟨v2, rfl, hv2, hy2⟩ B11 hF
    have sB11 := B11.size
    have hB := hB.trans (B11.mono hB.size)
    have m1 := m1.old B11
    have m2 := m2.old B11
    have hv1 := hv1.below B11
    have hS := hS.below B11
    have h1v2 := hv2.one
    refine s_end ⟨hS, ?_⟩
    refine d_one 10 (some 50) (Go.Op.call (Go.Call.mk (Go.Callee.value (Go.Operand.func 97)) #[(Go.Operand.tmp 44), (Go.Operand.tmp 49)] #[104, 104])) (by kernel_rfl) (by kernel_rfl) fun ty pos af => ?_
    refine s_callR (R := fun u w' => ∃ v', u = .agg [.int .i64 (setl (max (nfC sa) (nfC sb)) (tidyK (bothK (nfK sa) (nfK sb)))), v'].toArray ∧ Rd w' v' 1 (tidyK (bothK (nfK sa) (nfK sb))).length (ints (tidyK (bothK (nfK sa) (nfK sb)))) ∧ ∀ j, v'.ownBlock = some j → w10.heap.size ≤ j) [_, _] hF (enters_of Try.func97 (by kernel_rfl) rfl) rfl (by decide) (both43 (nfC sa) (nfC sb) (nfK sa) (nfK sb) _ _ w10 (nfC_nn sa) (nfC_nn sb) (by have := rk_len sa 0 [] 1001 hnm.1 (by simp); unfold nfK; omega) (by have := rk_len sb 0 [] 1001 hnm.2 (by simp); unfold nfK; omega) (nfK_lo sa) (nfK_lo sb) hv1 hv2) ?_
    rintro _ w12 a ⟨v3, rfl, hv3, hy3⟩ B13 hF
    have sB13 := B13.size
    have hB := hB.trans (B13.mono hB.size)
    have m1 := m1.old B13
    have m2 := m2.old B13
    have hv1 := hv1.below B13
    have hv2 := hv2.below B13
    have hS := hS.below B13
    rw [bothK_is] at hv3 hF
    rw [← nfC_mx] at hF
    have h1v3 := hv3.one
    refine s_end ⟨hS, ?_⟩
    refine d_one 11 none (Go.Op.store 104 (Go.Operand.tmp 2) (Go.Operand.tmp 50)) (by kernel_rfl) (by kernel_rfl) fun ty pos af => ?_
    refine s_putW hF rfl rfl (size_wide wide36) m2 rfl (one2 h1v3) fun w14 m2 o15 => ?_
    have so15 := o15.size
    have hB := hB.trans (o15.below (by omega))
    have m1 := m1.only o15 (by omega)
    have hv1 := rd_only hv1 o15 (fun h => by have := hy1 _ h; omega)
    have hv2 := rd_only hv2 o15 (fun h => by have := hy2 _ h; omega)
    have hv3 := rd_only hv3 o15 (fun h => by have := hy3 _ h; omega)
    have hS := hS.only o15 (by omega)
    refine s_end ⟨hS, ?_⟩
    refine d_end (by kernel_rfl) (hK7 _ _ ?_)
    refine wp_ret (res_cell hF rfl rfl m2 wide36 ⟨_, rfl, ⟨v3, rfl, hv3, fun j h => by have := hy3 j h; omega⟩, hB⟩)

set_option maxRecDepth 100000 in
set_option maxHeartbeats 1600000 in
theorem sameForm45 (c d : Int) (v u : Value) (ks ls : List Int) (w0 : World) (hl : ks.length ≤ 9223372036854775807) (hV : Rd w0 v 1 ks.length (ints ks)) (hU : Rd w0 u 1 ls.length (ints ls)) : Calls Try.prog 137 #[.agg [.int .i64 c, v].toArray, .agg [.int .i64 d, u].toArray] w0 fun e w' => e = .returned (.bool (decide (c = d ∧ ks = ls))) ∧ Below w0.heap.size w0 w' := by
  obtain ⟨av, cv, rfl, _⟩ := hV.form
  obtain ⟨au, cu, rfl, _⟩ := hU.form
  have hB := Below.refl w0.heap.size w0
  have sB := hB.size
  refine calls_fs 38 [(0, .agg [.int .i64 c, .slice av ks.length cv].toArray), (1, .agg [.int .i64 d, .slice au ls.length cu].toArray)] Try.func137 rfl rfl rfl rfl rfl fun a hF => ?_
  refine wp_rs fun K1 hK1 => ?_
  refine s_box ([.int .i64 c, .slice av ks.length cv]) hF (by decide) rfl rfl fun w2 b2 a eb2 m2 B3 zb2 hF => ?_
  have sB3 := B3.size
  have hB := hB.trans (B3.mono hB.size)
  refine s_box ([.int .i64 d, .slice au ls.length cu]) hF (by decide) rfl rfl fun w4 b3 a eb3 m3 B5 zb3 hF => ?_
  have sB5 := B5.size
  have hB := hB.trans (B5.mono hB.size)
  have m2 := m2.old B5
  refine s_val hF (x_assign rfl) (by decide) fun a hF => ?_
  refine s_end (hK1 _ _ ?_)
  refine wp_seq_k fun K2 hK2 => ?_
  rcases (show c ≠ d ∨ (c = d ∧ ks.length ≠ ls.length) ∨ (c = d ∧ ks.length = ls.length) by omega) with hq | hq | hq
  · skip
    refine wp_rs fun K4 hK4 => ?_
    refine s_val hF (x_fa0 fa36_0 rfl) (by decide) fun a hF => ?_
    refine s_val hF (x_load rfl (m_load flat3 (m2.cell (j := 0) rfl))) (by decide) fun a hF => ?_
    refine s_val hF (x_fa0 fa36_0 rfl) (by decide) fun a hF => ?_
    refine s_val hF (x_load rfl (m_load flat3 (m3.cell (j := 0) rfl))) (by decide) fun a hF => ?_
    refine s_val hF (x_neq (b := true) (decide_eq_true (by omega)) rfl rfl) (by decide) fun a hF => ?_
    refine s_val hF (x_move rfl) (by decide) fun a hF => ?_
    refine s_grdn 11 hF rfl rfl (by decide) fun a hF => ?_
    refine s_grdn 11 hF rfl rfl (by decide) fun a hF => ?_
    refine s_grdn 11 hF rfl rfl (by decide) fun a hF => ?_
    refine s_grdn 11 hF rfl rfl (by decide) fun a hF => ?_
    refine s_grdn 11 hF rfl rfl (by decide) fun a hF => ?_
    refine s_grdn 11 hF rfl rfl (by decide) fun a hF => ?_
    refine s_grdn 11 hF rfl rfl (by decide) fun a hF => ?_
    refine s_val hF (x_pick (b := true) rfl rfl) (by decide) fun a hF => ?_
    refine s_end (hK4 _ _ ?_)
    refine wp_if hF rfl ?_
    refine wp_rs fun K5 hK5 => ?_
    refine s_val hF (x_assign rfl) (by decide) fun a hF => ?_
    refine s_end (hK5 _ _ ?_)
    refine wp_ret (then_ret (res_slot hF rfl rfl ⟨by rw [decide_eq_false (fun h => hq h.1)], hB⟩))
  · skip
    refine wp_rs fun K6 hK6 => ?_
    refine s_val hF (x_fa0 fa36_0 rfl) (by decide) fun a hF => ?_
    refine s_val hF (x_load rfl (m_load flat3 (m2.cell (j := 0) rfl))) (by decide) fun a hF => ?_
    refine s_val hF (x_fa0 fa36_0 rfl) (by decide) fun a hF => ?_
    refine s_val hF (x_load rfl (m_load flat3 (m3.cell (j := 0) rfl))) (by decide) fun a hF => ?_
    refine s_val hF (x_neq (b := false) (decide_eq_false (by omega)) rfl rfl) (by decide) fun a hF => ?_
    refine s_val hF (x_move rfl) (by decide) fun a hF => ?_
    refine s_grd 11 hF rfl rfl rfl ?_
    refine s_val hF (x_fa0 fa36_1 rfl) (by decide) fun a hF => ?_
    refine s_grd 11 hF rfl rfl rfl ?_
    refine s_val hF (x_load rfl (m_load flat29 (m2.cell (j := 1) rfl))) (by decide) fun a hF => ?_
    refine s_grd 11 hF rfl rfl rfl ?_
    refine s_val hF (x_len Try.underlying83 rfl) (by decide) fun a hF => ?_
    refine s_grd 11 hF rfl rfl rfl ?_
    refine s_val hF (x_fa0 fa36_1 rfl) (by decide) fun a hF => ?_
    refine s_grd 11 hF rfl rfl rfl ?_
    refine s_val hF (x_load rfl (m_load flat29 (m3.cell (j := 1) rfl))) (by decide) fun a hF => ?_
    refine s_grd 11 hF rfl rfl rfl ?_
    refine s_val hF (x_len Try.underlying83 rfl) (by decide) fun a hF => ?_
    refine s_grd 11 hF rfl rfl rfl ?_
    refine s_val hF (x_neq (b := true) (decide_eq_true (by omega)) rfl rfl) (by decide) fun a hF => ?_
    refine s_val hF (x_pick (b := false) rfl rfl) (by decide) fun a hF => ?_
    refine s_end (hK6 _ _ ?_)
    refine wp_if hF rfl ?_
    refine wp_rs fun K7 hK7 => ?_
    refine s_val hF (x_assign rfl) (by decide) fun a hF => ?_
    refine s_end (hK7 _ _ ?_)
    refine wp_ret (then_ret (res_slot hF rfl rfl ⟨by rw [decide_eq_false (fun h => hq.2 (by rw [h.2]))], hB⟩))
  · skip
    refine wp_rs fun K8 hK8 => ?_
    refine s_val hF (x_fa0 fa36_0 rfl) (by decide) fun a hF => ?_
    refine s_val hF (x_load rfl (m_load flat3 (m2.cell (j := 0) rfl))) (by decide) fun a hF => ?_
    refine s_val hF (x_fa0 fa36_0 rfl) (by decide) fun a hF => ?_
    refine s_val hF (x_load rfl (m_load flat3 (m3.cell (j := 0) rfl))) (by decide) fun a hF => ?_
    refine s_val hF (x_neq (b := false) (decide_eq_false (by omega)) rfl rfl) (by decide) fun a hF => ?_
    refine s_val hF (x_move rfl) (by decide) fun a hF => ?_
    refine s_grd 11 hF rfl rfl rfl ?_
    refine s_val hF (x_fa0 fa36_1 rfl) (by decide) fun a hF => ?_
    refine s_grd 11 hF rfl rfl rfl ?_
    refine s_val hF (x_load rfl (m_load flat29 (m2.cell (j := 1) rfl))) (by decide) fun a hF => ?_
    refine s_grd 11 hF rfl rfl rfl ?_
    refine s_val hF (x_len Try.underlying83 rfl) (by decide) fun a hF => ?_
    refine s_grd 11 hF rfl rfl rfl ?_
    refine s_val hF (x_fa0 fa36_1 rfl) (by decide) fun a hF => ?_
    refine s_grd 11 hF rfl rfl rfl ?_
    refine s_val hF (x_load rfl (m_load flat29 (m3.cell (j := 1) rfl))) (by decide) fun a hF => ?_
    refine s_grd 11 hF rfl rfl rfl ?_
    refine s_val hF (x_len Try.underlying83 rfl) (by decide) fun a hF => ?_
    refine s_grd 11 hF rfl rfl rfl ?_
    refine s_val hF (x_neq (b := false) (decide_eq_false (by omega)) rfl rfl) (by decide) fun a hF => ?_
    refine s_val hF (x_pick (b := false) rfl rfl) (by decide) fun a hF => ?_
    refine s_end (hK8 _ _ ?_)
    refine wp_if hF rfl ?_
    refine wp_skip (hK2 _ _ ?_)
    refine wp_seq_k fun K9 hK9 => ?_
    refine wp_rs fun K10 hK10 => ?_
    refine s_val hF (x_fa0 fa36_1 rfl) (by decide) fun a hF => ?_
    refine s_val hF (x_load rfl (m_load flat29 (m2.cell (j := 1) rfl))) (by decide) fun a hF => ?_
    refine s_val hF (x_len Try.underlying83 rfl) (by decide) fun a hF => ?_
    refine s_val hF (x_move rfl) (by decide) fun a hF => ?_
    refine s_end (hK10 _ _ ?_)
    refine wp_block ?_
    refine wp_up ks.length (fun i a w => ks.take i = ls.take i ∧ Blk w b2 104 [.int .i64 c, .slice av ks.length cv] ∧ Blk w b3 104 [.int .i64 d, .slice au ls.length cu] ∧ Below w0.heap.size w0 w ∧ Fs 38 a [(23, .int .i64 (i : Int)), (22, .int .i64 (ks.length : Int)), (2, .pointer (some ⟨b2, 0, none⟩)), (3, .pointer (some ⟨b3, 0, none⟩))]) ⟨by simp, m2, m3, hB, hF.sub _ rfl⟩ ?_
    repeat clear hF
    clear hB m2 m3
    rintro i a w hi ⟨heq, m2, m3, hB, hF⟩ K' hK'
    have sB := hB.size
    have hm2 := m2.lt
    have hm3 := m3.lt
    refine wp_rs fun K11 hK11 => ?_
    refine s_val hF (x_lss rfl rfl rfl) (by decide) fun a hF => ?_
    refine s_end (hK11 _ _ ?_)
    refine wp_seq_k fun K12 hK12 => ?_
    refine wp_iff hF rfl (fun hc24 => ?_) (fun hc24 => ?_)
    · obtain ⟨b4, off4, c4, hve, hrow1⟩ := rd_rowI hV (i := i) (by omega)
      cases hve
      obtain ⟨b5, off5, c5, hve, hrow2⟩ := rd_rowI hU (i := i) (by omega)
      cases hve
      refine wp_skip (hK12 _ _ ?_)
      refine wp_seq_k fun K13 hK13 => ?_
      refine wp_block ?_
      refine wp_rs fun K14 hK14 => ?_
      refine s_val hF (x_move rfl) (by decide) fun a hF => ?_
      refine s_val hF (x_assign rfl) (by decide) fun a hF => ?_
      refine s_end (hK14 _ _ ?_)
      refine dk2_seq (w.heap.size) (w.heap.size) (ops := regOps Try.f137 6) (N := 11) (by kernel_rfl) wide_orders (by kernel_rfl) fun w6 hw6 B7 hS K15 hK15 => ?_
      have zw6 : w6.heap.size = w.heap.size := by rw [hw6]
      have sB7 := B7.size
      have hB := hB.trans (B7.mono hB.size)
      have m2 := m2.old B7
      have m3 := m3.old B7
      have m2_d := m2
      have m3_d := m3
      have hB_d := hB
      refine d_val 0 26 (op := (Go.Op.fieldAddr 104 (Go.Operand.tmp 2) 1)) hF hS (by kernel_rfl) (fun W hW => x_fa0 fa36_1 rfl) (by kernel_rfl) (by decide) fun a hF => ?_
      refine d_val 1 27 (op := (Go.Op.load 83 (Go.Operand.tmp 26))) hF hS (by kernel_rfl) (fun W hW => x_load rfl (m_load flat29 ((m2_d.k2 hW (by omega)).cell (j := 1) rfl))) (by kernel_rfl) (by decide) fun a hF => ?_
      refine d_val 2 28 (op := (Go.Op.move (Go.Operand.tmp 5))) hF hS (by kernel_rfl) (fun W hW => x_move rfl) (by kernel_rfl) (by decide) fun a hF => ?_
      refine d_val 3 29 (op := (Go.Op.indexAddr 83 (Go.Operand.tmp 27) (Go.Operand.tmp 28))) hF hS (by kernel_rfl) (fun W hW => x_ixa rfl rfl (m_ixs i Try.underlying83 el29.size rfl (by omega))) (by kernel_rfl) (by decide) fun a hF => ?_
      refine d_val 4 30 (op := (Go.Op.load 3 (Go.Operand.tmp 29))) hF hS (by kernel_rfl) (fun W hW => x_load rfl (m_load flat3 (hrow1 _ (hW.under hB_d (by omega))))) (by kernel_rfl) (by decide) fun a hF => ?_
      refine d_val 5 31 (op := (Go.Op.fieldAddr 104 (Go.Operand.tmp 3) 1)) hF hS (by kernel_rfl) (fun W hW => x_fa0 fa36_1 rfl) (by kernel_rfl) (by decide) fun a hF => ?_
      refine d_val 6 32 (op := (Go.Op.load 83 (Go.Operand.tmp 31))) hF hS (by kernel_rfl) (fun W hW => x_load rfl (m_load flat29 ((m3_d.k2 hW (by omega)).cell (j := 1) rfl))) (by kernel_rfl) (by decide) fun a hF => ?_
      refine d_val 7 33 (op := (Go.Op.move (Go.Operand.tmp 5))) hF hS (by kernel_rfl) (fun W hW => x_move rfl) (by kernel_rfl) (by decide) fun a hF => ?_
      refine d_val 8 34 (op := (Go.Op.indexAddr 83 (Go.Operand.tmp 32) (Go.Operand.tmp 33))) hF hS (by kernel_rfl) (fun W hW => x_ixa rfl rfl (m_ixs i Try.underlying83 el29.size rfl (by omega))) (by kernel_rfl) (by decide) fun a hF => ?_
      refine d_val 9 35 (op := (Go.Op.load 3 (Go.Operand.tmp 34))) hF hS (by kernel_rfl) (fun W hW => x_load rfl (m_load flat3 (hrow2 _ (hW.under hB_d (by omega))))) (by kernel_rfl) (by decide) fun a hF => ?_
      refine d_val 10 36 (op := (Go.Op.binOp Go.BinOp.neq 3 (Go.Operand.tmp 30) (Go.Operand.tmp 35) 3)) hF hS (by kernel_rfl) (fun W hW => x_neq rfl rfl rfl) (by kernel_rfl) (by decide) fun a hF => ?_
      refine d_end (by kernel_rfl) (hK15 _ _ ?_)
      refine wp_iff hF rfl (fun hc36 => ?_) (fun hc36 => ?_)
      · refine wp_rs fun K16 hK16 => ?_
        refine s_val hF (x_assign rfl) (by decide) fun a hF => ?_
        refine s_end (hK16 _ _ ?_)
        refine wp_ret (inb_ret (then_ret (then_ret (inb_ret (then_ret (res_slot hF rfl rfl ⟨by rw [decide_eq_false (fun h => hc36 (by rw [h.2]))], hB⟩))))))
      · refine wp_skip (hK13 _ _ ?_)
        refine wp_region_lit ?_
        refine s_val hF (x_addn (i + 1) (by omega) (by omega) rfl rfl) (by decide) fun a hF => ?_
        refine s_val hF (x_move rfl) (by decide) fun a hF => ?_
        have heq2 : ks.take (i + 1) = ls.take (i + 1) := by rw [List.take_add_one, List.take_add_one, heq, List.getElem?_eq_getElem (by omega), List.getElem?_eq_getElem (by omega)]; rw [gt_lt (by omega), gt_lt (by omega)] at hc36; rw [show ks[i] = ls[i] by omega]
        refine s_end (hK' _ _ (by omega) ⟨heq2, m2, m3, hB, hF.sub _ rfl⟩)
    · refine wp_exit (hK9 _ _ ?_)
      refine wp_rs fun K17 hK17 => ?_
      refine s_val hF (x_assign rfl) (by decide) fun a hF => ?_
      refine s_end (hK17 _ _ ?_)
      refine wp_ret (res_slot hF rfl rfl ⟨by rw [decide_eq_true (show c = d ∧ ks = ls from ⟨hq.1, by rw [← List.take_of_length_le (l := ks) (i := i) (by omega), ← List.take_of_length_le (l := ls) (i := i) (by omega)]; exact heq⟩)], hB⟩)

set_option maxRecDepth 100000 in
set_option maxHeartbeats 1600000 in
theorem rEqual24 (x y : C3) (la lb : Lv) (w0 : World) (hLa : RL w0 x la) (hLb : RL w0 y lb) : Calls Try.prog 118 #[lv x, lv y] w0 fun e w' => ∃ v, e = .returned v ∧ (∃ b, v = .bool b ∧ TB w0 x y la lb eqF b) ∧ Below w0.heap.size w0 w' := by
  have hB := Below.refl w0.heap.size w0
  have sB := hB.size
  refine calls_fs 18 [(0, lv x), (1, lv y)] Try.func118 rfl rfl rfl rfl rfl fun a hF => ?_
  refine wp_rs fun K1 hK1 => ?_
  refine s_box (lc x) hF (by decide) rfl rfl fun w2 b2 a eb2 m2 B3 zb2 hF => ?_
  have sB3 := B3.size
  have hB := hB.trans (B3.mono hB.size)
  refine s_box (lc y) hF (by decide) rfl rfl fun w4 b3 a eb3 m3 B5 zb3 hF => ?_
  have sB5 := B5.size
  have hB := hB.trans (B5.mono hB.size)
  have m2 := m2.old B5
  refine s_val hF (x_assign rfl) (by decide) fun a hF => ?_
  refine s_end (hK1 _ _ ?_)
  rcases (show decide (sndL la) = false ∨ (decide (sndL la) = true ∧ decide (sndL lb) = false) ∨ (decide (sndL la) = true ∧ decide (sndL lb) = true) by cases decide (sndL la) <;> cases decide (sndL lb) <;> simp) with hd1 | ⟨hd1, hd2⟩ | ⟨hd1, hd2⟩
  · have hn : ¬ (sndL la ∧ sndL lb) := fun h => by exact absurd h.1 (of_decide_eq_false hd1)
    refine dk2_seq (w4.heap.size) (w4.heap.size) (ops := regOps Try.f118 1) (N := 14) (by kernel_rfl) wide_orders (by kernel_rfl) fun w6 hw6 B7 hS K3 hK3 => ?_
    have zw6 : w6.heap.size = w4.heap.size := by rw [hw6]
    have sB7 := B7.size
    have hB := hB.trans (B7.mono hB.size)
    have m2 := m2.old B7
    have m3 := m3.old B7
    have m2_d := m2
    have m3_d := m3
    have hB_d := hB
    refine d_val 0 5 (op := (Go.Op.load 24 (Go.Operand.tmp 2))) hF hS (by kernel_rfl) (fun W hW => x_ldW wide24 (m2_d.k2 hW (by omega)) rfl rfl) (by kernel_rfl) (by decide) fun a hF => ?_
    refine d_one 1 (some 6) (Go.Op.call (Go.Call.mk (Go.Callee.value (Go.Operand.func 59)) #[(Go.Operand.tmp 5)] #[24])) (by kernel_rfl) (by kernel_rfl) fun ty pos af => ?_
    refine s_callB [_] hF (enters_of Try.func59 (by kernel_rfl) rfl) rfl (by decide) (rSound17 x la w6 (hLa.old hB)) fun w8 a B9 hF => ?_
    have sB9 := B9.size
    have hB := hB.trans (B9.mono hB.size)
    have m2 := m2.old B9
    have m3 := m3.old B9
    have hS := hS.below B9
    rw [hd1] at hF
    refine s_end ⟨hS, ?_⟩
    refine d_val 2 7 (op := (Go.Op.move (Go.Operand.tmp 6))) hF hS (by kernel_rfl) (fun W hW => x_move rfl) (by kernel_rfl) (by decide) fun a hF => ?_
    refine d_skip 3 8 7 (j := 2) (want := true) (op := (Go.Op.load 24 (Go.Operand.tmp 3))) hF hS (by kernel_rfl) (by kernel_rfl) rfl (by kernel_rfl) (by decide) fun a hF => ?_
    refine d_skip 4 9 7 (j := 2) (want := true) (op := (Go.Op.call (Go.Call.mk (Go.Callee.value (Go.Operand.func 59)) #[(Go.Operand.tmp 8)] #[24]))) hF hS (by kernel_rfl) (by kernel_rfl) rfl (by kernel_rfl) (by decide) fun a hF => ?_
    refine d_val 5 10 (op := (Go.Op.pick (Go.Operand.tmp 7) (Go.Operand.tmp 9) (Go.Operand.const (Go.Value.bool false)))) hF hS (by kernel_rfl) (fun W hW => x_pick (b := false) rfl rfl) (by kernel_rfl) (by decide) fun a hF => ?_
    refine d_val 6 11 (op := (Go.Op.move (Go.Operand.tmp 10))) hF hS (by kernel_rfl) (fun W hW => x_move rfl) (by kernel_rfl) (by decide) fun a hF => ?_
    refine d_skip 7 12 11 (j := 6) (want := true) (op := (Go.Op.load 24 (Go.Operand.tmp 2))) hF hS (by kernel_rfl) (by kernel_rfl) rfl (by kernel_rfl) (by decide) fun a hF => ?_
    refine d_skip 8 13 11 (j := 6) (want := true) (op := (Go.Op.call (Go.Call.mk (Go.Callee.value (Go.Operand.func 96)) #[(Go.Operand.tmp 12)] #[24]))) hF hS (by kernel_rfl) (by kernel_rfl) rfl (by kernel_rfl) (by decide) fun a hF => ?_
    refine d_skip 9 14 11 (j := 6) (want := true) (op := (Go.Op.load 24 (Go.Operand.tmp 3))) hF hS (by kernel_rfl) (by kernel_rfl) rfl (by kernel_rfl) (by decide) fun a hF => ?_
    refine d_skip 10 15 11 (j := 6) (want := true) (op := (Go.Op.call (Go.Call.mk (Go.Callee.value (Go.Operand.func 96)) #[(Go.Operand.tmp 14)] #[24]))) hF hS (by kernel_rfl) (by kernel_rfl) rfl (by kernel_rfl) (by decide) fun a hF => ?_
    refine d_skip 11 16 11 (j := 6) (want := true) (op := (Go.Op.call (Go.Call.mk (Go.Callee.value (Go.Operand.func 137)) #[(Go.Operand.tmp 13), (Go.Operand.tmp 15)] #[104, 104]))) hF hS (by kernel_rfl) (by kernel_rfl) rfl (by kernel_rfl) (by decide) fun a hF => ?_
    refine d_val 12 17 (op := (Go.Op.pick (Go.Operand.tmp 11) (Go.Operand.tmp 16) (Go.Operand.const (Go.Value.bool false)))) hF hS (by kernel_rfl) (fun W hW => x_pick (b := false) rfl rfl) (by kernel_rfl) (by decide) fun a hF => ?_
    refine d_val 13 4 (op := (Go.Op.assign (Go.Operand.tmp 17))) hF hS (by kernel_rfl) (fun W hW => x_assign rfl) (by kernel_rfl) (by decide) fun a hF => ?_
    refine d_end (by kernel_rfl) (hK3 _ _ ?_)
    refine wp_ret (res_slot hF rfl rfl ⟨_, rfl, ⟨_, rfl, fun _ => rfl, fun s t hs ht g1 g2 => absurd ⟨rs_snd hLa hs g1, rs_snd hLb ht g2⟩ hn⟩, hB⟩)
  · have hn : ¬ (sndL la ∧ sndL lb) := fun h => by exact absurd h.2 (of_decide_eq_false hd2)
    refine dk2_seq (w4.heap.size) (w4.heap.size) (ops := regOps Try.f118 1) (N := 14) (by kernel_rfl) wide_orders (by kernel_rfl) fun w10 hw10 B11 hS K4 hK4 => ?_
    have zw10 : w10.heap.size = w4.heap.size := by rw [hw10]
    have sB11 := B11.size
    have hB := hB.trans (B11.mono hB.size)
    have m2 := m2.old B11
    have m3 := m3.old B11
    have m2_d := m2
    have m3_d := m3
    have hB_d := hB
    refine d_val 0 5 (op := (Go.Op.load 24 (Go.Operand.tmp 2))) hF hS (by kernel_rfl) (fun W hW => x_ldW wide24 (m2_d.k2 hW (by omega)) rfl rfl) (by kernel_rfl) (by decide) fun a hF => ?_
    refine d_one 1 (some 6) (Go.Op.call (Go.Call.mk (Go.Callee.value (Go.Operand.func 59)) #[(Go.Operand.tmp 5)] #[24])) (by kernel_rfl) (by kernel_rfl) fun ty pos af => ?_
    refine s_callB [_] hF (enters_of Try.func59 (by kernel_rfl) rfl) rfl (by decide) (rSound17 x la w10 (hLa.old hB)) fun w12 a B13 hF => ?_
    have sB13 := B13.size
    have hB := hB.trans (B13.mono hB.size)
    have m2 := m2.old B13
    have m3 := m3.old B13
    have hS := hS.below B13
    rw [hd1] at hF
    refine s_end ⟨hS, ?_⟩
    refine d_val 2 7 (op := (Go.Op.move (Go.Operand.tmp 6))) hF hS (by kernel_rfl) (fun W hW => x_move rfl) (by kernel_rfl) (by decide) fun a hF => ?_
    refine d_valg 3 8 7 (j := 2) (want := true) (op := (Go.Op.load 24 (Go.Operand.tmp 3))) hF hS (by kernel_rfl) (by kernel_rfl) rfl (fun W hW => x_ldW wide24 (m3_d.k2 hW (by omega)) rfl rfl) (by kernel_rfl) (by decide) fun a hF => ?_
    refine d_oneg 4 7 (some 9) (Go.Op.call (Go.Call.mk (Go.Callee.value (Go.Operand.func 59)) #[(Go.Operand.tmp 8)] #[24])) (j := 2) (want := true) hF (by kernel_rfl) (by kernel_rfl) (by kernel_rfl) rfl fun ty pos af => ?_
    refine s_callB [_] hF (enters_of Try.func59 (by kernel_rfl) rfl) rfl (by decide) (rSound17 y lb w12 (hLb.old hB)) fun w14 a B15 hF => ?_
    have sB15 := B15.size
    have hB := hB.trans (B15.mono hB.size)
    have m2 := m2.old B15
    have m3 := m3.old B15
    have hS := hS.below B15
    rw [hd2] at hF
    refine s_end ⟨hS, ?_⟩
    refine d_val 5 10 (op := (Go.Op.pick (Go.Operand.tmp 7) (Go.Operand.tmp 9) (Go.Operand.const (Go.Value.bool false)))) hF hS (by kernel_rfl) (fun W hW => x_pick (b := true) rfl rfl) (by kernel_rfl) (by decide) fun a hF => ?_
    refine d_val 6 11 (op := (Go.Op.move (Go.Operand.tmp 10))) hF hS (by kernel_rfl) (fun W hW => x_move rfl) (by kernel_rfl) (by decide) fun a hF => ?_
    refine d_skip 7 12 11 (j := 6) (want := true) (op := (Go.Op.load 24 (Go.Operand.tmp 2))) hF hS (by kernel_rfl) (by kernel_rfl) rfl (by kernel_rfl) (by decide) fun a hF => ?_
    refine d_skip 8 13 11 (j := 6) (want := true) (op := (Go.Op.call (Go.Call.mk (Go.Callee.value (Go.Operand.func 96)) #[(Go.Operand.tmp 12)] #[24]))) hF hS (by kernel_rfl) (by kernel_rfl) rfl (by kernel_rfl) (by decide) fun a hF => ?_
    refine d_skip 9 14 11 (j := 6) (want := true) (op := (Go.Op.load 24 (Go.Operand.tmp 3))) hF hS (by kernel_rfl) (by kernel_rfl) rfl (by kernel_rfl) (by decide) fun a hF => ?_
    refine d_skip 10 15 11 (j := 6) (want := true) (op := (Go.Op.call (Go.Call.mk (Go.Callee.value (Go.Operand.func 96)) #[(Go.Operand.tmp 14)] #[24]))) hF hS (by kernel_rfl) (by kernel_rfl) rfl (by kernel_rfl) (by decide) fun a hF => ?_
    refine d_skip 11 16 11 (j := 6) (want := true) (op := (Go.Op.call (Go.Call.mk (Go.Callee.value (Go.Operand.func 137)) #[(Go.Operand.tmp 13), (Go.Operand.tmp 15)] #[104, 104]))) hF hS (by kernel_rfl) (by kernel_rfl) rfl (by kernel_rfl) (by decide) fun a hF => ?_
    refine d_val 12 17 (op := (Go.Op.pick (Go.Operand.tmp 11) (Go.Operand.tmp 16) (Go.Operand.const (Go.Value.bool false)))) hF hS (by kernel_rfl) (fun W hW => x_pick (b := false) rfl rfl) (by kernel_rfl) (by decide) fun a hF => ?_
    refine d_val 13 4 (op := (Go.Op.assign (Go.Operand.tmp 17))) hF hS (by kernel_rfl) (fun W hW => x_assign rfl) (by kernel_rfl) (by decide) fun a hF => ?_
    refine d_end (by kernel_rfl) (hK4 _ _ ?_)
    refine wp_ret (res_slot hF rfl rfl ⟨_, rfl, ⟨_, rfl, fun _ => rfl, fun s t hs ht g1 g2 => absurd ⟨rs_snd hLa hs g1, rs_snd hLb ht g2⟩ hn⟩, hB⟩)
  · have hsa : sndL la := of_decide_eq_true hd1
    have hsb : sndL lb := of_decide_eq_true hd2
    obtain ⟨s, hs, hsg⟩ := sound_sl hLa hsa
    obtain ⟨t, ht, htg⟩ := sound_sl hLb hsb
    have hns := nfK_len s hsg
    have hnt := nfK_len t htg
    refine dk2_seq (w4.heap.size) (w4.heap.size) (ops := regOps Try.f118 1) (N := 14) (by kernel_rfl) wide_orders (by kernel_rfl) fun w16 hw16 B17 hS K5 hK5 => ?_
    have zw16 : w16.heap.size = w4.heap.size := by rw [hw16]
    have sB17 := B17.size
    have hB := hB.trans (B17.mono hB.size)
    have m2 := m2.old B17
    have m3 := m3.old B17
    have m2_d := m2
    have m3_d := m3
    have hB_d := hB
    refine d_val 0 5 (op := (Go.Op.load 24 (Go.Operand.tmp 2))) hF hS (by kernel_rfl) (fun W hW => x_ldW wide24 (m2_d.k2 hW (by omega)) rfl rfl) (by kernel_rfl) (by decide) fun a hF => ?_
    refine d_one 1 (some 6) (Go.Op.call (Go.Call.mk (Go.Callee.value (Go.Operand.func 59)) #[(Go.Operand.tmp 5)] #[24])) (by kernel_rfl) (by kernel_rfl) fun ty pos af => ?_
    refine s_callB [_] hF (enters_of Try.func59 (by kernel_rfl) rfl) rfl (by decide) (rSound17 x la w16 (hLa.old hB)) fun w18 a B19 hF => ?_
    have sB19 := B19.size
    have hB := hB.trans (B19.mono hB.size)
    have m2 := m2.old B19
    have m3 := m3.old B19
    have hS := hS.below B19
    rw [hd1] at hF
    refine s_end ⟨hS, ?_⟩
    refine d_val 2 7 (op := (Go.Op.move (Go.Operand.tmp 6))) hF hS (by kernel_rfl) (fun W hW => x_move rfl) (by kernel_rfl) (by decide) fun a hF => ?_
    refine d_valg 3 8 7 (j := 2) (want := true) (op := (Go.Op.load 24 (Go.Operand.tmp 3))) hF hS (by kernel_rfl) (by kernel_rfl) rfl (fun W hW => x_ldW wide24 (m3_d.k2 hW (by omega)) rfl rfl) (by kernel_rfl) (by decide) fun a hF => ?_
    refine d_oneg 4 7 (some 9) (Go.Op.call (Go.Call.mk (Go.Callee.value (Go.Operand.func 59)) #[(Go.Operand.tmp 8)] #[24])) (j := 2) (want := true) hF (by kernel_rfl) (by kernel_rfl) (by kernel_rfl) rfl fun ty pos af => ?_
    refine s_callB [_] hF (enters_of Try.func59 (by kernel_rfl) rfl) rfl (by decide) (rSound17 y lb w18 (hLb.old hB)) fun w20 a B21 hF => ?_
    have sB21 := B21.size
    have hB := hB.trans (B21.mono hB.size)
    have m2 := m2.old B21
    have m3 := m3.old B21
    have hS := hS.below B21
    rw [hd2] at hF
    refine s_end ⟨hS, ?_⟩
    refine d_val 5 10 (op := (Go.Op.pick (Go.Operand.tmp 7) (Go.Operand.tmp 9) (Go.Operand.const (Go.Value.bool false)))) hF hS (by kernel_rfl) (fun W hW => x_pick (b := true) rfl rfl) (by kernel_rfl) (by decide) fun a hF => ?_
    refine d_val 6 11 (op := (Go.Op.move (Go.Operand.tmp 10))) hF hS (by kernel_rfl) (fun W hW => x_move rfl) (by kernel_rfl) (by decide) fun a hF => ?_
    refine d_valg 7 12 11 (j := 6) (want := true) (op := (Go.Op.load 24 (Go.Operand.tmp 2))) hF hS (by kernel_rfl) (by kernel_rfl) rfl (fun W hW => x_ldW wide24 (m2_d.k2 hW (by omega)) rfl rfl) (by kernel_rfl) (by decide) fun a hF => ?_
    refine d_valg 9 14 11 (j := 6) (want := true) (op := (Go.Op.load 24 (Go.Operand.tmp 3))) hF hS (by kernel_rfl) (by kernel_rfl) rfl (fun W hW => x_ldW wide24 (m3_d.k2 hW (by omega)) rfl rfl) (by kernel_rfl) (by decide) fun a hF => ?_
    refine d_oneg 8 11 (some 13) (Go.Op.call (Go.Call.mk (Go.Callee.value (Go.Operand.func 96)) #[(Go.Operand.tmp 12)] #[24])) (j := 6) (want := true) hF (by kernel_rfl) (by kernel_rfl) (by kernel_rfl) rfl fun ty pos af => ?_
    refine s_callR (R := fun u w' => ∃ v', u = .agg [.int .i64 (nfC s), v'].toArray ∧ Rd w' v' 1 (nfK s).length (ints (nfK s)) ∧ ∀ j, v'.ownBlock = some j → w20.heap.size ≤ j) [_] hF (enters_of Try.func96 (by kernel_rfl) rfl) rfl (by decide) (rNorm20 s x w20 (RS.below hB hs) hsg.2.2) ?_
    rintro _ w22 a ⟨v1, rfl, hv1, hy1⟩ B23 hF
    have sB23 := B23.size
    have hB := hB.trans (B23.mono hB.size)
    have m2 := m2.old B23
    have m3 := m3.old B23
    have hS := hS.below B23
    refine s_end ⟨hS, ?_⟩
    refine d_oneg 10 11 (some 15) (Go.Op.call (Go.Call.mk (Go.Callee.value (Go.Operand.func 96)) #[(Go.Operand.tmp 14)] #[24])) (j := 6) (want := true) hF (by kernel_rfl) (by kernel_rfl) (by kernel_rfl) rfl fun ty pos af => ?_
    refine s_callR (R := fun u w' => ∃ v', u = .agg [.int .i64 (nfC t), v'].toArray ∧ Rd w' v' 1 (nfK t).length (ints (nfK t)) ∧ ∀ j, v'.ownBlock = some j → w22.heap.size ≤ j) [_] hF (enters_of Try.func96 (by kernel_rfl) rfl) rfl (by decide) (rNorm20 t y w22 (RS.below hB ht) htg.2.2) ?_
    rintro _ w24 a ⟨v2, rfl, hv2, hy2⟩ B25 hF
    have sB25 := B25.size
    have hB := hB.trans (B25.mono hB.size)
    have m2 := m2.old B25
    have m3 := m3.old B25
    have hv1 := hv1.below B25
    have hS := hS.below B25
    refine s_end ⟨hS, ?_⟩
    refine d_oneg 11 11 (some 16) (Go.Op.call (Go.Call.mk (Go.Callee.value (Go.Operand.func 137)) #[(Go.Operand.tmp 13), (Go.Operand.tmp 15)] #[104, 104])) (j := 6) (want := true) hF (by kernel_rfl) (by kernel_rfl) (by kernel_rfl) rfl fun ty pos af => ?_
    refine s_callB [_, _] hF (enters_of Try.func137 (by kernel_rfl) rfl) rfl (by decide) (sameForm45 _ _ _ _ (nfK s) (nfK t) w24 (by omega) hv1 hv2) fun w26 a B27 hF => ?_
    have sB27 := B27.size
    have hB := hB.trans (B27.mono hB.size)
    have m2 := m2.old B27
    have m3 := m3.old B27
    have hv1 := hv1.below B27
    have hv2 := hv2.below B27
    have hS := hS.below B27
    refine s_end ⟨hS, ?_⟩
    refine d_val 12 17 (op := (Go.Op.pick (Go.Operand.tmp 11) (Go.Operand.tmp 16) (Go.Operand.const (Go.Value.bool false)))) hF hS (by kernel_rfl) (fun W hW => x_pick (b := true) rfl rfl) (by kernel_rfl) (by decide) fun a hF => ?_
    refine d_val 13 4 (op := (Go.Op.assign (Go.Operand.tmp 17))) hF hS (by kernel_rfl) (fun W hW => x_assign rfl) (by kernel_rfl) (by decide) fun a hF => ?_
    refine d_end (by kernel_rfl) (hK5 _ _ ?_)
    refine wp_ret (res_slot hF rfl rfl ⟨_, rfl, ⟨_, rfl, fun h => absurd ⟨hsa, hsb⟩ h, fun s' t' hs' ht' _ _ => by rw [RS.inj hs' hs, RS.inj ht' ht]; rfl⟩, hB⟩)

end Go.Proofs.Ytgpciphjhnabcaa
