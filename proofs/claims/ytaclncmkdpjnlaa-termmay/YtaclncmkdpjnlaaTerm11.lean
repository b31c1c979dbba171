/- How great terms are, and would be. -/
import Derived.Test.YtaclncmkdpjnlaaTerm10
namespace Go.Proofs.Ytaclncmkdpjnlaa
open Go.RowKit Go.Shelf
set_option linter.unusedVariables false
set_option linter.unusedSimpArgs false

theorem RC.bel {w0 w : World} {c : CT} {x : C8} (h : RC w0 (fun k => k < w0.heap.size) c x) (hB : Below w0.heap.size w0 w) : RC w (fun k => k < w.heap.size) c x :=
  (h.keep hB.size (fun k hk _ => hB.block k hk)).mono (fun k hk => by have := hB.size; omega)
theorem bnd2_0 (k : Int) (a b : CT) (m : Nat) : (CT.two k a b m).bnd 0 = 0 := by simp [CT.bnd]
theorem bnd2_1 (k : Int) (a b : CT) (m : Nat) : (CT.two k a b m).bnd 1 = if k = 3 ∨ k = 4 then 1 else 0 := by simp [CT.bnd]
theorem bnd3_0 (a b c : CT) (m : Nat) : (CT.lt a b c m).bnd 0 = 0 := by simp [CT.bnd]
theorem bnd3_1 (a b c : CT) (m : Nat) : (CT.lt a b c m).bnd 1 = 0 := by simp [CT.bnd]
theorem bnd3_2 (a b c : CT) (m : Nat) : (CT.lt a b c m).bnd 2 = 1 := by simp [CT.bnd]
theorem PT.dep_pos (p : PT) : 0 < p.dep := by cases p <;> simp [PT.dep]
theorem PT.lift_size (f b : Int) : ∀ (p : PT) (d : Int), (p.lift f b d).size = p.size ∧ (p.lift f b d).dep = p.dep
  | .two k p q, d => by simp [PT.lift, PT.size, PT.dep, PT.lift_size f b p, PT.lift_size f b q]
  | .lt p q r, d => by simp [PT.lift, PT.size, PT.dep, PT.lift_size f b p, PT.lift_size f b q, PT.lift_size f b r]
  | .var .., d => ⟨rfl, rfl⟩
  | .sort .., d => ⟨rfl, rfl⟩
  | .cst .., d => ⟨rfl, rfl⟩
  | .odd .., d => ⟨rfl, rfl⟩
theorem put_size (v : PT) : ∀ (c : CT) (d : Int), ((PT.put v c.ess d).size : Int) = c.size + (c.fold Gpl d).1 * ((v.size : Int) - 1)
  | .two k a b m, d => by
    have ha := put_size v a (d + (CT.two k a b m).bnd 0)
    have hb := put_size v b (d + (CT.two k a b m).bnd 1)
    simp only [bnd2_0, bnd2_1, Int.add_zero] at ha hb
    simp only [CT.ess, PT.put, PT.size, CT.size, CT.fold, Gpl, CT.isV, List.foldl_cons, List.foldl_nil, plc, bnd2_0, bnd2_1, bnd3_0, bnd3_1, bnd3_2]
    simp only [Bool.false_eq_true, if_false, Int.add_zero, Int.zero_add]
    rw [Int.add_mul]
    omega
  | .lt a b c m, d => by
    have ha := put_size v a (d + (CT.lt a b c m).bnd 0)
    have hb := put_size v b (d + (CT.lt a b c m).bnd 1)
    have hc := put_size v c (d + (CT.lt a b c m).bnd 2)
    simp only [bnd3_0, bnd3_1, bnd3_2, Int.add_zero] at ha hb hc
    simp only [CT.ess, PT.put, PT.size, CT.size, CT.fold, Gpl, CT.isV, List.foldl_cons, List.foldl_nil, plc, bnd2_0, bnd2_1, bnd3_0, bnd3_1, bnd3_2]
    simp only [Bool.false_eq_true, if_false, Int.add_zero, Int.zero_add]
    rw [Int.add_mul, Int.add_mul]
    omega
  | .var n m, d => by
    simp only [CT.ess, PT.put, CT.fold, Gpl, CT.isV, CT.size, List.foldl_nil, decide_eq_true_eq]
    split
    · rw [(v.lift_size 0 d 0).1]; omega
    · simp [PT.size]
  | .sort n m, d => by simp [CT.ess, PT.put, CT.fold, Gpl, CT.isV, CT.size, PT.size]
  | .cst s n m, d => by simp [CT.ess, PT.put, CT.fold, Gpl, CT.isV, CT.size, PT.size]
  | .odd n m, d => by simp [CT.ess, PT.put, CT.fold, Gpl, CT.isV, CT.size, PT.size]
set_option maxHeartbeats 4000000 in
theorem put_dep (v : PT) : ∀ (c : CT) (d : Int), ((PT.put v c.ess d).dep : Int) = max (c.dep : Int) (if 0 < (c.fold Gpl d).1 then (c.fold Gpl d).2 + v.dep - 1 else 0)
  | .two k a b m, d => by
    have ha := put_dep v a (d + (CT.two k a b m).bnd 0)
    have hb := put_dep v b (d + (CT.two k a b m).bnd 1)
    have ga := Gpl_rng a (d + (CT.two k a b m).bnd 0)
    have gb := Gpl_rng b (d + (CT.two k a b m).bnd 1)
    have := v.dep_pos
    simp only [bnd2_0, bnd2_1, Int.add_zero] at ha hb ga gb
    simp only [CT.ess, PT.put, PT.dep, CT.dep, CT.fold, Gpl, CT.isV, List.foldl_cons, List.foldl_nil, plc, bnd2_0, bnd2_1, bnd3_0, bnd3_1, bnd3_2]
    simp only [Bool.false_eq_true, if_false, Int.add_zero, Int.zero_add]
    generalize CT.fold Gpl a d = fa at *
    generalize CT.fold Gpl b (d + if k = 3 ∨ k = 4 then 1 else 0) = fb at *
    generalize (PT.put v a.ess d).dep = pa at *
    generalize (PT.put v b.ess (d + if k = 3 ∨ k = 4 then 1 else 0)).dep = pb at *
    have hs : 0 < fa.1 + fb.1 ↔ 0 < fa.1 ∨ 0 < fb.1 := by omega
    simp only [hs]
    by_cases h1 : 0 < fa.1 <;> by_cases h2 : 0 < fb.1 <;> simp only [h1, h2, if_true, if_false, true_or, or_true, or_self] at ha hb ⊢ <;> omega
  | .lt a b c m, d => by
    have ha := put_dep v a (d + (CT.lt a b c m).bnd 0)
    have hb := put_dep v b (d + (CT.lt a b c m).bnd 1)
    have hc := put_dep v c (d + (CT.lt a b c m).bnd 2)
    have ga := Gpl_rng a (d + (CT.lt a b c m).bnd 0)
    have gb := Gpl_rng b (d + (CT.lt a b c m).bnd 1)
    have gc := Gpl_rng c (d + (CT.lt a b c m).bnd 2)
    have := v.dep_pos
    simp only [bnd3_0, bnd3_1, bnd3_2, Int.add_zero] at ha hb hc ga gb gc
    simp only [CT.ess, PT.put, PT.dep, CT.dep, CT.fold, Gpl, CT.isV, List.foldl_cons, List.foldl_nil, plc, bnd2_0, bnd2_1, bnd3_0, bnd3_1, bnd3_2]
    simp only [Bool.false_eq_true, if_false, Int.add_zero, Int.zero_add]
    generalize CT.fold Gpl a d = fa at *
    generalize CT.fold Gpl b d = fb at *
    generalize CT.fold Gpl c (d + 1) = fc at *
    generalize (PT.put v a.ess d).dep = pa at *
    generalize (PT.put v b.ess d).dep = pb at *
    generalize (PT.put v c.ess (d + 1)).dep = pc at *
    have hs : 0 < fa.1 + fb.1 + fc.1 ↔ (0 < fa.1 ∨ 0 < fb.1) ∨ 0 < fc.1 := by omega
    simp only [hs]
    by_cases h1 : 0 < fa.1 <;> by_cases h2 : 0 < fb.1 <;> by_cases h3 : 0 < fc.1 <;> simp only [h1, h2, h3, if_true, if_false, true_or, or_true, or_self] at ha hb hc ⊢ <;> omega
  | .var n m, d => by
    have := v.dep_pos
    simp only [CT.ess, PT.put, CT.fold, Gpl, CT.isV, CT.dep, List.foldl_nil, decide_eq_true_eq]
    split
    · rw [(v.lift_size 0 d 0).2]; simp; omega
    · simp [PT.dep]; omega
  | .sort n m, d => by simp [CT.ess, PT.put, CT.fold, Gpl, CT.isV, CT.dep, PT.dep]; omega
  | .cst s n m, d => by simp [CT.ess, PT.put, CT.fold, Gpl, CT.isV, CT.dep, PT.dep]; omega
  | .odd n m, d => by simp [CT.ess, PT.put, CT.fold, Gpl, CT.isV, CT.dep, PT.dep]; omega
def PT.ok (p : PT) : Prop := p.size ≤ 20000 ∧ p.dep ≤ 2000
instance (p : PT) : Decidable p.ok := inferInstanceAs (Decidable (_ ∧ _))
theorem CT.ok_ess (c : CT) : c.ess.ok ↔ c.ok := by unfold PT.ok CT.ok; rw [c.ess_size, c.ess_dep]
/-- What it is asked ahead of putting in. -/
def holdsP (n dp vn vd cnt pd : Int) : Prop := n + cnt * (vn - 1) ≤ 20000 ∧ (if 0 < cnt then max dp (pd + vd - 1) else dp) ≤ 2000
instance (n dp vn vd cnt pd : Int) : Decidable (holdsP n dp vn vd cnt pd) := inferInstanceAs (Decidable (_ ∧ _))
theorem holdsP_iff {c v : CT} : holdsP c.size c.dep v.size v.dep (c.fold Gpl 0).1 (c.fold Gpl 0).2 ↔ (PT.put v.ess c.ess 0).ok := by
  have h1 := put_size v.ess c 0
  have h2 := put_dep v.ess c 0
  have h3 := c.dep_pos
  rw [v.ess_size] at h1
  rw [v.ess_dep] at h2
  unfold holdsP PT.ok
  by_cases h : 0 < (c.fold Gpl 0).1 <;> simp only [h, if_true, if_false] at h2 ⊢ <;> omega

set_option maxRecDepth 100000 in
set_option maxHeartbeats 400000 in
theorem placesOf84 (c : CT) (x : C8) (w0 : World) (hx : RC w0 (fun k => k < w0.heap.size) c x) (hok : c.ok) : Calls Try.prog 65 #[tv x] w0 fun e w' => e = .returned (.agg (enc2 (c.fold Gpl 0)).toArray) ∧ Below w0.heap.size w0 w' := by
  have hB := Below.refl w0.heap.size w0
  have sB := hB.size
  refine calls_fs 5 [(0, tv x)] Try.func65 rfl rfl rfl rfl rfl fun a hF => ?_
  refine wp_rs fun K1 hK1 => ?_
  refine s_box (tc x) hF (by decide) rfl rfl fun w2 b1 a eb1 m1 B3 zb1 hF => ?_
  have sB3 := B3.size
  have hB := hB.trans (B3.mono hB.size)
  refine s_alloc hF (by decide) zero93 fun w4 b2 a eb2 m2 B5 zb2 hF => ?_
  have sB5 := B5.size
  have hB := hB.trans (B5.mono hB.size)
  have m1 := m1.old B5
  refine s_end (hK1 _ _ ?_)
  refine wp_rs fun K2 hK2 => ?_
  refine s_val hF (x_ldW wide27 m1 rfl rfl) (by decide) fun a hF => ?_
  refine s_callB [_, _, _] hF (enters_of Try.func100 (by kernel_rfl) rfl) rfl (by decide) (fold119 w4 101 [] (enters_of Try.func101 (by kernel_rfl) rfl) 2000 (by decide) 20000 Gpl _ rfl (fun W c x d kv h1 h2 h3 h4 h5 h6 => clo120 w4 20000 (by decide) 2000 (by decide) W c x d kv h1 h2 h3 h4 h5 h6) (c.size + 1) c x 0 w4 (by omega) hok.1 (hx.bel hB) (by decide) (by have := hok.2; omega) (Below.refl _ _)) fun w6 a B7 hF => ?_
  have sB7 := B7.size
  have hB := hB.trans (B7.mono hB.size)
  have m1 := m1.old B7
  have m2 := m2.old B7
  refine s_putW hF rfl rfl (size_wide wide93) m2 rfl (oneII _ _) fun w10 m2 o11 => ?_
  have so11 := o11.size
  have hB := hB.trans (o11.below (by omega))
  have m1 := m1.only o11 (by omega)
  refine s_end (hK2 _ _ ?_)
  refine wp_ret (res_cell (cs := enc2 _) hF rfl rfl m2 wide93 ⟨rfl, hB⟩)

set_option maxRecDepth 100000 in
set_option maxHeartbeats 400000 in
theorem holds83 (n dp vn vd cnt pd : Int) (w0 : World) (h1 : 0 ≤ n ∧ n ≤ 20000) (h2 : 0 ≤ dp ∧ dp ≤ 20000) (h3 : 0 ≤ vn ∧ vn ≤ 20000) (h4 : 0 ≤ vd ∧ vd ≤ 20000) (h5 : 0 ≤ cnt ∧ cnt ≤ 20000) (h6 : 0 ≤ pd ∧ pd ≤ 20000) :
    Calls Try.prog 64 #[.agg [.int .i64 n, .int .i64 dp].toArray, .agg [.int .i64 vn, .int .i64 vd].toArray, .agg (enc2 (cnt, pd)).toArray] w0 fun e w' => e = .returned (.bool (decide (holdsP n dp vn vd cnt pd))) ∧ Below w0.heap.size w0 w' := by
  have hm : -20000 ≤ cnt * (vn - 1) ∧ cnt * (vn - 1) ≤ 400000000 := by
    have a1 : cnt * (vn - 1) ≤ 20000 * 20000 := by
      rcases Int.lt_or_le vn 1 with h | h
      · have : cnt * (vn - 1) ≤ 0 := Int.mul_nonpos_of_nonneg_of_nonpos h5.1 (by omega); omega
      · exact Int.mul_le_mul (by omega) (by omega) (by omega) (by omega)
    have a2 : cnt * vn ≥ 0 := Int.mul_nonneg h5.1 h3.1
    have a3 : cnt * (vn - 1) = cnt * vn - cnt := by rw [Int.mul_sub, Int.mul_one]
    omega
  have hB := Below.refl w0.heap.size w0
  have sB := hB.size
  refine calls_fs 35 [(0, .agg [.int .i64 n, .int .i64 dp].toArray), (1, .agg [.int .i64 vn, .int .i64 vd].toArray), (2, .agg (enc2 (cnt, pd)).toArray)] Try.func64 rfl rfl rfl rfl rfl fun a hF => ?_
  refine wp_rs fun K1 hK1 => ?_
  refine s_box ([.int .i64 n, .int .i64 dp]) hF (by decide) rfl rfl fun w2 b3 a eb3 m3 B3 zb3 hF => ?_
  have sB3 := B3.size
  have hB := hB.trans (B3.mono hB.size)
  refine s_box ([.int .i64 vn, .int .i64 vd]) hF (by decide) rfl rfl fun w4 b4 a eb4 m4 B5 zb4 hF => ?_
  have sB5 := B5.size
  have hB := hB.trans (B5.mono hB.size)
  have m3 := m3.old B5
  refine s_box ([.int .i64 cnt, .int .i64 pd]) hF (by decide) rfl rfl fun w6 b5 a eb5 m5 B7 zb5 hF => ?_
  have sB7 := B7.size
  have hB := hB.trans (B7.mono hB.size)
  have m3 := m3.old B7
  have m4 := m4.old B7
  refine s_val hF (x_assign rfl) (by decide) fun a hF => ?_
  refine s_end (hK1 _ _ ?_)
  refine wp_rs fun K2 hK2 => ?_
  refine s_val hF (x_fa0 fa70_0 rfl) (by decide) fun a hF => ?_
  refine s_val hF (x_load rfl (m_load flat3 (m3.cell (j := 0) rfl))) (by decide) fun a hF => ?_
  refine s_val hF (x_fa0 fa93_0 rfl) (by decide) fun a hF => ?_
  refine s_val hF (x_load rfl (m_load flat3 (m5.cell (j := 0) rfl))) (by decide) fun a hF => ?_
  refine s_val hF (x_fa0 fa70_0 rfl) (by decide) fun a hF => ?_
  refine s_val hF (x_load rfl (m_load flat3 (m4.cell (j := 0) rfl))) (by decide) fun a hF => ?_
  refine s_val hF (x_sub (by omega) (by omega) rfl rfl) (by decide) fun a hF => ?_
  refine s_val hF (x_mul (by omega) (by omega) rfl rfl) (by decide) fun a hF => ?_
  refine s_val hF (x_add (by omega) (by omega) rfl rfl) (by decide) fun a hF => ?_
  refine s_val hF (x_fa0 fa70_1 rfl) (by decide) fun a hF => ?_
  refine s_val hF (x_load rfl (m_load flat3 (m3.cell (j := 1) rfl))) (by decide) fun a hF => ?_
  refine s_val hF (x_build (vs := [(0, _), (1, _)]) rfl (b70_01 _ _ _)) (by decide) fun a hF => ?_
  refine s_alloc hF (by decide) zero70 fun w8 b7 a eb7 m7 B9 zb7 hF => ?_
  have sB9 := B9.size
  have hB := hB.trans (B9.mono hB.size)
  have m3 := m3.old B9
  have m4 := m4.old B9
  have m5 := m5.old B9
  refine s_putW hF rfl rfl (size_wide wide70) m7 rfl (oneII _ _) fun w12 m7 o13 => ?_
  have so13 := o13.size
  have hB := hB.trans (o13.below (by omega))
  have m3 := m3.only o13 (by omega)
  have m4 := m4.only o13 (by omega)
  have m5 := m5.only o13 (by omega)
  refine s_end (hK2 _ _ ?_)
  refine wp_seq_k fun K3 hK3 => ?_
  rcases (show 0 < cnt ∨ ¬ 0 < cnt by omega) with hk | hk
  · have hif : (if 0 < cnt then max dp (pd + vd - 1) else dp) = max dp (pd + vd - 1) := if_pos hk
    refine wp_rs fun K5 hK5 => ?_
    refine s_val hF (x_fa0 fa93_0 rfl) (by decide) fun a hF => ?_
    refine s_val hF (x_load rfl (m_load flat3 (m5.cell (j := 0) rfl))) (by decide) fun a hF => ?_
    refine s_val hF (x_gtr (b := true) (decide_eq_true (by omega)) rfl rfl) (by decide) fun a hF => ?_
    refine s_end (hK5 _ _ ?_)
    refine wp_if hF rfl ?_
    refine wp_region_lit ?_
    refine s_val hF (x_fa0 fa70_1 rfl) (by decide) fun a hF => ?_
    refine s_val hF (x_load rfl (m_load flat3 (m3.cell (j := 1) rfl))) (by decide) fun a hF => ?_
    refine s_val hF (x_fa0 fa93_1 rfl) (by decide) fun a hF => ?_
    refine s_val hF (x_load rfl (m_load flat3 (m5.cell (j := 1) rfl))) (by decide) fun a hF => ?_
    refine s_val hF (x_fa0 fa70_1 rfl) (by decide) fun a hF => ?_
    refine s_val hF (x_load rfl (m_load flat3 (m4.cell (j := 1) rfl))) (by decide) fun a hF => ?_
    refine s_val hF (x_add (by omega) (by omega) rfl rfl) (by decide) fun a hF => ?_
    refine s_val hF (x_sub (by omega) (by omega) rfl rfl) (by decide) fun a hF => ?_
    refine s_val hF (x_imax rfl rfl) (by decide) fun a hF => ?_
    refine s_val hF (x_fa0 fa70_1 rfl) (by decide) fun a hF => ?_
    refine s_put hF rfl rfl flat3 m7 (by first | (simp; done) | (simp [tc, lc]; done) | decide) rfl fun w14 m7 o15 => ?_
    have so15 := o15.size
    have hB := hB.trans (o15.below (by omega))
    have m3 := m3.only o15 (by omega)
    have m4 := m4.only o15 (by omega)
    have m5 := m5.only o15 (by omega)
    refine s_end (hK3 _ _ ?_)
    refine wp_rs fun K6 hK6 => ?_
    refine s_val hF (x_ldW wide70 m7 rfl rfl) (by decide) fun a hF => ?_
    refine s_callB [_] hF (enters_of Try.func93 (by kernel_rfl) rfl) rfl (by decide) (isIn105 _ _ w14) fun w16 a B17 hF => ?_
    have sB17 := B17.size
    have hB := hB.trans (B17.mono hB.size)
    have m3 := m3.old B17
    have m4 := m4.old B17
    have m5 := m5.old B17
    have m7 := m7.old B17
    refine s_val hF (x_assign rfl) (by decide) fun a hF => ?_
    refine s_end (hK6 _ _ ?_)
    refine wp_ret (res_slot hF rfl rfl ⟨congrArg (fun b => Ending.returned (Value.bool b)) (decide_eq_decide.2 (by unfold holdsP; rw [hif])), hB⟩)
  · have hif : (if 0 < cnt then max dp (pd + vd - 1) else dp) = dp := if_neg hk
    refine wp_rs fun K7 hK7 => ?_
    refine s_val hF (x_fa0 fa93_0 rfl) (by decide) fun a hF => ?_
    refine s_val hF (x_load rfl (m_load flat3 (m5.cell (j := 0) rfl))) (by decide) fun a hF => ?_
    refine s_val hF (x_gtr (b := false) (decide_eq_false (by omega)) rfl rfl) (by decide) fun a hF => ?_
    refine s_end (hK7 _ _ ?_)
    refine wp_if hF rfl ?_
    refine wp_skip (hK3 _ _ ?_)
    refine wp_rs fun K8 hK8 => ?_
    refine s_val hF (x_ldW wide70 m7 rfl rfl) (by decide) fun a hF => ?_
    refine s_callB [_] hF (enters_of Try.func93 (by kernel_rfl) rfl) rfl (by decide) (isIn105 _ _ w12) fun w18 a B19 hF => ?_
    have sB19 := B19.size
    have hB := hB.trans (B19.mono hB.size)
    have m3 := m3.old B19
    have m4 := m4.old B19
    have m5 := m5.old B19
    have m7 := m7.old B19
    refine s_val hF (x_assign rfl) (by decide) fun a hF => ?_
    refine s_end (hK8 _ _ ?_)
    refine wp_ret (res_slot hF rfl rfl ⟨congrArg (fun b => Ending.returned (Value.bool b)) (decide_eq_decide.2 (by unfold holdsP; rw [hif])), hB⟩)

set_option maxRecDepth 100000 in
set_option maxHeartbeats 400000 in
theorem applied63 (n dp : Int) (c : CT) (x : C8) (w0 : World) (hx : RC w0 (fun k => k < w0.heap.size) c x) (h1 : 0 ≤ n ∧ n ≤ 100000) (h2 : 0 ≤ dp ∧ dp ≤ 100000) : Calls Try.prog 52 #[.agg [.int .i64 n, .int .i64 dp].toArray, tv x] w0 fun e w' => e = .returned (.tuple #[.agg [.int .i64 (1 + n + c.mN), .int .i64 (1 + max dp c.mD)].toArray, .bool (decide (c.ok ∧ 1 + n + (c.mN : Int) ≤ 20000 ∧ 1 + max dp (c.mD : Int) ≤ 2000))]) ∧ Below w0.heap.size w0 w' := by
  have hmN : c.mN ≤ 20000 := by unfold CT.mN; split; (· rename_i h; exact h.1); omega
  have hmD : c.mD ≤ 2000 := by unfold CT.mD; split; (· rename_i h; exact h.2); omega
  have hB := Below.refl w0.heap.size w0
  have sB := hB.size
  refine calls_fs 33 [(0, .agg [.int .i64 n, .int .i64 dp].toArray), (1, tv x)] Try.func52 rfl rfl rfl rfl rfl fun a hF => ?_
  refine wp_rs fun K1 hK1 => ?_
  refine s_box ([.int .i64 n, .int .i64 dp]) hF (by decide) rfl rfl fun w2 b2 a eb2 m2 B3 zb2 hF => ?_
  have sB3 := B3.size
  have hB := hB.trans (B3.mono hB.size)
  refine s_box (tc x) hF (by decide) rfl rfl fun w4 b3 a eb3 m3 B5 zb3 hF => ?_
  have sB5 := B5.size
  have hB := hB.trans (B5.mono hB.size)
  have m2 := m2.old B5
  refine s_alloc hF (by decide) zero70 fun w6 b4 a eb4 m4 B7 zb4 hF => ?_
  have sB7 := B7.size
  have hB := hB.trans (B7.mono hB.size)
  have m2 := m2.old B7
  have m3 := m3.old B7
  refine s_val hF (x_assign rfl) (by decide) fun a hF => ?_
  refine s_end (hK1 _ _ ?_)
  refine wp_rs fun K2 hK2 => ?_
  refine s_val hF (x_ldW wide27 m3 rfl rfl) (by decide) fun a hF => ?_
  refine s_callB [_] hF (enters_of Try.func51 (by kernel_rfl) rfl) rfl (by decide) (measure62 c x w6 (hx.bel hB)) fun w8 a B9 hF => ?_
  have sB9 := B9.size
  have hB := hB.trans (B9.mono hB.size)
  have m2 := m2.old B9
  have m3 := m3.old B9
  have m4 := m4.old B9
  refine s_val hF (x_move rfl) (by decide) fun a hF => ?_
  refine s_val hF (x_ext rfl rfl) (by decide) fun a hF => ?_
  refine s_val hF (x_ext rfl rfl) (by decide) fun a hF => ?_
  refine s_alloc hF (by decide) zero70 fun w10 b6 a eb6 m6 B11 zb6 hF => ?_
  have sB11 := B11.size
  have hB := hB.trans (B11.mono hB.size)
  have m2 := m2.old B11
  have m3 := m3.old B11
  have m4 := m4.old B11
  refine s_putW hF rfl rfl (size_wide wide70) m6 rfl (oneII _ _) fun w14 m6 o15 => ?_
  have so15 := o15.size
  have hB := hB.trans (o15.below (by omega))
  have m2 := m2.only o15 (by omega)
  have m3 := m3.only o15 (by omega)
  have m4 := m4.only o15 (by omega)
  refine s_val hF (x_assign rfl) (by decide) fun a hF => ?_
  refine s_end (hK2 _ _ ?_)
  refine wp_rs fun K3 hK3 => ?_
  refine s_val hF (x_fa0 fa70_0 rfl) (by decide) fun a hF => ?_
  refine s_val hF (x_load rfl (m_load flat3 (m2.cell (j := 0) rfl))) (by decide) fun a hF => ?_
  refine s_val hF (x_add (by omega) (by omega) rfl rfl) (by decide) fun a hF => ?_
  refine s_val hF (x_fa0 fa70_0 rfl) (by decide) fun a hF => ?_
  refine s_val hF (x_load rfl (m_load flat3 (m6.cell (j := 0) rfl))) (by decide) fun a hF => ?_
  refine s_val hF (x_add (by omega) (by omega) rfl rfl) (by decide) fun a hF => ?_
  refine s_val hF (x_fa0 fa70_1 rfl) (by decide) fun a hF => ?_
  refine s_val hF (x_load rfl (m_load flat3 (m2.cell (j := 1) rfl))) (by decide) fun a hF => ?_
  refine s_val hF (x_fa0 fa70_1 rfl) (by decide) fun a hF => ?_
  refine s_val hF (x_load rfl (m_load flat3 (m6.cell (j := 1) rfl))) (by decide) fun a hF => ?_
  refine s_val hF (x_imax rfl rfl) (by decide) fun a hF => ?_
  refine s_val hF (x_add (by omega) (by omega) rfl rfl) (by decide) fun a hF => ?_
  refine s_val hF (x_build (vs := [(0, _), (1, _)]) rfl (b70_01 _ _ _)) (by decide) fun a hF => ?_
  refine s_alloc hF (by decide) zero70 fun w16 b8 a eb8 m8 B17 zb8 hF => ?_
  have sB17 := B17.size
  have hB := hB.trans (B17.mono hB.size)
  have m2 := m2.old B17
  have m3 := m3.old B17
  have m4 := m4.old B17
  have m6 := m6.old B17
  refine s_putW hF rfl rfl (size_wide wide70) m8 rfl (oneII _ _) fun w20 m8 o21 => ?_
  have so21 := o21.size
  have hB := hB.trans (o21.below (by omega))
  have m2 := m2.only o21 (by omega)
  have m3 := m3.only o21 (by omega)
  have m4 := m4.only o21 (by omega)
  have m6 := m6.only o21 (by omega)
  refine s_end (hK3 _ _ ?_)
  by_cases hk : c.ok
  · rw [decide_eq_true hk] at hF
    refine dk2_seq (b4) (b4) (ops := regOps Try.f52 3) (N := 8) (by kernel_rfl) wide_orders (by kernel_rfl) fun w22 hw22 B23 hS K5 hK5 => ?_
    have zw22 : w22.heap.size = w20.heap.size := by rw [hw22]
    have sB23 := B23.size
    have hB := hB.trans (B23.mono hB.size)
    have m2 := m2.old B23
    have m3 := m3.old B23
    have m4 := m4.old B23
    have m6 := m6.old B23
    have m8 := m8.old B23
    have m2_d := m2
    have m3_d := m3
    have m4_d := m4
    have m6_d := m6
    have m8_d := m8
    have hB_d := hB
    refine d_val 0 27 (op := (Go.Op.load 67 (Go.Operand.tmp 8))) hF hS (by kernel_rfl) (fun W hW => x_ldW wide70 (m8_d.k2 hW (by omega)) rfl rfl) (by kernel_rfl) (by decide) fun a hF => ?_
    refine d_val 1 28 (op := (Go.Op.move (Go.Operand.tmp 7))) hF hS (by kernel_rfl) (fun W hW => x_move rfl) (by kernel_rfl) (by decide) fun a hF => ?_
    refine d_val 2 29 (op := (Go.Op.move (Go.Operand.tmp 28))) hF hS (by kernel_rfl) (fun W hW => x_move rfl) (by kernel_rfl) (by decide) fun a hF => ?_
    refine d_valg 3 30 29 (j := 2) (want := true) (op := (Go.Op.load 67 (Go.Operand.tmp 8))) hF hS (by kernel_rfl) (by kernel_rfl) rfl (fun W hW => x_ldW wide70 (m8_d.k2 hW (by omega)) rfl rfl) (by kernel_rfl) (by decide) fun a hF => ?_
    refine d_oneg 4 29 (some 31) (Go.Op.call (Go.Call.mk (Go.Callee.value (Go.Operand.func 93)) #[(Go.Operand.tmp 30)] #[67])) (j := 2) (want := true) hF (by kernel_rfl) (by kernel_rfl) (by kernel_rfl) rfl fun ty pos af => ?_
    refine s_callB [_] hF (enters_of Try.func93 (by kernel_rfl) rfl) rfl (by decide) (isIn105 _ _ w22) fun w24 a B25 hF => ?_
    have sB25 := B25.size
    have hB := hB.trans (B25.mono hB.size)
    have m2 := m2.old B25
    have m3 := m3.old B25
    have m4 := m4.old B25
    have m6 := m6.old B25
    have m8 := m8.old B25
    have hS := hS.below B25
    refine s_end ⟨hS, ?_⟩
    refine d_val 5 32 (op := (Go.Op.pick (Go.Operand.tmp 29) (Go.Operand.tmp 31) (Go.Operand.const (Go.Value.bool false)))) hF hS (by kernel_rfl) (fun W hW => x_pick (b := true) rfl rfl) (by kernel_rfl) (by decide) fun a hF => ?_
    refine d_one 6 none (Go.Op.store 67 (Go.Operand.tmp 4) (Go.Operand.tmp 27)) (by kernel_rfl) (by kernel_rfl) fun ty pos af => ?_
    refine s_putW hF rfl rfl (size_wide wide70) m4 rfl (oneII _ _) fun w28 m4 o29 => ?_
    have so29 := o29.size
    have hB := hB.trans (o29.below (by omega))
    have m2 := m2.only o29 (by omega)
    have m3 := m3.only o29 (by omega)
    have m6 := m6.only o29 (by omega)
    have m8 := m8.only o29 (by omega)
    have hS := hS.only o29 (by omega)
    refine s_end ⟨hS, ?_⟩
    refine d_val 7 5 (op := (Go.Op.assign (Go.Operand.tmp 32))) hF hS (by kernel_rfl) (fun W hW => x_assign rfl) (by kernel_rfl) (by decide) fun a hF => ?_
    refine d_end (by kernel_rfl) (hK5 _ _ ?_)
    refine wp_ret (res_ct (cs := [_, _]) hF rfl rfl m4 wide70 rfl ⟨by simp only [hk, true_and], hB⟩)
  · rw [decide_eq_false hk] at hF
    refine dk2_seq (b4) (b4) (ops := regOps Try.f52 3) (N := 8) (by kernel_rfl) wide_orders (by kernel_rfl) fun w30 hw30 B31 hS K6 hK6 => ?_
    have zw30 : w30.heap.size = w20.heap.size := by rw [hw30]
    have sB31 := B31.size
    have hB := hB.trans (B31.mono hB.size)
    have m2 := m2.old B31
    have m3 := m3.old B31
    have m4 := m4.old B31
    have m6 := m6.old B31
    have m8 := m8.old B31
    have m2_d := m2
    have m3_d := m3
    have m4_d := m4
    have m6_d := m6
    have m8_d := m8
    have hB_d := hB
    refine d_val 0 27 (op := (Go.Op.load 67 (Go.Operand.tmp 8))) hF hS (by kernel_rfl) (fun W hW => x_ldW wide70 (m8_d.k2 hW (by omega)) rfl rfl) (by kernel_rfl) (by decide) fun a hF => ?_
    refine d_val 1 28 (op := (Go.Op.move (Go.Operand.tmp 7))) hF hS (by kernel_rfl) (fun W hW => x_move rfl) (by kernel_rfl) (by decide) fun a hF => ?_
    refine d_val 2 29 (op := (Go.Op.move (Go.Operand.tmp 28))) hF hS (by kernel_rfl) (fun W hW => x_move rfl) (by kernel_rfl) (by decide) fun a hF => ?_
    refine d_skip 3 30 29 (j := 2) (want := true) (op := (Go.Op.load 67 (Go.Operand.tmp 8))) hF hS (by kernel_rfl) (by kernel_rfl) rfl (by kernel_rfl) (by decide) fun a hF => ?_
    refine d_skip 4 31 29 (j := 2) (want := true) (op := (Go.Op.call (Go.Call.mk (Go.Callee.value (Go.Operand.func 93)) #[(Go.Operand.tmp 30)] #[67]))) hF hS (by kernel_rfl) (by kernel_rfl) rfl (by kernel_rfl) (by decide) fun a hF => ?_
    refine d_val 5 32 (op := (Go.Op.pick (Go.Operand.tmp 29) (Go.Operand.tmp 31) (Go.Operand.const (Go.Value.bool false)))) hF hS (by kernel_rfl) (fun W hW => x_pick (b := false) rfl rfl) (by kernel_rfl) (by decide) fun a hF => ?_
    refine d_one 6 none (Go.Op.store 67 (Go.Operand.tmp 4) (Go.Operand.tmp 27)) (by kernel_rfl) (by kernel_rfl) fun ty pos af => ?_
    refine s_putW hF rfl rfl (size_wide wide70) m4 rfl (oneII _ _) fun w34 m4 o35 => ?_
    have so35 := o35.size
    have hB := hB.trans (o35.below (by omega))
    have m2 := m2.only o35 (by omega)
    have m3 := m3.only o35 (by omega)
    have m6 := m6.only o35 (by omega)
    have m8 := m8.only o35 (by omega)
    have hS := hS.only o35 (by omega)
    refine s_end ⟨hS, ?_⟩
    refine d_val 7 5 (op := (Go.Op.assign (Go.Operand.tmp 32))) hF hS (by kernel_rfl) (fun W hW => x_assign rfl) (by kernel_rfl) (by decide) fun a hF => ?_
    refine d_end (by kernel_rfl) (hK6 _ _ ?_)
    refine wp_ret (res_ct (cs := [_, _]) hF rfl rfl m4 wide70 rfl ⟨by rw [decide_eq_false (fun h => hk h.1)], hB⟩)
end Go.Proofs.Ytaclncmkdpjnlaa
