/- How great terms are, and would be. -/
import Derived.Test.YtmkjhdiepkpdoaaTerm10
import Derived.Test.YtmkjhdiepkpdoaaLevD
import Derived.Test.YtmkjhdiepkpdoaaTerm5
namespace Go.Proofs.Ytmkjhdiepkpdoaa
set_option maxRecDepth 100000
set_option maxHeartbeats 1600000
open Go.RowKit Go.Shelf
set_option linter.unusedVariables false
set_option linter.unusedSimpArgs false
theorem RC.bel {w0 w : World} {c : CT} {x : C8} (h : RC w0 (fun k => k < w0.heap.size) c x) (hB : Below w0.heap.size w0 w) : RC w (fun k => k < w.heap.size) c x :=
 (h.keep hB.size (fun k hk _ => hB.block k hk)).mono (fun k hk => by have := hB.size; omega)
theorem bnd2_0 (k : Int) (a b : CT) (m : Nat) : (CT.two k a b m).bnd 0 = 0 := by simp [CT.bnd]
theorem bnd2_1 (k : Int) (a b : CT) (m : Nat) : (CT.two k a b m).bnd 1 = if k = 3 ∨ k = 4 then 1 else 0 := by simp [CT.bnd]
theorem bnd3_0 (a b c : CT) (m : Nat) : (CT.lt a b c m).bnd 0 = 0 := by simp [CT.bnd]
theorem bnd3_1 (a b c : CT) (m : Nat) : (CT.lt a b c m).bnd 1 = 0 := by simp [CT.bnd]
theorem bnd3_2 (a b c : CT) (m : Nat) : (CT.lt a b c m).bnd 2 = 1 := by simp [CT.bnd]
theorem PT.size_pos (p : PT) : 0 < p.size := by cases p <;> simp [PT.size]
theorem PT.dep_pos (p : PT) : 0 < p.dep := by cases p <;> simp [PT.dep]
theorem PT.lift_size (f b : Int) : ∀ (p : PT) (d : Int), (p.lift f b d).size = p.size ∧ (p.lift f b d).dep = p.dep
 | .two k p q, d => by simp [PT.lift, PT.size, PT.dep, PT.lift_size f b p, PT.lift_size f b q]
 | .lt p q r, d => by simp [PT.lift, PT.size, PT.dep, PT.lift_size f b p, PT.lift_size f b q, PT.lift_size f b r]
 | .var .., d => ⟨rfl, rfl⟩
 | .sort .., d => ⟨rfl, rfl⟩
 | .cst .., d => ⟨rfl, rfl⟩
 | .odd .., d => ⟨rfl, rfl⟩
theorem put_size (v : PT) : ∀ (c : CT) (d : Int), ((PT.put v c.ess d).size : Int) = c.size + (c.fold Gpl d).1 * ((v.size : Int) - 1)
 | .two k a b m, d => by
  have ha := put_size v a (d + (CT.two k a b m).bnd 0)
  have hb := put_size v b (d + (CT.two k a b m).bnd 1)
  simp only [bnd2_0, bnd2_1, Int.add_zero] at ha hb
  simp only [CT.ess, PT.put, PT.size, CT.size, CT.fold, Gpl, CT.isV, List.foldl_cons, List.foldl_nil, plc, bnd2_0, bnd2_1, bnd3_0, bnd3_1, bnd3_2]
  simp only [Bool.false_eq_true, if_false, Int.add_zero, Int.zero_add]
  rw [Int.add_mul]
  omega
 | .lt a b c m, d => by
  have ha := put_size v a (d + (CT.lt a b c m).bnd 0)
  have hb := put_size v b (d + (CT.lt a b c m).bnd 1)
  have hc := put_size v c (d + (CT.lt a b c m).bnd 2)
  simp only [bnd3_0, bnd3_1, bnd3_2, Int.add_zero] at ha hb hc
  simp only [CT.ess, PT.put, PT.size, CT.size, CT.fold, Gpl, CT.isV, List.foldl_cons, List.foldl_nil, plc, bnd2_0, bnd2_1, bnd3_0, bnd3_1, bnd3_2]
  simp only [Bool.false_eq_true, if_false, Int.add_zero, Int.zero_add]
  rw [Int.add_mul, Int.add_mul]
  omega
 | .var n m, d => by
  simp only [CT.ess, PT.put, CT.fold, Gpl, CT.isV, CT.size, List.foldl_nil, decide_eq_true_eq]
  split
  ·
   rw [(v.lift_size 0 d 0).1]; omega
  ·
   simp [PT.size]
 | .sort n m, d => by simp [CT.ess, PT.put, CT.fold, Gpl, CT.isV, CT.size, PT.size]
 | .cst s n m, d => by simp [CT.ess, PT.put, CT.fold, Gpl, CT.isV, CT.size, PT.size]
 | .odd n m, d => by simp [CT.ess, PT.put, CT.fold, Gpl, CT.isV, CT.size, PT.size]
theorem put_dep (v : PT) : ∀ (c : CT) (d : Int), ((PT.put v c.ess d).dep : Int) = max (c.dep : Int) (if 0 < (c.fold Gpl d).1 then (c.fold Gpl d).2 + v.dep - 1 else 0)
 | .two k a b m, d => by
  have ha := put_dep v a (d + (CT.two k a b m).bnd 0)
  have hb := put_dep v b (d + (CT.two k a b m).bnd 1)
  have ga := Gpl_rng a (d + (CT.two k a b m).bnd 0)
  have gb := Gpl_rng b (d + (CT.two k a b m).bnd 1)
  have := v.dep_pos
  simp only [bnd2_0, bnd2_1, Int.add_zero] at ha hb ga gb
  simp only [CT.ess, PT.put, PT.dep, CT.dep, CT.fold, Gpl, CT.isV, List.foldl_cons, List.foldl_nil, plc, bnd2_0, bnd2_1, bnd3_0, bnd3_1, bnd3_2]
  simp only [Bool.false_eq_true, if_false, Int.add_zero, Int.zero_add]
  generalize CT.fold Gpl a d = fa at *
  generalize CT.fold Gpl b (d + if k = 3 ∨ k = 4 then 1 else 0) = fb at *
  generalize (PT.put v a.ess d).dep = pa at *
  generalize (PT.put v b.ess (d + if k = 3 ∨ k = 4 then 1 else 0)).dep = pb at *
  have hs : 0 < fa.1 + fb.1 ↔ 0 < fa.1 ∨ 0 < fb.1 := by omega
  simp only [hs]
  by_cases h1 : 0 < fa.1 <;> by_cases h2 : 0 < fb.1 <;> simp only [h1, h2, if_true, if_false, true_or, or_true, or_self] at ha hb ⊢ <;> omega
 | .lt a b c m, d => by
  have ha := put_dep v a (d + (CT.lt a b c m).bnd 0)
  have hb := put_dep v b (d + (CT.lt a b c m).bnd 1)
  have hc := put_dep v c (d + (CT.lt a b c m).bnd 2)
  have ga := Gpl_rng a (d + (CT.lt a b c m).bnd 0)
  have gb := Gpl_rng b (d + (CT.lt a b c m).bnd 1)
  have gc := Gpl_rng c (d + (CT.lt a b c m).bnd 2)
  have := v.dep_pos
  simp only [bnd3_0, bnd3_1, bnd3_2, Int.add_zero] at ha hb hc ga gb gc
  simp only [CT.ess, PT.put, PT.dep, CT.dep, CT.fold, Gpl, CT.isV, List.foldl_cons, List.foldl_nil, plc, bnd2_0, bnd2_1, bnd3_0, bnd3_1, bnd3_2]
  simp only [Bool.false_eq_true, if_false, Int.add_zero, Int.zero_add]
  generalize CT.fold Gpl a d = fa at *
  generalize CT.fold Gpl b d = fb at *
  generalize CT.fold Gpl c (d + 1) = fc at *
  generalize (PT.put v a.ess d).dep = pa at *
  generalize (PT.put v b.ess d).dep = pb at *
  generalize (PT.put v c.ess (d + 1)).dep = pc at *
  have hs : 0 < fa.1 + fb.1 + fc.1 ↔ (0 < fa.1 ∨ 0 < fb.1) ∨ 0 < fc.1 := by omega
  simp only [hs]
  by_cases h1 : 0 < fa.1 <;> by_cases h2 : 0 < fb.1 <;> by_cases h3 : 0 < fc.1 <;> simp only [h1, h2, h3, if_true, if_false, true_or, or_true, or_self] at ha hb hc ⊢ <;> omega
 | .var n m, d => by
  have := v.dep_pos
  simp only [CT.ess, PT.put, CT.fold, Gpl, CT.isV, CT.dep, List.foldl_nil, decide_eq_true_eq]
  split
  ·
   rw [(v.lift_size 0 d 0).2]; simp; omega
  ·
   simp [PT.dep]; omega
 | .sort n m, d => by simp [CT.ess, PT.put, CT.fold, Gpl, CT.isV, CT.dep, PT.dep]; omega
 | .cst s n m, d => by simp [CT.ess, PT.put, CT.fold, Gpl, CT.isV, CT.dep, PT.dep]; omega
 | .odd n m, d => by simp [CT.ess, PT.put, CT.fold, Gpl, CT.isV, CT.dep, PT.dep]; omega
def PT.ok (p : PT) : Prop := p.size ≤ 20000 ∧ p.dep ≤ 2000
instance (p : PT) : Decidable p.ok := inferInstanceAs (Decidable (_ ∧ _))
theorem CT.ok_ess (c : CT) : c.ess.ok ↔ c.ok := by unfold PT.ok CT.ok; rw [c.ess_size, c.ess_dep]
/-- What it is asked ahead of putting in. -/
def holdsP (n dp vn vd cnt pd : Int) : Prop := n + cnt * (vn - 1) ≤ 20000 ∧ (if 0 < cnt then max dp (pd + vd - 1) else dp) ≤ 2000
instance (n dp vn vd cnt pd : Int) : Decidable (holdsP n dp vn vd cnt pd) := inferInstanceAs (Decidable (_ ∧ _))
theorem holdsP_iff {c v : CT} : holdsP c.size c.dep v.size v.dep (c.fold Gpl 0).1 (c.fold Gpl 0).2 ↔ (PT.put v.ess c.ess 0).ok := by
 have h1 := put_size v.ess c 0
 have h2 := put_dep v.ess c 0
 have h3 := c.dep_pos
 rw [v.ess_size] at h1
 rw [v.ess_dep] at h2
 unfold holdsP PT.ok
 by_cases h : 0 < (c.fold Gpl 0).1 <;> simp only [h, if_true, if_false] at h2 ⊢ <;> omega
theorem placesOf84 (c : CT) (x : C8) (w0 : World) (hx : RC w0 (fun k => k < w0.heap.size) c x) (hok : c.ok) : Calls Try.prog 56 #[tv x] w0 fun e w' => e = .returned (.agg (enc2 (c.fold Gpl 0)).toArray) ∧ Below w0.heap.size w0 w' := by
 have hB := Below.refl w0.heap.size w0
 have sB := hB.size
 refine calls_fs 5 [(0, tv x)] Try.func56 rfl rfl rfl rfl rfl fun a F => ?_
 refine wp_rs fun _ K1 => ?_
 refine s_box (tc x) F (by decide) rfl rfl fun w2 b1 a eb1 m1 B3 zb1 F => ?_
 have sB3 := B3.size
 have hB := bt hB B3
 refine s_alloc F (by decide) zero93 fun w4 b2 a eb2 m2 B5 zb2 F => ?_
 have sB5 := B5.size
 have hB := bt hB B5
 have m1 := m1.old B5
 refine s_end (K1 _ _ ?_)
 refine wp_rs fun _ K2 => F.vl (x_ldW wide27 m1 rfl rfl) fun a F => ?_
 refine s_callB [_, _, _] F E92 rfl (by decide) (fold119 w4 93 [] E93 2000 (by decide) 20000 Gpl _ rfl (fun W c x d kv h1 h2 h3 h4 h5 h6 => clo120 w4 20000 (by decide) 2000 (by decide) W c x d kv h1 h2 h3 h4 h5 h6) (c.size + 1) c x 0 w4 (by omega) hok.1 (hx.bel hB) (by decide) (by have := hok.2; omega) (Below.refl _ _)) fun w6 a B7 F => ?_
 have sB7 := B7.size
 have hB := bt hB B7
 have m2 := m2.old B7
 refine s_putW F rfl rfl (size_wide wide93) m2 rfl (oneII _ _) fun w10 m2 o11 => ?_
 have so11 := o11.size
 have hB := hB.trans (o11.below (by omega))
 refine s_end (K2 _ _ ?_)
 refine wp_ret (res_cell (cs := enc2 _) F rfl rfl m2 wide93 ⟨rfl, hB⟩)
theorem holds83 (n dp vn vd cnt pd : Int) (w0 : World) (h1 : 0 ≤ n ∧ n ≤ 20000) (h2 : 0 ≤ dp ∧ dp ≤ 20000) (h3 : 0 ≤ vn ∧ vn ≤ 20000) (h4 : 0 ≤ vd ∧ vd ≤ 20000) (h5 : 0 ≤ cnt ∧ cnt ≤ 20000) (h6 : 0 ≤ pd ∧ pd ≤ 20000) :
    Calls Try.prog 55 #[.agg [.int .i64 n, .int .i64 dp].toArray, .agg [.int .i64 vn, .int .i64 vd].toArray, .agg (enc2 (cnt, pd)).toArray] w0 fun e w' => e = .returned (.bool (decide (holdsP n dp vn vd cnt pd))) ∧ Below w0.heap.size w0 w' := by
  have hm : -20000 ≤ cnt * (vn - 1) ∧ cnt * (vn - 1) ≤ 400000000 := by
    have a1 : cnt * (vn - 1) ≤ 20000 * 20000 := by
      rcases Int.lt_or_le vn 1 with h | h
      · have : cnt * (vn - 1) ≤ 0 := Int.mul_nonpos_of_nonneg_of_nonpos h5.1 (by omega); omega
      · exact Int.mul_le_mul (by omega) (by omega) (by omega) (by omega)
    have a2 : cnt * vn ≥ 0 := Int.mul_nonneg h5.1 h3.1
    have a3 : cnt * (vn - 1) = cnt * vn - cnt := by rw [Int.mul_sub, Int.mul_one]
    omega
  have hB := Below.refl w0.heap.size w0
  have sB := hB.size
  refine calls_fs 35 [(0, .agg [.int .i64 n, .int .i64 dp].toArray), (1, .agg [.int .i64 vn, .int .i64 vd].toArray), (2, .agg (enc2 (cnt, pd)).toArray)] Try.func55 rfl rfl rfl rfl rfl fun a F => ?_
  refine wp_rs fun _ K1 => ?_
  refine s_box ([.int .i64 n, .int .i64 dp]) F (by decide) rfl rfl fun w2 b3 a eb3 m3 B3 zb3 F => ?_
  have sB3 := B3.size
  have hB := bt hB B3
  refine s_box ([.int .i64 vn, .int .i64 vd]) F (by decide) rfl rfl fun w4 b4 a eb4 m4 B5 zb4 F => ?_
  have sB5 := B5.size
  have hB := bt hB B5
  have m3 := m3.old B5
  refine s_box ([.int .i64 cnt, .int .i64 pd]) F (by decide) rfl rfl fun w6 b5 a eb5 m5 B7 zb5 F => ?_
  have sB7 := B7.size
  have hB := bt hB B7
  have m3 := m3.old B7
  have m4 := m4.old B7
  refine F.sg rfl fun a F => ?_
  refine s_end (K1 _ _ ?_)
  refine wp_rs fun _ K2 => F.vl (x_fa0 fa70_0 rfl) fun a F => F.ld m3 flat3 rfl rfl fun a F => F.vl (x_fa0 fa93_0 rfl) fun a F => F.ld m5 flat3 rfl rfl fun a F => F.vl (x_fa0 fa70_0 rfl) fun a F => F.ld m4 flat3 rfl rfl fun a F => F.vl (x_sub (by omega) (by omega) rfl rfl) fun a F => F.vl (x_mul (by omega) (by omega) rfl rfl) fun a F => F.vl (x_add (by omega) (by omega) rfl rfl) fun a F => F.vl (x_fa0 fa70_1 rfl) fun a F => F.ld m3 flat3 rfl rfl fun a F => F.vl (x_build (vs := [(0, _), (1, _)]) rfl (b70_01 _ _ _)) fun a F => ?_
  refine s_alloc F (by decide) zero70 fun w8 b7 a eb7 m7 B9 zb7 F => ?_
  have sB9 := B9.size
  have hB := bt hB B9
  have m3 := m3.old B9
  have m4 := m4.old B9
  have m5 := m5.old B9
  refine s_putW F rfl rfl (size_wide wide70) m7 rfl (oneII _ _) fun w12 m7 o13 => ?_
  have so13 := o13.size
  have hB := hB.trans (o13.below (by omega))
  have m3 := m3.only o13 (by omega)
  have m4 := m4.only o13 (by omega)
  have m5 := m5.only o13 (by omega)
  refine s_end (K2 _ _ ?_)
  refine wp_seq_k fun _ K3 => ?_
  rcases (show 0 < cnt ∨ ¬ 0 < cnt by omega) with hk | hk
  · have hif : (if 0 < cnt then max dp (pd + vd - 1) else dp) = max dp (pd + vd - 1) := if_pos hk
    refine wp_rs fun _ K5 => F.vl (x_fa0 fa93_0 rfl) fun a F => F.ld m5 flat3 rfl rfl fun a F => F.vl (gtrT (by omega) rfl rfl) fun a F => ?_
    refine s_end (K5 _ _ ?_)
    refine wp_if F rfl ?_
    refine wp_region_lit ?_
    refine F.vl (x_fa0 fa70_1 rfl) fun a F => F.ld m3 flat3 rfl rfl fun a F => F.vl (x_fa0 fa93_1 rfl) fun a F => F.ld m5 flat3 rfl rfl fun a F => F.vl (x_fa0 fa70_1 rfl) fun a F => F.ld m4 flat3 rfl rfl fun a F => F.vl (x_add (by omega) (by omega) rfl rfl) fun a F => F.vl (x_sub (by omega) (by omega) rfl rfl) fun a F => F.vl (x_imax rfl rfl) fun a F => F.vl (x_fa0 fa70_1 rfl) fun a F => ?_
    refine s_put F rfl rfl flat3 m7 (by first | (simp; done) | (simp [tc, lc]; done) | decide) rfl fun w14 m7 o15 => ?_
    have so15 := o15.size
    have hB := hB.trans (o15.below (by omega))
    refine s_end (K3 _ _ ?_)
    refine wp_rs fun _ K6 => F.vl (x_ldW wide70 m7 rfl rfl) fun a F => ?_
    refine s_callB [_] F E89 rfl (by decide) (isIn105 _ _ w14) fun w16 a B17 F => ?_
    have sB17 := B17.size
    have hB := bt hB B17
    refine F.sg rfl fun a F => ?_
    refine s_end (K6 _ _ ?_)
    refine wp_ret (res_slot F rfl rfl ⟨congrArg (fun b => Ending.returned (Value.bool b)) (decide_eq_decide.2 (by unfold holdsP; rw [hif])), hB⟩)
  · have hif : (if 0 < cnt then max dp (pd + vd - 1) else dp) = dp := if_neg hk
    refine wp_rs fun _ K7 => F.vl (x_fa0 fa93_0 rfl) fun a F => F.ld m5 flat3 rfl rfl fun a F => F.vl (gtrF (by omega) rfl rfl) fun a F => ?_
    refine s_end (K7 _ _ ?_)
    refine wp_if F rfl ?_
    refine wp_skip (K3 _ _ ?_)
    refine wp_rs fun _ K8 => F.vl (x_ldW wide70 m7 rfl rfl) fun a F => ?_
    refine s_callB [_] F E89 rfl (by decide) (isIn105 _ _ w12) fun w18 a B19 F => ?_
    have sB19 := B19.size
    have hB := bt hB B19
    refine F.sg rfl fun a F => ?_
    refine s_end (K8 _ _ ?_)
    refine wp_ret (res_slot F rfl rfl ⟨congrArg (fun b => Ending.returned (Value.bool b)) (decide_eq_decide.2 (by unfold holdsP; rw [hif])), hB⟩)
theorem isGreat66 (c : CT) (x : C8) (w0 : World) (hx : RC w0 (fun k => k < w0.heap.size) c x) : Calls Try.prog 50 #[tv x] w0 fun e w' => e = .returned (.bool (decide (¬ c.ok))) ∧ Below w0.heap.size w0 w' := by
 have hB := Below.refl w0.heap.size w0
 have sB := hB.size
 refine calls_fs 12 [(0, tv x)] Try.func50 rfl rfl rfl rfl rfl fun a F => ?_
 refine wp_rs fun _ K1 => ?_
 refine s_box (tc x) F (by decide) rfl rfl fun w2 b1 a eb1 m1 B3 zb1 F => ?_
 have sB3 := B3.size
 have hB := bt hB B3
 refine F.sg rfl fun a F => ?_
 refine s_end (K1 _ _ ?_)
 refine wp_rs fun _ K2 => F.vl (x_ldW wide27 m1 rfl rfl) fun a F => ?_
 refine s_callB [_] F E46 rfl (by decide) (measure62 c x w2 (hx.bel hB)) fun w4 a B5 F => ?_
 have sB5 := B5.size
 have hB := bt hB B5
 refine F.mv rfl fun a F => F.vl (x_ext rfl rfl) fun a F => F.vl (x_ext rfl rfl) fun a F => ?_
 refine s_alloc F (by decide) zero70 fun w6 b3 a eb3 m3 B7 zb3 F => ?_
 have sB7 := B7.size
 have hB := bt hB B7
 refine s_putW F rfl rfl (size_wide wide70) m3 rfl (oneII _ _) fun w10 m3 o11 => ?_
 have so11 := o11.size
 have hB := hB.trans (o11.below (by omega))
 refine F.sg rfl fun a F => ?_
 refine s_end (K2 _ _ ?_)
 refine wp_rs fun _ K3 => F.mv rfl fun a F => F.vl (x_not rfl) fun a F => F.sg rfl fun a F => ?_
 refine s_end (K3 _ _ ?_)
 refine wp_ret (res_slot F rfl rfl ⟨by rw [decide_not], hB⟩)
theorem applied63 (n dp : Int) (c : CT) (x : C8) (w0 : World) (hx : RC w0 (fun k => k < w0.heap.size) c x) (h1 : 0 ≤ n ∧ n ≤ 100000) (h2 : 0 ≤ dp ∧ dp ≤ 100000) : Calls Try.prog 47 #[.agg [.int .i64 n, .int .i64 dp].toArray, tv x] w0 fun e w' => e = .returned (.tuple #[.agg [.int .i64 (1 + n + c.mN), .int .i64 (1 + max dp c.mD)].toArray, .bool (decide (c.ok ∧ 1 + n + (c.mN : Int) ≤ 20000 ∧ 1 + max dp (c.mD : Int) ≤ 2000))]) ∧ Below w0.heap.size w0 w' := by
 have hmN : c.mN ≤ 20000 := by unfold CT.mN; split; (· rename_i h; exact h.1); omega
 have hmD : c.mD ≤ 2000 := by unfold CT.mD; split; (· rename_i h; exact h.2); omega
 have hB := Below.refl w0.heap.size w0
 have sB := hB.size
 refine calls_fs 33 [(0, .agg [.int .i64 n, .int .i64 dp].toArray), (1, tv x)] Try.func47 rfl rfl rfl rfl rfl fun a F => ?_
 refine wp_rs fun _ K1 => ?_
 refine s_box ([.int .i64 n, .int .i64 dp]) F (by decide) rfl rfl fun w2 b2 a eb2 m2 B3 zb2 F => ?_
 have sB3 := B3.size
 have hB := bt hB B3
 refine s_box (tc x) F (by decide) rfl rfl fun w4 b3 a eb3 m3 B5 zb3 F => ?_
 have sB5 := B5.size
 have hB := bt hB B5
 have m2 := m2.old B5
 refine s_alloc F (by decide) zero70 fun w6 b4 a eb4 m4 B7 zb4 F => ?_
 have sB7 := B7.size
 have hB := bt hB B7
 have m2 := m2.old B7
 have m3 := m3.old B7
 refine F.sg rfl fun a F => ?_
 refine s_end (K1 _ _ ?_)
 refine wp_rs fun _ K2 => F.vl (x_ldW wide27 m3 rfl rfl) fun a F => ?_
 refine s_callB [_] F E46 rfl (by decide) (measure62 c x w6 (hx.bel hB)) fun w8 a B9 F => ?_
 have sB9 := B9.size
 have hB := bt hB B9
 have m2 := m2.old B9
 have m3 := m3.old B9
 have m4 := m4.old B9
 refine F.mv rfl fun a F => F.vl (x_ext rfl rfl) fun a F => F.vl (x_ext rfl rfl) fun a F => ?_
 refine s_alloc F (by decide) zero70 fun w10 b6 a eb6 m6 B11 zb6 F => ?_
 have sB11 := B11.size
 have hB := bt hB B11
 have m2 := m2.old B11
 have m3 := m3.old B11
 have m4 := m4.old B11
 refine s_putW F rfl rfl (size_wide wide70) m6 rfl (oneII _ _) fun w14 m6 o15 => ?_
 have so15 := o15.size
 have hB := hB.trans (o15.below (by omega))
 have m2 := m2.only o15 (by omega)
 have m3 := m3.only o15 (by omega)
 have m4 := m4.only o15 (by omega)
 refine F.sg rfl fun a F => ?_
 refine s_end (K2 _ _ ?_)
 refine wp_rs fun _ K3 => F.vl (x_fa0 fa70_0 rfl) fun a F => F.ld m2 flat3 rfl rfl fun a F => F.vl (x_add (by omega) (by omega) rfl rfl) fun a F => F.vl (x_fa0 fa70_0 rfl) fun a F => F.ld m6 flat3 rfl rfl fun a F => F.vl (x_add (by omega) (by omega) rfl rfl) fun a F => F.vl (x_fa0 fa70_1 rfl) fun a F => F.ld m2 flat3 rfl rfl fun a F => F.vl (x_fa0 fa70_1 rfl) fun a F => F.ld m6 flat3 rfl rfl fun a F => F.vl (x_imax rfl rfl) fun a F => F.vl (x_add (by omega) (by omega) rfl rfl) fun a F => F.vl (x_build (vs := [(0, _), (1, _)]) rfl (b70_01 _ _ _)) fun a F => ?_
 refine s_alloc F (by decide) zero70 fun w16 b8 a eb8 m8 B17 zb8 F => ?_
 have sB17 := B17.size
 have hB := bt hB B17
 have m2 := m2.old B17
 have m3 := m3.old B17
 have m4 := m4.old B17
 have m6 := m6.old B17
 refine s_putW F rfl rfl (size_wide wide70) m8 rfl (oneII _ _) fun w20 m8 o21 => ?_
 have so21 := o21.size
 have hB := hB.trans (o21.below (by omega))
 have m2 := m2.only o21 (by omega)
 have m3 := m3.only o21 (by omega)
 have m4 := m4.only o21 (by omega)
 have m6 := m6.only o21 (by omega)
 refine s_end (K3 _ _ ?_)
 by_cases hk : c.ok
 ·
  rw [decide_eq_true hk] at F
  refine dk2_seq (b4) (b4) (ops := regOps Try.f47 3) (N := 8) (by kernel_rfl) wide_orders (by kernel_rfl) fun w22 hw22 B23 hS K5 K5 => ?_
  have zw22 : w22.heap.size = w20.heap.size := by rw [hw22]
  have sB23 := B23.size
  have hB := bt hB B23
  have m2 := m2.old B23
  have m3 := m3.old B23
  have m4 := m4.old B23
  have m6 := m6.old B23
  have m8 := m8.old B23
  have m2_d := m2
  have m3_d := m3
  have m4_d := m4
  have m6_d := m6
  have m8_d := m8
  have hB_d := hB
  refine F.dv 0 27 (.load 69 (.tmp 8)) hS (fun W hW => x_ldW wide70 (m8_d.k2 hW (by omega)) rfl rfl) fun a F => F.dv 1 28 (.move (.tmp 7)) hS (fun W hW => x_move rfl) fun a F => F.dv 2 29 (.move (.tmp 28)) hS (fun W hW => x_move rfl) fun a F => F.dg 3 30 29 2 true (.load 69 (.tmp 8)) hS rfl (fun W hW => x_ldW wide70 (m8_d.k2 hW (by omega)) rfl rfl) fun a F => ?_
  refine d_oneg 4 29 (some 31) (.call (.mk (.value (.func 89)) #[(.tmp 30)] #[69])) (j := 2) (want := true) F (by kernel_rfl) (by kernel_rfl) (by kernel_rfl) rfl fun ty pos af => ?_
  refine s_callB [_] F E89 rfl (by decide) (isIn105 _ _ w22) fun w24 a B25 F => ?_
  have sB25 := B25.size
  have hB := bt hB B25
  have m4 := m4.old B25
  have hS := hS.below B25
  refine s_end ⟨hS, ?_⟩
  refine F.dv 5 32 (.pick (.tmp 29) (.tmp 31) (.const (.bool false))) hS (fun W hW => x_pick (b := true) rfl rfl) fun a F => ?_
  refine d1 6 none (.store 69 (.tmp 4) (.tmp 27)) fun ty pos af => ?_
  refine s_putW F rfl rfl (size_wide wide70) m4 rfl (oneII _ _) fun w28 m4 o29 => ?_
  have so29 := o29.size
  have hB := hB.trans (o29.below (by omega))
  have hS := hS.only o29 (by omega)
  refine s_end ⟨hS, ?_⟩
  refine F.dv 7 5 (.assign (.tmp 32)) hS (fun W hW => x_assign rfl) fun a F => ?_
  refine d_end (by kernel_rfl) (K5 _ _ ?_)
  refine wp_ret (res_ct (cs := [_, _]) F rfl rfl m4 wide70 rfl ⟨by simp only [hk, true_and], hB⟩)
 ·
  rw [decide_eq_false hk] at F
  refine dk2_seq (b4) (b4) (ops := regOps Try.f47 3) (N := 8) (by kernel_rfl) wide_orders (by kernel_rfl) fun w30 hw30 B31 hS K6 K6 => ?_
  have zw30 : w30.heap.size = w20.heap.size := by rw [hw30]
  have sB31 := B31.size
  have hB := bt hB B31
  have m2 := m2.old B31
  have m3 := m3.old B31
  have m4 := m4.old B31
  have m6 := m6.old B31
  have m8 := m8.old B31
  have m2_d := m2
  have m3_d := m3
  have m4_d := m4
  have m6_d := m6
  have m8_d := m8
  have hB_d := hB
  refine F.dv 0 27 (.load 69 (.tmp 8)) hS (fun W hW => x_ldW wide70 (m8_d.k2 hW (by omega)) rfl rfl) fun a F => F.dv 1 28 (.move (.tmp 7)) hS (fun W hW => x_move rfl) fun a F => F.dv 2 29 (.move (.tmp 28)) hS (fun W hW => x_move rfl) fun a F => d_skip 3 30 29 (j := 2) (want := true) (op := (.load 69 (.tmp 8))) F hS (by kernel_rfl) (by kernel_rfl) rfl (by kernel_rfl) (by decide) fun a F => d_skip 4 31 29 (j := 2) (want := true) (op := (.call (.mk (.value (.func 89)) #[(.tmp 30)] #[69]))) F hS (by kernel_rfl) (by kernel_rfl) rfl (by kernel_rfl) (by decide) fun a F => F.dv 5 32 (.pick (.tmp 29) (.tmp 31) (.const (.bool false))) hS (fun W hW => x_pick (b := false) rfl rfl) fun a F => ?_
  refine d1 6 none (.store 69 (.tmp 4) (.tmp 27)) fun ty pos af => ?_
  refine s_putW F rfl rfl (size_wide wide70) m4 rfl (oneII _ _) fun w34 m4 o35 => ?_
  have so35 := o35.size
  have hB := hB.trans (o35.below (by omega))
  have hS := hS.only o35 (by omega)
  refine s_end ⟨hS, ?_⟩
  refine F.dv 7 5 (.assign (.tmp 32)) hS (fun W hW => x_assign rfl) fun a F => ?_
  refine d_end (by kernel_rfl) (K6 _ _ ?_)
  refine wp_ret (res_ct (cs := [_, _]) F rfl rfl m4 wide70 rfl ⟨by rw [decide_eq_false (fun h => hk h.1)], hB⟩)
end Go.Proofs.Ytmkjhdiepkpdoaa

namespace Go.Proofs.Ytmkjhdiepkpdoaa
set_option maxRecDepth 100000
set_option maxHeartbeats 1600000
open Go.RowKit Go.Shelf
set_option linter.unusedVariables false
set_option linter.unusedSimpArgs false
/-- x reads as a term that says p. -/
def RT (W : World) (p : PT) (x : C8) : Prop := RE W (fun k => k < W.heap.size) p x
theorem RE.rt {W : World} {A : Nat → Prop} {p : PT} {x : C8} (h : RE W A p x) : RT W p x := h.valid.mono (fun k hk => hk.2)
theorem RT.below {W W' : World} {p : PT} {x : C8} (h : RT W p x) (hB : Below W.heap.size W W') : RT W' p x := (RE.below h hB).rt
theorem RE_bare (W : World) (A : Nat → Prop) : RE W A (.odd 0) ⟨0, 0, emptyB, (0, 0, nilS), nilS, nilS⟩ := RE_odd (by left; simp [arT]) (RKE.nil W A)
theorem holds83q (n dp vn vd : Int) (q : Int × Int) (w0 : World) (h1 : 0 ≤ n ∧ n ≤ 20000) (h2 : 0 ≤ dp ∧ dp ≤ 20000) (h3 : 0 ≤ vn ∧ vn ≤ 20000) (h4 : 0 ≤ vd ∧ vd ≤ 20000) (h5 : 0 ≤ q.1 ∧ q.1 ≤ 20000) (h6 : 0 ≤ q.2 ∧ q.2 ≤ 20000) :
    Calls Try.prog 55 #[.agg [.int .i64 n, .int .i64 dp].toArray, .agg [.int .i64 vn, .int .i64 vd].toArray, .agg (enc2 q).toArray] w0 fun e w' => e = .returned (.bool (decide (holdsP n dp vn vd q.1 q.2))) ∧ Below w0.heap.size w0 w' := by
  obtain ⟨cnt, pd⟩ := q
  exact holds83 n dp vn vd cnt pd w0 h1 h2 h3 h4 h5 h6
def PT.inst (t v : PT) : PT := if t.ok ∧ v.ok ∧ (PT.put v t 0).ok then PT.put v t 0 else .odd 0
def cut20 (b : Int) : Int := min (max b (-1048576)) 1048576
def PT.Lift (t : PT) (f b : Int) : PT := if t.ok then t.lift (max f 0) (cut20 b) 0 else .odd 0
theorem Inst42t (A : Nat → Prop) (c v : CT) (x y : C8) (w0 : World) (hA : ∀ k, A k → k < w0.heap.size) (hxA : RC w0 A c x) (hvA : RC w0 A v y) : Calls Try.prog 23 #[tv x, tv y] w0 fun e w' => ∃ u, e = .returned u ∧ (∃ y, u = tv y ∧ RE w' (AS A w0.heap.size) (PT.inst c.ess v.ess) y ∧ (c.ok ∧ v.ok ∧ (PT.put v.ess c.ess 0).ok → Tt c y)) ∧ Below w0.heap.size w0 w' := by
 have hx := hxA.mono hA
 have hv := hvA.mono hA
 have hin : c.ok ∧ v.ok ∧ (PT.put v.ess c.ess 0).ok → PT.inst c.ess v.ess = PT.put v.ess c.ess 0 := fun h => if_pos ⟨c.ok_ess.2 h.1, v.ok_ess.2 h.2.1, h.2.2⟩
 have hno : ¬ (c.ok ∧ v.ok ∧ (PT.put v.ess c.ess 0).ok) → PT.inst c.ess v.ess = .odd 0 := fun h => if_neg (fun h' => h ⟨c.ok_ess.1 h'.1, v.ok_ess.1 h'.2.1, h'.2.2⟩)
 obtain ⟨q, hq⟩ : ∃ q, q = c.fold Gpl 0 := ⟨_, rfl⟩
 have hg := Gpl_rng c 0
 have hh := holdsP_iff (c := c) (v := v)
 rw [← hq] at hg hh
 have hcd := c.dep_pos
 have hvd := v.dep_pos
 have hB := Below.refl w0.heap.size w0
 have sB := hB.size
 refine calls_fs 38 [(0, tv x), (1, tv y)] Try.func23 rfl rfl rfl rfl rfl fun a F => ?_
 refine wp_rs fun _ K1 => ?_
 refine s_box (tc x) F (by decide) rfl rfl fun w2 b2 a eb2 m2 B3 zb2 F => ?_
 have sB3 := B3.size
 have hB := bt hB B3
 refine s_box (tc y) F (by decide) rfl rfl fun w4 b3 a eb3 m3 B5 zb3 F => ?_
 have sB5 := B5.size
 have hB := bt hB B5
 have m2 := m2.old B5
 refine s_alloc F (by decide) zero27 fun w6 b4 a eb4 m4 B7 zb4 F => ?_
 have sB7 := B7.size
 have hB := bt hB B7
 have m2 := m2.old B7
 have m3 := m3.old B7
 refine s_end (K1 _ _ ?_)
 refine wp_rs fun _ K2 => F.vl (x_ldW wide27 m2 rfl rfl) fun a F => ?_
 refine s_callB [_] F E46 rfl (by decide) (measure62 c x w6 (hx.bel hB)) fun w8 a B9 F => ?_
 have sB9 := B9.size
 have hB := bt hB B9
 have m2 := m2.old B9
 have m3 := m3.old B9
 have m4 := m4.old B9
 refine F.mv rfl fun a F => F.vl (x_ext rfl rfl) fun a F => F.vl (x_ext rfl rfl) fun a F => ?_
 refine s_alloc F (by decide) zero70 fun w10 b5 a eb5 m5 B11 zb5 F => ?_
 have sB11 := B11.size
 have hB := bt hB B11
 have m2 := m2.old B11
 have m3 := m3.old B11
 have m4 := m4.old B11
 refine s_putW F rfl rfl (size_wide wide70) m5 rfl (oneII _ _) fun w14 m5 o15 => ?_
 have so15 := o15.size
 have hB := hB.trans (o15.below (by omega))
 have m2 := m2.only o15 (by omega)
 have m3 := m3.only o15 (by omega)
 have m4 := m4.only o15 (by omega)
 refine F.sg rfl fun a F => ?_
 refine s_end (K2 _ _ ?_)
 refine wp_rs fun _ K3 => F.vl (x_ldW wide27 m3 rfl rfl) fun a F => ?_
 refine s_callB [_] F E46 rfl (by decide) (measure62 v y w14 (hv.bel hB)) fun w16 a B17 F => ?_
 have sB17 := B17.size
 have hB := bt hB B17
 have m2 := m2.old B17
 have m3 := m3.old B17
 have m4 := m4.old B17
 have m5 := m5.old B17
 refine F.mv rfl fun a F => F.vl (x_ext rfl rfl) fun a F => F.vl (x_ext rfl rfl) fun a F => ?_
 refine s_alloc F (by decide) zero70 fun w18 b7 a eb7 m7 B19 zb7 F => ?_
 have sB19 := B19.size
 have hB := bt hB B19
 have m2 := m2.old B19
 have m3 := m3.old B19
 have m4 := m4.old B19
 have m5 := m5.old B19
 refine s_putW F rfl rfl (size_wide wide70) m7 rfl (oneII _ _) fun w22 m7 o23 => ?_
 have so23 := o23.size
 have hB := hB.trans (o23.below (by omega))
 have m2 := m2.only o23 (by omega)
 have m3 := m3.only o23 (by omega)
 have m4 := m4.only o23 (by omega)
 have m5 := m5.only o23 (by omega)
 refine F.sg rfl fun a F => ?_
 refine s_end (K3 _ _ ?_)
 refine wp_seq_k fun _ K4 => ?_
 rcases (show ¬ c.ok ∨ (c.ok ∧ ¬ v.ok) ∨ (c.ok ∧ v.ok ∧ (PT.put v.ess c.ess 0).ok) ∨ (c.ok ∧ v.ok ∧ ¬ (PT.put v.ess c.ess 0).ok) by by_cases h1 : c.ok <;> by_cases h2 : v.ok <;> by_cases h3 : (PT.put v.ess c.ess 0).ok <;> simp [h1, h2, h3]) with hk1 | ⟨hk1, hk2⟩ | ⟨hk1, hk2, hk3⟩ | ⟨hk1, hk2, hk3⟩
 ·
  rw [decide_eq_false hk1] at F
  refine dk2_seq (b4) (b4) (ops := regOps Try.f23 3) (N := 14) (by kernel_rfl) wide_orders (by kernel_rfl) fun w24 hw24 B25 hS K6 hK6 => ?_
  have zw24 : w24.heap.size = w22.heap.size := by rw [hw24]
  have sB25 := B25.size
  have hB := bt hB B25
  have m2 := m2.old B25
  have m3 := m3.old B25
  have m4 := m4.old B25
  have m5 := m5.old B25
  have m7 := m7.old B25
  have m2_d := m2
  have m3_d := m3
  have m4_d := m4
  have m5_d := m5
  have m7_d := m7
  have hB_d := hB
  refine F.dv 0 19 (.move (.tmp 6)) hS (fun W hW => x_move rfl) fun a F => F.dv 1 20 (.unOp .not 4 (.tmp 19)) hS (fun W hW => x_not rfl) fun a F => F.dv 2 21 (.move (.tmp 20)) hS (fun W hW => x_move rfl) fun a F => d_skip 3 22 21 (j := 2) (want := false) (op := (.move (.tmp 8))) F hS (by kernel_rfl) (by kernel_rfl) rfl (by kernel_rfl) (by decide) fun a F => d_skip 4 23 21 (j := 2) (want := false) (op := (.unOp .not 4 (.tmp 22))) F hS (by kernel_rfl) (by kernel_rfl) rfl (by kernel_rfl) (by decide) fun a F => F.dv 5 24 (.pick (.tmp 21) (.const (.bool true)) (.tmp 23)) hS (fun W hW => x_pick (b := true) rfl rfl) fun a F => F.dv 6 25 (.move (.tmp 24)) hS (fun W hW => x_move rfl) fun a F => d_skip 7 26 25 (j := 6) (want := false) (op := (.load 69 (.tmp 5))) F hS (by kernel_rfl) (by kernel_rfl) rfl (by kernel_rfl) (by decide) fun a F => d_skip 8 27 25 (j := 6) (want := false) (op := (.load 69 (.tmp 7))) F hS (by kernel_rfl) (by kernel_rfl) rfl (by kernel_rfl) (by decide) fun a F => d_skip 9 28 25 (j := 6) (want := false) (op := (.load 27 (.tmp 2))) F hS (by kernel_rfl) (by kernel_rfl) rfl (by kernel_rfl) (by decide) fun a F => d_skip 10 29 25 (j := 6) (want := false) (op := (.call (.mk (.value (.func 56)) #[(.tmp 28)] #[27]))) F hS (by kernel_rfl) (by kernel_rfl) rfl (by kernel_rfl) (by decide) fun a F => d_skip 11 30 25 (j := 6) (want := false) (op := (.call (.mk (.value (.func 55)) #[(.tmp 26), (.tmp 27), (.tmp 29)] #[69, 69, 78]))) F hS (by kernel_rfl) (by kernel_rfl) rfl (by kernel_rfl) (by decide) fun a F => d_skip 12 31 25 (j := 6) (want := false) (op := (.unOp .not 4 (.tmp 30))) F hS (by kernel_rfl) (by kernel_rfl) rfl (by kernel_rfl) (by decide) fun a F => F.dv 13 32 (.pick (.tmp 25) (.const (.bool true)) (.tmp 31)) hS (fun W hW => x_pick (b := true) rfl rfl) fun a F => ?_
  refine d_end (by kernel_rfl) (hK6 _ _ ?_)
  refine wp_if F rfl ?_
  refine wp_rs fun _ K7 => F.vl (x_build (vs := []) rfl (b27_ _)) fun a F => ?_
  refine s_putW F rfl rfl (size_wide wide27) m4 rfl one8 fun w28 m4 o29 => ?_
  have so29 := o29.size
  have hB := hB.trans (o29.below (by omega))
  refine s_end (K7 _ _ ?_)
  refine wp_ret (then_ret (res_cell F rfl rfl m4 wide27 ⟨_, rfl, ⟨⟨0, 0, emptyB, (0, 0, nilS), nilS, nilS⟩, rfl, by rw [hno (fun h => hk1 h.1)]; exact RE_bare _ _, fun h => absurd h (fun h => hk1 h.1)⟩, hB⟩))
 ·
  rw [decide_eq_true hk1, decide_eq_false hk2] at F
  refine dk2_seq (b4) (b4) (ops := regOps Try.f23 3) (N := 14) (by kernel_rfl) wide_orders (by kernel_rfl) fun w30 hw30 B31 hS K8 hK8 => ?_
  have zw30 : w30.heap.size = w22.heap.size := by rw [hw30]
  have sB31 := B31.size
  have hB := bt hB B31
  have m2 := m2.old B31
  have m3 := m3.old B31
  have m4 := m4.old B31
  have m5 := m5.old B31
  have m7 := m7.old B31
  have m2_d := m2
  have m3_d := m3
  have m4_d := m4
  have m5_d := m5
  have m7_d := m7
  have hB_d := hB
  refine F.dv 0 19 (.move (.tmp 6)) hS (fun W hW => x_move rfl) fun a F => F.dv 1 20 (.unOp .not 4 (.tmp 19)) hS (fun W hW => x_not rfl) fun a F => F.dv 2 21 (.move (.tmp 20)) hS (fun W hW => x_move rfl) fun a F => F.dg 3 22 21 2 false (.move (.tmp 8)) hS rfl (fun W hW => x_move rfl) fun a F => F.dg 4 23 21 2 false (.unOp .not 4 (.tmp 22)) hS rfl (fun W hW => x_not rfl) fun a F => F.dv 5 24 (.pick (.tmp 21) (.const (.bool true)) (.tmp 23)) hS (fun W hW => x_pick (b := false) rfl rfl) fun a F => F.dv 6 25 (.move (.tmp 24)) hS (fun W hW => x_move rfl) fun a F => d_skip 7 26 25 (j := 6) (want := false) (op := (.load 69 (.tmp 5))) F hS (by kernel_rfl) (by kernel_rfl) rfl (by kernel_rfl) (by decide) fun a F => d_skip 8 27 25 (j := 6) (want := false) (op := (.load 69 (.tmp 7))) F hS (by kernel_rfl) (by kernel_rfl) rfl (by kernel_rfl) (by decide) fun a F => d_skip 9 28 25 (j := 6) (want := false) (op := (.load 27 (.tmp 2))) F hS (by kernel_rfl) (by kernel_rfl) rfl (by kernel_rfl) (by decide) fun a F => d_skip 10 29 25 (j := 6) (want := false) (op := (.call (.mk (.value (.func 56)) #[(.tmp 28)] #[27]))) F hS (by kernel_rfl) (by kernel_rfl) rfl (by kernel_rfl) (by decide) fun a F => d_skip 11 30 25 (j := 6) (want := false) (op := (.call (.mk (.value (.func 55)) #[(.tmp 26), (.tmp 27), (.tmp 29)] #[69, 69, 78]))) F hS (by kernel_rfl) (by kernel_rfl) rfl (by kernel_rfl) (by decide) fun a F => d_skip 12 31 25 (j := 6) (want := false) (op := (.unOp .not 4 (.tmp 30))) F hS (by kernel_rfl) (by kernel_rfl) rfl (by kernel_rfl) (by decide) fun a F => F.dv 13 32 (.pick (.tmp 25) (.const (.bool true)) (.tmp 31)) hS (fun W hW => x_pick (b := true) rfl rfl) fun a F => ?_
  refine d_end (by kernel_rfl) (hK8 _ _ ?_)
  refine wp_if F rfl ?_
  refine wp_rs fun _ K9 => F.vl (x_build (vs := []) rfl (b27_ _)) fun a F => ?_
  refine s_putW F rfl rfl (size_wide wide27) m4 rfl one8 fun w34 m4 o35 => ?_
  have so35 := o35.size
  have hB := hB.trans (o35.below (by omega))
  refine s_end (K9 _ _ ?_)
  refine wp_ret (then_ret (res_cell F rfl rfl m4 wide27 ⟨_, rfl, ⟨⟨0, 0, emptyB, (0, 0, nilS), nilS, nilS⟩, rfl, by rw [hno (fun h => hk2 h.2.1)]; exact RE_bare _ _, fun h => absurd h (fun h => hk2 h.2.1)⟩, hB⟩))
 ·
  rw [decide_eq_true hk1, decide_eq_true hk2] at F
  rw [show c.mN = c.size from if_pos hk1, show c.mD = c.dep from if_pos hk1] at m5
  rw [show v.mN = v.size from if_pos hk2, show v.mD = v.dep from if_pos hk2] at m7
  have hk3b := decide_eq_true (hh.2 hk3)
  refine dk2_seq (b4) (b4) (ops := regOps Try.f23 3) (N := 14) (by kernel_rfl) wide_orders (by kernel_rfl) fun w36 hw36 B37 hS K10 hK10 => ?_
  have zw36 : w36.heap.size = w22.heap.size := by rw [hw36]
  have sB37 := B37.size
  have hB := bt hB B37
  have m2 := m2.old B37
  have m3 := m3.old B37
  have m4 := m4.old B37
  have m5 := m5.old B37
  have m7 := m7.old B37
  have m2_d := m2
  have m3_d := m3
  have m4_d := m4
  have m5_d := m5
  have m7_d := m7
  have hB_d := hB
  refine F.dv 0 19 (.move (.tmp 6)) hS (fun W hW => x_move rfl) fun a F => F.dv 1 20 (.unOp .not 4 (.tmp 19)) hS (fun W hW => x_not rfl) fun a F => F.dv 2 21 (.move (.tmp 20)) hS (fun W hW => x_move rfl) fun a F => F.dg 3 22 21 2 false (.move (.tmp 8)) hS rfl (fun W hW => x_move rfl) fun a F => F.dg 4 23 21 2 false (.unOp .not 4 (.tmp 22)) hS rfl (fun W hW => x_not rfl) fun a F => F.dv 5 24 (.pick (.tmp 21) (.const (.bool true)) (.tmp 23)) hS (fun W hW => x_pick (b := false) rfl rfl) fun a F => F.dv 6 25 (.move (.tmp 24)) hS (fun W hW => x_move rfl) fun a F => F.dg 7 26 25 6 false (.load 69 (.tmp 5)) hS rfl (fun W hW => x_ldW wide70 (m5_d.k2 hW (by omega)) rfl rfl) fun a F => F.dg 8 27 25 6 false (.load 69 (.tmp 7)) hS rfl (fun W hW => x_ldW wide70 (m7_d.k2 hW (by omega)) rfl rfl) fun a F => F.dg 9 28 25 6 false (.load 27 (.tmp 2)) hS rfl (fun W hW => x_ldW wide27 (m2_d.k2 hW (by omega)) rfl rfl) fun a F => ?_
  refine d_oneg 10 25 (some 29) (.call (.mk (.value (.func 56)) #[(.tmp 28)] #[27])) (j := 6) (want := false) F (by kernel_rfl) (by kernel_rfl) (by kernel_rfl) rfl fun ty pos af => ?_
  refine s_callB [_] F E56 rfl (by decide) ((placesOf84 c x w36 (hx.bel hB) hk1).mono fun e w' h => ⟨by rw [h.1, ← hq], h.2⟩) fun w38 a B39 F => ?_
  have sB39 := B39.size
  have hB := bt hB B39
  have m2 := m2.old B39
  have m3 := m3.old B39
  have m4 := m4.old B39
  have m5 := m5.old B39
  have m7 := m7.old B39
  have hS := hS.below B39
  refine s_end ⟨hS, ?_⟩
  refine d_oneg 11 25 (some 30) (.call (.mk (.value (.func 55)) #[(.tmp 26), (.tmp 27), (.tmp 29)] #[69, 69, 78])) (j := 6) (want := false) F (by kernel_rfl) (by kernel_rfl) (by kernel_rfl) rfl fun ty pos af => ?_
  refine s_callB [_, _, _] F E55 rfl (by decide) ((holds83q c.size c.dep v.size v.dep q w38 (by have := hk1.1; omega) (by have := hk1.2; omega) (by have := hk2.1; omega) (by have := hk2.2; omega) (by have := hk1.1; omega) (by have := hk1.2; omega)).mono fun e w' h => ⟨by rw [h.1, hk3b], h.2⟩) fun w40 a B41 F => ?_
  have sB41 := B41.size
  have hB := bt hB B41
  have m2 := m2.old B41
  have m3 := m3.old B41
  have m4 := m4.old B41
  have m5 := m5.old B41
  have m7 := m7.old B41
  have hS := hS.below B41
  refine s_end ⟨hS, ?_⟩
  refine F.dg 12 31 25 6 false (.unOp .not 4 (.tmp 30)) hS rfl (fun W hW => x_not rfl) fun a F => F.dv 13 32 (.pick (.tmp 25) (.const (.bool true)) (.tmp 31)) hS (fun W hW => x_pick (b := false) rfl rfl) fun a F => ?_
  refine d_end (by kernel_rfl) (hK10 _ _ ?_)
  refine wp_if F rfl ?_
  refine wp_skip (K4 _ _ ?_)
  refine dk2_seq (b4) (b4) (ops := regOps Try.f23 5) (N := 5) (by kernel_rfl) wide_orders (by kernel_rfl) fun w42 hw42 B43 hS K11 hK11 => ?_
  have zw42 : w42.heap.size = w40.heap.size := by rw [hw42]
  have sB43 := B43.size
  have hB := bt hB B43
  have m2 := m2.old B43
  have m3 := m3.old B43
  have m4 := m4.old B43
  have m5 := m5.old B43
  have m7 := m7.old B43
  have m2_d := m2
  have m3_d := m3
  have m4_d := m4
  have m5_d := m5
  have m7_d := m7
  have hB_d := hB
  refine F.dv 1 35 (.load 27 (.tmp 2)) hS (fun W hW => x_ldW wide27 (m2_d.k2 hW (by omega)) rfl rfl) fun a F => F.dv 2 36 (.load 27 (.tmp 3)) hS (fun W hW => x_ldW wide27 (m3_d.k2 hW (by omega)) rfl rfl) fun a F => ?_
  refine d1 0 (some 34) (.call (.mk (.value (.func 40)) #[] #[])) fun ty pos af => ?_
  refine s_callR (R := fun v w' => ∃ br, v = .pointer (some ⟨br, 0, none⟩) ∧ w42.heap.size ≤ br ∧ Blk w' br 102 [.int .i64 2147483647]) [] F E40 rfl (by decide) (newRoom56 w42) ?_
  rintro _ w44 a ⟨br, rfl, hbrw, mbr⟩ B45 F
  have sB45 := B45.size
  have hB := bt hB B45
  have m4 := m4.old B45
  have hS := hS.below B45
  have hR : Room w44 br := ⟨_, mbr, by decide, by decide⟩
  have hbrl := hR.lt
  refine s_end ⟨hS, ?_⟩
  refine d1 3 (some 37) (.call (.mk (.value (.func 57)) #[(.tmp 34), (.tmp 35), (.tmp 36)] #[63, 27, 27])) fun ty pos af => ?_
  refine s_call (R := fun u w' => ((∃ y, u = tv y ∧ RE w' (AS A w44.heap.size) (PT.put v.ess c.ess 0) y ∧ Tt c y) ∧ Room w' br) ∧ Ktw br br w44 w') F [_, _, _] E57 rfl (by decide) (put85 w44 br (by omega) A (fun k hk => by have := hA k hk; exact ⟨by omega, by omega⟩) c x (hxA.keep hB.size (fun k hk _ => hB.block k (hA k hk))) v y (hvA.keep hB.size (fun k hk _ => hB.block k (hA k hk))) (by have := hk2.2; omega) (by have := hk1.2; omega) hR) ?_
  rintro _ w46 a ⟨⟨⟨y9, rfl, hy9, hT9⟩, hR⟩, k47⟩ F
  have sk47 := k47.size
  have hB := k47.under hB (by omega)
  have m4 := m4.k2 k47 (by omega)
  have hS := hS.trans k47 (by omega)
  refine s_end ⟨hS, ?_⟩
  refine d1 4 none (.store 27 (.tmp 4) (.tmp 37)) fun ty pos af => ?_
  refine s_putW F rfl rfl (size_wide wide27) m4 rfl hy9.one fun w50 m4 o51 => ?_
  have so51 := o51.size
  have hB := hB.trans (o51.below (by omega))
  have hS := hS.only o51 (by omega)
  have hy9 := hy9.only o51 (by intro h; rcases h with h | h; (have := hA _ h; omega); omega)
  refine s_end ⟨hS, ?_⟩
  refine d_end (by kernel_rfl) (hK11 _ _ ?_)
  refine wp_ret (res_cell F rfl rfl m4 wide27 ⟨_, rfl, ⟨y9, rfl, by rw [hin ⟨hk1, hk2, hk3⟩]; exact hy9.mono (AS.mono (by omega)), fun _ => hT9⟩, hB⟩)
 ·
  rw [decide_eq_true hk1, decide_eq_true hk2] at F
  rw [show c.mN = c.size from if_pos hk1, show c.mD = c.dep from if_pos hk1] at m5
  rw [show v.mN = v.size from if_pos hk2, show v.mD = v.dep from if_pos hk2] at m7
  have hk3b := decide_eq_false (fun h => hk3 (hh.1 h))
  refine dk2_seq (b4) (b4) (ops := regOps Try.f23 3) (N := 14) (by kernel_rfl) wide_orders (by kernel_rfl) fun w52 hw52 B53 hS K12 hK12 => ?_
  have zw52 : w52.heap.size = w22.heap.size := by rw [hw52]
  have sB53 := B53.size
  have hB := bt hB B53
  have m2 := m2.old B53
  have m3 := m3.old B53
  have m4 := m4.old B53
  have m5 := m5.old B53
  have m7 := m7.old B53
  have m2_d := m2
  have m3_d := m3
  have m4_d := m4
  have m5_d := m5
  have m7_d := m7
  have hB_d := hB
  refine F.dv 0 19 (.move (.tmp 6)) hS (fun W hW => x_move rfl) fun a F => F.dv 1 20 (.unOp .not 4 (.tmp 19)) hS (fun W hW => x_not rfl) fun a F => F.dv 2 21 (.move (.tmp 20)) hS (fun W hW => x_move rfl) fun a F => F.dg 3 22 21 2 false (.move (.tmp 8)) hS rfl (fun W hW => x_move rfl) fun a F => F.dg 4 23 21 2 false (.unOp .not 4 (.tmp 22)) hS rfl (fun W hW => x_not rfl) fun a F => F.dv 5 24 (.pick (.tmp 21) (.const (.bool true)) (.tmp 23)) hS (fun W hW => x_pick (b := false) rfl rfl) fun a F => F.dv 6 25 (.move (.tmp 24)) hS (fun W hW => x_move rfl) fun a F => F.dg 7 26 25 6 false (.load 69 (.tmp 5)) hS rfl (fun W hW => x_ldW wide70 (m5_d.k2 hW (by omega)) rfl rfl) fun a F => F.dg 8 27 25 6 false (.load 69 (.tmp 7)) hS rfl (fun W hW => x_ldW wide70 (m7_d.k2 hW (by omega)) rfl rfl) fun a F => F.dg 9 28 25 6 false (.load 27 (.tmp 2)) hS rfl (fun W hW => x_ldW wide27 (m2_d.k2 hW (by omega)) rfl rfl) fun a F => ?_
  refine d_oneg 10 25 (some 29) (.call (.mk (.value (.func 56)) #[(.tmp 28)] #[27])) (j := 6) (want := false) F (by kernel_rfl) (by kernel_rfl) (by kernel_rfl) rfl fun ty pos af => ?_
  refine s_callB [_] F E56 rfl (by decide) ((placesOf84 c x w52 (hx.bel hB) hk1).mono fun e w' h => ⟨by rw [h.1, ← hq], h.2⟩) fun w54 a B55 F => ?_
  have sB55 := B55.size
  have hB := bt hB B55
  have m4 := m4.old B55
  have hS := hS.below B55
  refine s_end ⟨hS, ?_⟩
  refine d_oneg 11 25 (some 30) (.call (.mk (.value (.func 55)) #[(.tmp 26), (.tmp 27), (.tmp 29)] #[69, 69, 78])) (j := 6) (want := false) F (by kernel_rfl) (by kernel_rfl) (by kernel_rfl) rfl fun ty pos af => ?_
  refine s_callB [_, _, _] F E55 rfl (by decide) ((holds83q c.size c.dep v.size v.dep q w54 (by have := hk1.1; omega) (by have := hk1.2; omega) (by have := hk2.1; omega) (by have := hk2.2; omega) (by have := hk1.1; omega) (by have := hk1.2; omega)).mono fun e w' h => ⟨by rw [h.1, hk3b], h.2⟩) fun w56 a B57 F => ?_
  have sB57 := B57.size
  have hB := bt hB B57
  have m4 := m4.old B57
  have hS := hS.below B57
  refine s_end ⟨hS, ?_⟩
  refine F.dg 12 31 25 6 false (.unOp .not 4 (.tmp 30)) hS rfl (fun W hW => x_not rfl) fun a F => F.dv 13 32 (.pick (.tmp 25) (.const (.bool true)) (.tmp 31)) hS (fun W hW => x_pick (b := false) rfl rfl) fun a F => ?_
  refine d_end (by kernel_rfl) (hK12 _ _ ?_)
  refine wp_if F rfl ?_
  refine wp_rs fun _ K13 => F.vl (x_build (vs := []) rfl (b27_ _)) fun a F => ?_
  refine s_putW F rfl rfl (size_wide wide27) m4 rfl one8 fun w60 m4 o61 => ?_
  have so61 := o61.size
  have hB := hB.trans (o61.below (by omega))
  refine s_end (K13 _ _ ?_)
  refine wp_ret (then_ret (res_cell F rfl rfl m4 wide27 ⟨_, rfl, ⟨⟨0, 0, emptyB, (0, 0, nilS), nilS, nilS⟩, rfl, by rw [hno (fun h => hk3 h.2.2)]; exact RE_bare _ _, fun h => absurd h (fun h => hk3 h.2.2)⟩, hB⟩))
theorem Inst42 (c v : CT) (x y : C8) (w0 : World) (hx : RC w0 (fun k => k < w0.heap.size) c x) (hv : RC w0 (fun k => k < w0.heap.size) v y) : Calls Try.prog 23 #[tv x, tv y] w0 fun e w' => ∃ u, e = .returned u ∧ (∃ y, u = tv y ∧ RT w' (PT.inst c.ess v.ess) y) ∧ Below w0.heap.size w0 w' :=
 (Inst42t _ c v x y w0 (fun _ h => h) hx hv).mono fun e w' ⟨u, h1, ⟨y, h2, h3, _⟩, h4⟩ => ⟨u, h1, ⟨y, h2, RE.rt h3⟩, h4⟩
theorem Const18t (A : Nat → Prop) (s : ByteArray) (ls : List Lv) (v : Value) (w0 : World) (hA : ∀ k, A k → k < w0.heap.size) (hv : RVn w0 A v ls) : Calls Try.prog 12 #[.string s, v] w0 fun e w' => ∃ u, e = .returned u ∧ (∃ y, u = tv y ∧ RE w' (AS A w0.heap.size) (.cst s (ls.map slO)) y) ∧ Below w0.heap.size w0 w' := by
 obtain ⟨av, cv, hve, _⟩ := hv.form
 subst hve
 have hB := Below.refl w0.heap.size w0
 have sB := hB.size
 refine calls_fs 10 [(0, .string s), (1, .slice av ls.length cv)] Try.func12 rfl rfl rfl rfl rfl fun a F => ?_
 refine wp_rs fun _ K1 => ?_
 refine s_alloc F (by decide) zero27 fun w2 b4 a eb4 m4 B3 zb4 F => ?_
 have sB3 := B3.size
 have hB := bt hB B3
 refine s_end (K1 _ _ ?_)
 refine wp_rs fun _ K2 => ?_
 refine s_callR (R := fun v w' => ∃ br, v = .pointer (some ⟨br, 0, none⟩) ∧ w2.heap.size ≤ br ∧ Blk w' br 102 [.int .i64 2147483647]) [] F E40 rfl (by decide) (newRoom56 w2) ?_
 rintro _ w4 a ⟨br, rfl, hbrw, mbr⟩ B5 F
 have sB5 := B5.size
 have hB := bt hB B5
 have m4 := m4.old B5
 have hR : Room w4 br := ⟨_, mbr, by decide, by decide⟩
 have hbrl := hR.lt
 refine F.mv rfl fun a F => F.mv rfl fun a F => F.vl (x_build (vs := [(0, _), (2, _), (4, _)]) rfl (b27_024 _ _ _ _ _ _)) fun a F => ?_
 refine s_call (R := fun u w' => ((∃ y, u = tv y ∧ RE w' (AS A w4.heap.size) (CT.ess (.cst s ls 0)) y) ∧ Room w' br) ∧ Ktw br br w4 w') F [_, _] E41 rfl (by decide) (owned57 w4 br (by omega) A (fun k hk => by have := hA k hk; exact ⟨by omega, by omega⟩) (.cst s ls 0) ⟨7, 0, s, (0, 0, nilS), .slice av ls.length cv, nilS⟩ ⟨rfl, rfl, hv.keep hB.size (fun k hk _ => hB.block k (hA k hk)), ⟨_, Rn.nil _ _ 8⟩, ⟨.mk 0 0 [], .mk (xs := []) (Rn.nil _ _ 3) rfl (fun i x l h => by simp at h)⟩, _, hv.keep hB.size (fun k hk _ => hB.block k (hA k hk))⟩ hR) ?_
 rintro _ w6 a ⟨⟨⟨y9, rfl, hy9⟩, hR⟩, k7⟩ F
 have sk7 := k7.size
 have hB := k7.under hB (by omega)
 have m4 := m4.k2 k7 (by omega)
 refine s_putW F rfl rfl (size_wide wide27) m4 rfl hy9.one fun w10 m4 o11 => ?_
 have so11 := o11.size
 have hB := hB.trans (o11.below (by omega))
 have hy9 := hy9.only o11 (by intro h; rcases h with h | h; (have := hA _ h; omega); omega)
 refine s_end (K2 _ _ ?_)
 refine wp_ret (res_cell F rfl rfl m4 wide27 ⟨_, rfl, ⟨y9, rfl, hy9.mono (AS.mono (by omega))⟩, hB⟩)
theorem Const18 (s : ByteArray) (ls : List Lv) (v : Value) (w0 : World) (hv : RVn w0 (fun k => k < w0.heap.size) v ls) : Calls Try.prog 12 #[.string s, v] w0 fun e w' => ∃ u, e = .returned u ∧ (∃ y, u = tv y ∧ RT w' (.cst s (ls.map slO)) y) ∧ Below w0.heap.size w0 w' :=
 (Const18t _ s ls v w0 (fun _ h => h) hv).mono fun e w' ⟨u, h1, ⟨y, h2, h3⟩, h4⟩ => ⟨u, h1, ⟨y, h2, RE.rt h3⟩, h4⟩
theorem Pi20t (A : Nat → Prop) (c v : CT) (x y : C8) (w0 : World) (hA : ∀ k, A k → k < w0.heap.size) (hx : RC w0 A c x) (hv : RC w0 A v y) : Calls Try.prog 14 #[tv x, tv y] w0 fun e w' => ∃ u, e = .returned u ∧ (∃ y, u = tv y ∧ RE w' (AS A w0.heap.size) (.two 3 c.ess v.ess) y ∧ Tn 2 y) ∧ Below w0.heap.size w0 w' := by
 have hB := Below.refl w0.heap.size w0
 have sB := hB.size
 refine calls_fs 10 [(0, tv x), (1, tv y)] Try.func14 rfl rfl rfl rfl rfl fun a F => ?_
 refine wp_rs fun _ K1 => ?_
 refine s_box (tc x) F (by decide) rfl rfl fun w2 b2 a eb2 m2 B3 zb2 F => ?_
 have sB3 := B3.size
 have hB := bt hB B3
 refine s_box (tc y) F (by decide) rfl rfl fun w4 b3 a eb3 m3 B5 zb3 F => ?_
 have sB5 := B5.size
 have hB := bt hB B5
 have m2 := m2.old B5
 refine s_alloc F (by decide) zero27 fun w6 b4 a eb4 m4 B7 zb4 F => ?_
 have sB7 := B7.size
 have hB := bt hB B7
 have m2 := m2.old B7
 have m3 := m3.old B7
 refine s_end (K1 _ _ ?_)
 refine dk2_seq (b4) (b4) (ops := regOps Try.f14 1) (N := 6) (by kernel_rfl) wide_orders (by kernel_rfl) fun w8 hw8 B9 hS K2 K2 => ?_
 have zw8 : w8.heap.size = w6.heap.size := by rw [hw8]
 have sB9 := B9.size
 have hB := bt hB B9
 have m2 := m2.old B9
 have m3 := m3.old B9
 have m4 := m4.old B9
 have m2_d := m2
 have m3_d := m3
 have m4_d := m4
 have hB_d := hB
 refine F.dv 1 6 (.load 27 (.tmp 2)) hS (fun W hW => x_ldW wide27 (m2_d.k2 hW (by omega)) rfl rfl) fun a F => F.dv 2 7 (.load 27 (.tmp 3)) hS (fun W hW => x_ldW wide27 (m3_d.k2 hW (by omega)) rfl rfl) fun a F => ?_
 refine d_two 0 3 (by kernel_rfl) ?_ ?_
 ·
  refine d_op 0 (some 5) (.call (.mk (.value (.func 40)) #[] #[])) (by kernel_rfl) fun ty pos af => ?_
  refine s_callR (R := fun v w' => ∃ br, v = .pointer (some ⟨br, 0, none⟩) ∧ w8.heap.size ≤ br ∧ Blk w' br 102 [.int .i64 2147483647]) [] F E40 rfl (by decide) (newRoom56 w8) ?_
  rintro _ w10 a ⟨br, rfl, hbrw, mbr⟩ B11 F
  have sB11 := B11.size
  have hB := bt hB B11
  have m4 := m4.old B11
  have hS := hS.below B11
  have hR : Room w10 br := ⟨_, mbr, by decide, by decide⟩
  have hbrl := hR.lt
  refine s_end ⟨hS, ?_⟩
  refine d1 3 (some 8) (.buildSlice 25 2 #[(0, (.tmp 6)), (1, (.tmp 7))]) fun ty pos af => ?_
  refine s_litG [tv x, tv y] el25 F (by decide) rfl (by simp [Value.cells, tc]) rfl (by decide) (by decide) fun w12 bl a ebl ml B13 zbl F => ?_
  have sB13 := B13.size
  have hB := bt hB B13
  have m4 := m4.old B13
  have hS := hS.below B13
  have hR := hR.below B13
  have ml : Blk w12 bl 27 (tc x ++ tc y) := by simpa [Value.cells] using ml
  refine s_end ⟨hS, ?_⟩
  refine d1 4 (some 9) (.call (.mk (.value (.func 44)) #[(.tmp 5), (.const (.int .i64 3)), (.tmp 8)] #[63, 3, 25])) fun ty pos af => ?_
  have hbl1 := ml.lt
  have hrk : RK w12 (fun k => A k ∨ k = bl) (.slice (some ⟨bl, 0, none⟩) 2 2) [c, v] := ⟨[x, y], ⟨by simpa using Rd.blk ml (n := 2) rfl, fun _ b hb => by simp [Value.ownBlock] at hb; exact .inr hb.symm⟩, rfl, fun i x2 c2 e1 e2 => by rcases i with _ | _ | i; (· simp at e1 e2; subst e1 e2; exact RC.mono (fun k hk => .inl hk) (hx.keep hB.size (fun k hk _ => hB.block k (hA k hk)))); (· simp at e1 e2; subst e1 e2; exact RC.mono (fun k hk => .inl hk) (hv.keep hB.size (fun k hk _ => hB.block k (hA k hk)))); simp at e1⟩
  refine s_call (R := fun u w' => ((∃ v', u = tv ⟨3, 0, emptyB, (0, 0, nilS), nilS, v'⟩ ∧ RKE w' (AS (fun k => A k ∨ k = bl) w12.heap.size) v' (List.map CT.ess [c, v])) ∧ Room w' br) ∧ Ktw br br w12 w') F [_, _, _] E44 rfl (by decide) (joined60 w12 br (by omega) (fun k => A k ∨ k = bl) (fun k hk => by rcases hk with hk | hk; (have := hA k hk; omega); omega) 3 [c, v] _ hrk (by simp) hR) ?_
  rintro _ w14 a ⟨⟨⟨v9, rfl, hy9⟩, hR⟩, k15⟩ F
  have sk15 := k15.size
  have hB := k15.under hB (by omega)
  have m4 := m4.k2 k15 (by omega)
  have hS := hS.trans k15 (by omega)
  have h1v9 := hy9.one
  have hT9 : Tn 2 ⟨3, 0, emptyB, (0, 0, nilS), nilS, v9⟩ := by obtain ⟨a, cp, he, _⟩ := hy9.form; exact ⟨a, cp, he⟩
  refine s_end ⟨hS, ?_⟩
  refine d1 5 none (.store 27 (.tmp 4) (.tmp 9)) fun ty pos af => ?_
  refine s_putW F rfl rfl (size_wide wide27) m4 rfl (one_tc0 _ _ _ _ h1v9) fun w18 m4 o19 => ?_
  have so19 := o19.size
  have hB := hB.trans (o19.below (by omega))
  have hS := hS.only o19 (by omega)
  have hy9 := hy9.only o19 (by intro h; rcases h with (h | h) | h; (have := hA _ h; omega); omega; omega)
  refine s_end ⟨hS, ?_⟩
  refine d_end (by kernel_rfl) (K2 _ _ ?_)
  refine wp_ret (res_cell F rfl rfl m4 wide27 ⟨_, rfl, ⟨_, rfl, RE_two (by decide) (hy9.mono (fun k hk => by rcases hk with (hk | hk) | hk; (· exact .inl hk); (· exact .inr (by omega)); exact .inr (by omega))), hT9⟩, hB⟩)
 ·
  refine d_op 3 (some 8) (.buildSlice 25 2 #[(0, (.tmp 6)), (1, (.tmp 7))]) (by kernel_rfl) fun ty pos af => ?_
  refine s_litG [tv x, tv y] el25 F (by decide) rfl (by simp [Value.cells, tc]) rfl (by decide) (by decide) fun w20 bl a ebl ml B21 zbl F => ?_
  have sB21 := B21.size
  have hB := bt hB B21
  have m4 := m4.old B21
  have hS := hS.below B21
  have ml : Blk w20 bl 27 (tc x ++ tc y) := by simpa [Value.cells] using ml
  refine s_end ⟨hS, ?_⟩
  refine d1 0 (some 5) (.call (.mk (.value (.func 40)) #[] #[])) fun ty pos af => ?_
  refine s_callR (R := fun v w' => ∃ br, v = .pointer (some ⟨br, 0, none⟩) ∧ w20.heap.size ≤ br ∧ Blk w' br 102 [.int .i64 2147483647]) [] F E40 rfl (by decide) (newRoom56 w20) ?_
  rintro _ w22 a ⟨br, rfl, hbrw, mbr⟩ B23 F
  have sB23 := B23.size
  have hB := bt hB B23
  have m4 := m4.old B23
  have ml := ml.old B23
  have hS := hS.below B23
  have hR : Room w22 br := ⟨_, mbr, by decide, by decide⟩
  have hbrl := hR.lt
  refine s_end ⟨hS, ?_⟩
  refine d1 4 (some 9) (.call (.mk (.value (.func 44)) #[(.tmp 5), (.const (.int .i64 3)), (.tmp 8)] #[63, 3, 25])) fun ty pos af => ?_
  have hbl1 := ml.lt
  have hrk : RK w22 (fun k => A k ∨ k = bl) (.slice (some ⟨bl, 0, none⟩) 2 2) [c, v] := ⟨[x, y], ⟨by simpa using Rd.blk ml (n := 2) rfl, fun _ b hb => by simp [Value.ownBlock] at hb; exact .inr hb.symm⟩, rfl, fun i x2 c2 e1 e2 => by rcases i with _ | _ | i; (· simp at e1 e2; subst e1 e2; exact RC.mono (fun k hk => .inl hk) (hx.keep hB.size (fun k hk _ => hB.block k (hA k hk)))); (· simp at e1 e2; subst e1 e2; exact RC.mono (fun k hk => .inl hk) (hv.keep hB.size (fun k hk _ => hB.block k (hA k hk)))); simp at e1⟩
  refine s_call (R := fun u w' => ((∃ v', u = tv ⟨3, 0, emptyB, (0, 0, nilS), nilS, v'⟩ ∧ RKE w' (AS (fun k => A k ∨ k = bl) w22.heap.size) v' (List.map CT.ess [c, v])) ∧ Room w' br) ∧ Ktw br br w22 w') F [_, _, _] E44 rfl (by decide) (joined60 w22 br (by omega) (fun k => A k ∨ k = bl) (fun k hk => by rcases hk with hk | hk; (have := hA k hk; omega); omega) 3 [c, v] _ hrk (by simp) hR) ?_
  rintro _ w24 a ⟨⟨⟨v9, rfl, hy9⟩, hR⟩, k25⟩ F
  have sk25 := k25.size
  have hB := k25.under hB (by omega)
  have m4 := m4.k2 k25 (by omega)
  have hS := hS.trans k25 (by omega)
  have h1v9 := hy9.one
  have hT9 : Tn 2 ⟨3, 0, emptyB, (0, 0, nilS), nilS, v9⟩ := by obtain ⟨a, cp, he, _⟩ := hy9.form; exact ⟨a, cp, he⟩
  refine s_end ⟨hS, ?_⟩
  refine d1 5 none (.store 27 (.tmp 4) (.tmp 9)) fun ty pos af => ?_
  refine s_putW F rfl rfl (size_wide wide27) m4 rfl (one_tc0 _ _ _ _ h1v9) fun w28 m4 o29 => ?_
  have so29 := o29.size
  have hB := hB.trans (o29.below (by omega))
  have hS := hS.only o29 (by omega)
  have hy9 := hy9.only o29 (by intro h; rcases h with (h | h) | h; (have := hA _ h; omega); omega; omega)
  refine s_end ⟨hS, ?_⟩
  refine d_end (by kernel_rfl) (K2 _ _ ?_)
  refine wp_ret (res_cell F rfl rfl m4 wide27 ⟨_, rfl, ⟨_, rfl, RE_two (by decide) (hy9.mono (fun k hk => by rcases hk with (hk | hk) | hk; (· exact .inl hk); (· exact .inr (by omega)); exact .inr (by omega))), hT9⟩, hB⟩)
theorem Lam21t (A : Nat → Prop) (c v : CT) (x y : C8) (w0 : World) (hA : ∀ k, A k → k < w0.heap.size) (hx : RC w0 A c x) (hv : RC w0 A v y) : Calls Try.prog 15 #[tv x, tv y] w0 fun e w' => ∃ u, e = .returned u ∧ (∃ y, u = tv y ∧ RE w' (AS A w0.heap.size) (.two 4 c.ess v.ess) y ∧ Tn 2 y) ∧ Below w0.heap.size w0 w' := by
 have hB := Below.refl w0.heap.size w0
 have sB := hB.size
 refine calls_fs 10 [(0, tv x), (1, tv y)] Try.func15 rfl rfl rfl rfl rfl fun a F => ?_
 refine wp_rs fun _ K1 => ?_
 refine s_box (tc x) F (by decide) rfl rfl fun w2 b2 a eb2 m2 B3 zb2 F => ?_
 have sB3 := B3.size
 have hB := bt hB B3
 refine s_box (tc y) F (by decide) rfl rfl fun w4 b3 a eb3 m3 B5 zb3 F => ?_
 have sB5 := B5.size
 have hB := bt hB B5
 have m2 := m2.old B5
 refine s_alloc F (by decide) zero27 fun w6 b4 a eb4 m4 B7 zb4 F => ?_
 have sB7 := B7.size
 have hB := bt hB B7
 have m2 := m2.old B7
 have m3 := m3.old B7
 refine s_end (K1 _ _ ?_)
 refine dk2_seq (b4) (b4) (ops := regOps Try.f15 1) (N := 6) (by kernel_rfl) wide_orders (by kernel_rfl) fun w8 hw8 B9 hS K2 K2 => ?_
 have zw8 : w8.heap.size = w6.heap.size := by rw [hw8]
 have sB9 := B9.size
 have hB := bt hB B9
 have m2 := m2.old B9
 have m3 := m3.old B9
 have m4 := m4.old B9
 have m2_d := m2
 have m3_d := m3
 have m4_d := m4
 have hB_d := hB
 refine F.dv 1 6 (.load 27 (.tmp 2)) hS (fun W hW => x_ldW wide27 (m2_d.k2 hW (by omega)) rfl rfl) fun a F => F.dv 2 7 (.load 27 (.tmp 3)) hS (fun W hW => x_ldW wide27 (m3_d.k2 hW (by omega)) rfl rfl) fun a F => ?_
 refine d_two 0 3 (by kernel_rfl) ?_ ?_
 ·
  refine d_op 0 (some 5) (.call (.mk (.value (.func 40)) #[] #[])) (by kernel_rfl) fun ty pos af => ?_
  refine s_callR (R := fun v w' => ∃ br, v = .pointer (some ⟨br, 0, none⟩) ∧ w8.heap.size ≤ br ∧ Blk w' br 102 [.int .i64 2147483647]) [] F E40 rfl (by decide) (newRoom56 w8) ?_
  rintro _ w10 a ⟨br, rfl, hbrw, mbr⟩ B11 F
  have sB11 := B11.size
  have hB := bt hB B11
  have m4 := m4.old B11
  have hS := hS.below B11
  have hR : Room w10 br := ⟨_, mbr, by decide, by decide⟩
  have hbrl := hR.lt
  refine s_end ⟨hS, ?_⟩
  refine d1 3 (some 8) (.buildSlice 25 2 #[(0, (.tmp 6)), (1, (.tmp 7))]) fun ty pos af => ?_
  refine s_litG [tv x, tv y] el25 F (by decide) rfl (by simp [Value.cells, tc]) rfl (by decide) (by decide) fun w12 bl a ebl ml B13 zbl F => ?_
  have sB13 := B13.size
  have hB := bt hB B13
  have m4 := m4.old B13
  have hS := hS.below B13
  have hR := hR.below B13
  have ml : Blk w12 bl 27 (tc x ++ tc y) := by simpa [Value.cells] using ml
  refine s_end ⟨hS, ?_⟩
  refine d1 4 (some 9) (.call (.mk (.value (.func 44)) #[(.tmp 5), (.const (.int .i64 4)), (.tmp 8)] #[63, 3, 25])) fun ty pos af => ?_
  have hbl1 := ml.lt
  have hrk : RK w12 (fun k => A k ∨ k = bl) (.slice (some ⟨bl, 0, none⟩) 2 2) [c, v] := ⟨[x, y], ⟨by simpa using Rd.blk ml (n := 2) rfl, fun _ b hb => by simp [Value.ownBlock] at hb; exact .inr hb.symm⟩, rfl, fun i x2 c2 e1 e2 => by rcases i with _ | _ | i; (· simp at e1 e2; subst e1 e2; exact RC.mono (fun k hk => .inl hk) (hx.keep hB.size (fun k hk _ => hB.block k (hA k hk)))); (· simp at e1 e2; subst e1 e2; exact RC.mono (fun k hk => .inl hk) (hv.keep hB.size (fun k hk _ => hB.block k (hA k hk)))); simp at e1⟩
  refine s_call (R := fun u w' => ((∃ v', u = tv ⟨4, 0, emptyB, (0, 0, nilS), nilS, v'⟩ ∧ RKE w' (AS (fun k => A k ∨ k = bl) w12.heap.size) v' (List.map CT.ess [c, v])) ∧ Room w' br) ∧ Ktw br br w12 w') F [_, _, _] E44 rfl (by decide) (joined60 w12 br (by omega) (fun k => A k ∨ k = bl) (fun k hk => by rcases hk with hk | hk; (have := hA k hk; omega); omega) 4 [c, v] _ hrk (by simp) hR) ?_
  rintro _ w14 a ⟨⟨⟨v9, rfl, hy9⟩, hR⟩, k15⟩ F
  have sk15 := k15.size
  have hB := k15.under hB (by omega)
  have m4 := m4.k2 k15 (by omega)
  have hS := hS.trans k15 (by omega)
  have h1v9 := hy9.one
  have hT9 : Tn 2 ⟨4, 0, emptyB, (0, 0, nilS), nilS, v9⟩ := by obtain ⟨a, cp, he, _⟩ := hy9.form; exact ⟨a, cp, he⟩
  refine s_end ⟨hS, ?_⟩
  refine d1 5 none (.store 27 (.tmp 4) (.tmp 9)) fun ty pos af => ?_
  refine s_putW F rfl rfl (size_wide wide27) m4 rfl (one_tc0 _ _ _ _ h1v9) fun w18 m4 o19 => ?_
  have so19 := o19.size
  have hB := hB.trans (o19.below (by omega))
  have hS := hS.only o19 (by omega)
  have hy9 := hy9.only o19 (by intro h; rcases h with (h | h) | h; (have := hA _ h; omega); omega; omega)
  refine s_end ⟨hS, ?_⟩
  refine d_end (by kernel_rfl) (K2 _ _ ?_)
  refine wp_ret (res_cell F rfl rfl m4 wide27 ⟨_, rfl, ⟨_, rfl, RE_two (by decide) (hy9.mono (fun k hk => by rcases hk with (hk | hk) | hk; (· exact .inl hk); (· exact .inr (by omega)); exact .inr (by omega))), hT9⟩, hB⟩)
 ·
  refine d_op 3 (some 8) (.buildSlice 25 2 #[(0, (.tmp 6)), (1, (.tmp 7))]) (by kernel_rfl) fun ty pos af => ?_
  refine s_litG [tv x, tv y] el25 F (by decide) rfl (by simp [Value.cells, tc]) rfl (by decide) (by decide) fun w20 bl a ebl ml B21 zbl F => ?_
  have sB21 := B21.size
  have hB := bt hB B21
  have m4 := m4.old B21
  have hS := hS.below B21
  have ml : Blk w20 bl 27 (tc x ++ tc y) := by simpa [Value.cells] using ml
  refine s_end ⟨hS, ?_⟩
  refine d1 0 (some 5) (.call (.mk (.value (.func 40)) #[] #[])) fun ty pos af => ?_
  refine s_callR (R := fun v w' => ∃ br, v = .pointer (some ⟨br, 0, none⟩) ∧ w20.heap.size ≤ br ∧ Blk w' br 102 [.int .i64 2147483647]) [] F E40 rfl (by decide) (newRoom56 w20) ?_
  rintro _ w22 a ⟨br, rfl, hbrw, mbr⟩ B23 F
  have sB23 := B23.size
  have hB := bt hB B23
  have m4 := m4.old B23
  have ml := ml.old B23
  have hS := hS.below B23
  have hR : Room w22 br := ⟨_, mbr, by decide, by decide⟩
  have hbrl := hR.lt
  refine s_end ⟨hS, ?_⟩
  refine d1 4 (some 9) (.call (.mk (.value (.func 44)) #[(.tmp 5), (.const (.int .i64 4)), (.tmp 8)] #[63, 3, 25])) fun ty pos af => ?_
  have hbl1 := ml.lt
  have hrk : RK w22 (fun k => A k ∨ k = bl) (.slice (some ⟨bl, 0, none⟩) 2 2) [c, v] := ⟨[x, y], ⟨by simpa using Rd.blk ml (n := 2) rfl, fun _ b hb => by simp [Value.ownBlock] at hb; exact .inr hb.symm⟩, rfl, fun i x2 c2 e1 e2 => by rcases i with _ | _ | i; (· simp at e1 e2; subst e1 e2; exact RC.mono (fun k hk => .inl hk) (hx.keep hB.size (fun k hk _ => hB.block k (hA k hk)))); (· simp at e1 e2; subst e1 e2; exact RC.mono (fun k hk => .inl hk) (hv.keep hB.size (fun k hk _ => hB.block k (hA k hk)))); simp at e1⟩
  refine s_call (R := fun u w' => ((∃ v', u = tv ⟨4, 0, emptyB, (0, 0, nilS), nilS, v'⟩ ∧ RKE w' (AS (fun k => A k ∨ k = bl) w22.heap.size) v' (List.map CT.ess [c, v])) ∧ Room w' br) ∧ Ktw br br w22 w') F [_, _, _] E44 rfl (by decide) (joined60 w22 br (by omega) (fun k => A k ∨ k = bl) (fun k hk => by rcases hk with hk | hk; (have := hA k hk; omega); omega) 4 [c, v] _ hrk (by simp) hR) ?_
  rintro _ w24 a ⟨⟨⟨v9, rfl, hy9⟩, hR⟩, k25⟩ F
  have sk25 := k25.size
  have hB := k25.under hB (by omega)
  have m4 := m4.k2 k25 (by omega)
  have hS := hS.trans k25 (by omega)
  have h1v9 := hy9.one
  have hT9 : Tn 2 ⟨4, 0, emptyB, (0, 0, nilS), nilS, v9⟩ := by obtain ⟨a, cp, he, _⟩ := hy9.form; exact ⟨a, cp, he⟩
  refine s_end ⟨hS, ?_⟩
  refine d1 5 none (.store 27 (.tmp 4) (.tmp 9)) fun ty pos af => ?_
  refine s_putW F rfl rfl (size_wide wide27) m4 rfl (one_tc0 _ _ _ _ h1v9) fun w28 m4 o29 => ?_
  have so29 := o29.size
  have hB := hB.trans (o29.below (by omega))
  have hS := hS.only o29 (by omega)
  have hy9 := hy9.only o29 (by intro h; rcases h with (h | h) | h; (have := hA _ h; omega); omega; omega)
  refine s_end ⟨hS, ?_⟩
  refine d_end (by kernel_rfl) (K2 _ _ ?_)
  refine wp_ret (res_cell F rfl rfl m4 wide27 ⟨_, rfl, ⟨_, rfl, RE_two (by decide) (hy9.mono (fun k hk => by rcases hk with (hk | hk) | hk; (· exact .inl hk); (· exact .inr (by omega)); exact .inr (by omega))), hT9⟩, hB⟩)
theorem Lam21 (c v : CT) (x y : C8) (w0 : World) (hx : RC w0 (fun k => k < w0.heap.size) c x) (hv : RC w0 (fun k => k < w0.heap.size) v y) : Calls Try.prog 15 #[tv x, tv y] w0 fun e w' => ∃ u, e = .returned u ∧ (∃ y, u = tv y ∧ RT w' (.two 4 c.ess v.ess) y) ∧ Below w0.heap.size w0 w' :=
 (Lam21t _ c v x y w0 (fun _ h => h) hx hv).mono fun e w' ⟨u, h1, ⟨y, h2, h3, _⟩, h4⟩ => ⟨u, h1, ⟨y, h2, RE.rt h3⟩, h4⟩
theorem Let22t (A : Nat → Prop) (c v t : CT) (x y z : C8) (w0 : World) (hA : ∀ k, A k → k < w0.heap.size) (hx : RC w0 A c x) (hv : RC w0 A v y) (ht : RC w0 A t z) : Calls Try.prog 16 #[tv x, tv y, tv z] w0 fun e w' => ∃ u, e = .returned u ∧ (∃ y, u = tv y ∧ RE w' (AS A w0.heap.size) (.lt c.ess v.ess t.ess) y ∧ Tn 3 y) ∧ Below w0.heap.size w0 w' := by
 have hB := Below.refl w0.heap.size w0
 have sB := hB.size
 refine calls_fs 13 [(0, tv x), (1, tv y), (2, tv z)] Try.func16 rfl rfl rfl rfl rfl fun a F => ?_
 refine wp_rs fun _ K1 => ?_
 refine s_box (tc x) F (by decide) rfl rfl fun w2 b3 a eb3 m3 B3 zb3 F => ?_
 have sB3 := B3.size
 have hB := bt hB B3
 refine s_box (tc y) F (by decide) rfl rfl fun w4 b4 a eb4 m4 B5 zb4 F => ?_
 have sB5 := B5.size
 have hB := bt hB B5
 have m3 := m3.old B5
 refine s_box (tc z) F (by decide) rfl rfl fun w6 b5 a eb5 m5 B7 zb5 F => ?_
 have sB7 := B7.size
 have hB := bt hB B7
 have m3 := m3.old B7
 have m4 := m4.old B7
 refine s_alloc F (by decide) zero27 fun w8 b6 a eb6 m6 B9 zb6 F => ?_
 have sB9 := B9.size
 have hB := bt hB B9
 have m3 := m3.old B9
 have m4 := m4.old B9
 have m5 := m5.old B9
 refine s_end (K1 _ _ ?_)
 refine dk2_seq (b6) (b6) (ops := regOps Try.f16 1) (N := 7) (by kernel_rfl) wide_orders (by kernel_rfl) fun w10 hw10 B11 hS K2 K2 => ?_
 have zw10 : w10.heap.size = w8.heap.size := by rw [hw10]
 have sB11 := B11.size
 have hB := bt hB B11
 have m3 := m3.old B11
 have m4 := m4.old B11
 have m5 := m5.old B11
 have m6 := m6.old B11
 have m3_d := m3
 have m4_d := m4
 have m5_d := m5
 have m6_d := m6
 have hB_d := hB
 refine F.dv 1 8 (.load 27 (.tmp 3)) hS (fun W hW => x_ldW wide27 (m3_d.k2 hW (by omega)) rfl rfl) fun a F => F.dv 2 9 (.load 27 (.tmp 4)) hS (fun W hW => x_ldW wide27 (m4_d.k2 hW (by omega)) rfl rfl) fun a F => F.dv 3 10 (.load 27 (.tmp 5)) hS (fun W hW => x_ldW wide27 (m5_d.k2 hW (by omega)) rfl rfl) fun a F => ?_
 refine d_two 0 4 (by kernel_rfl) ?_ ?_
 ·
  refine d_op 0 (some 7) (.call (.mk (.value (.func 40)) #[] #[])) (by kernel_rfl) fun ty pos af => ?_
  refine s_callR (R := fun v w' => ∃ br, v = .pointer (some ⟨br, 0, none⟩) ∧ w10.heap.size ≤ br ∧ Blk w' br 102 [.int .i64 2147483647]) [] F E40 rfl (by decide) (newRoom56 w10) ?_
  rintro _ w12 a ⟨br, rfl, hbrw, mbr⟩ B13 F
  have sB13 := B13.size
  have hB := bt hB B13
  have m6 := m6.old B13
  have hS := hS.below B13
  have hR : Room w12 br := ⟨_, mbr, by decide, by decide⟩
  have hbrl := hR.lt
  refine s_end ⟨hS, ?_⟩
  refine d1 4 (some 11) (.buildSlice 25 3 #[(0, (.tmp 8)), (1, (.tmp 9)), (2, (.tmp 10))]) fun ty pos af => ?_
  refine s_litG [tv x, tv y, tv z] el25 F (by decide) rfl (by simp [Value.cells, tc]) rfl (by decide) (by decide) fun w14 bl a ebl ml B15 zbl F => ?_
  have sB15 := B15.size
  have hB := bt hB B15
  have m6 := m6.old B15
  have hS := hS.below B15
  have hR := hR.below B15
  have ml : Blk w14 bl 27 (tc x ++ tc y ++ tc z) := by simpa [Value.cells] using ml
  refine s_end ⟨hS, ?_⟩
  refine d1 5 (some 12) (.call (.mk (.value (.func 44)) #[(.tmp 7), (.const (.int .i64 5)), (.tmp 11)] #[63, 3, 25])) fun ty pos af => ?_
  have hbl1 := ml.lt
  have hrk : RK w14 (fun k => A k ∨ k = bl) (.slice (some ⟨bl, 0, none⟩) 3 3) [c, v, t] := ⟨[x, y, z], ⟨by simpa using Rd.blk ml (n := 3) rfl, fun _ b hb => by simp [Value.ownBlock] at hb; exact .inr hb.symm⟩, rfl, fun i x2 c2 e1 e2 => by rcases i with _ | _ | _ | i; (· simp at e1 e2; subst e1 e2; exact RC.mono (fun k hk => .inl hk) (hx.keep hB.size (fun k hk _ => hB.block k (hA k hk)))); (· simp at e1 e2; subst e1 e2; exact RC.mono (fun k hk => .inl hk) (hv.keep hB.size (fun k hk _ => hB.block k (hA k hk)))); (· simp at e1 e2; subst e1 e2; exact RC.mono (fun k hk => .inl hk) (ht.keep hB.size (fun k hk _ => hB.block k (hA k hk)))); simp at e1⟩
  refine s_call (R := fun u w' => ((∃ v', u = tv ⟨5, 0, emptyB, (0, 0, nilS), nilS, v'⟩ ∧ RKE w' (AS (fun k => A k ∨ k = bl) w14.heap.size) v' (List.map CT.ess [c, v, t])) ∧ Room w' br) ∧ Ktw br br w14 w') F [_, _, _] E44 rfl (by decide) (joined60 w14 br (by omega) (fun k => A k ∨ k = bl) (fun k hk => by rcases hk with hk | hk; (have := hA k hk; omega); omega) 5 [c, v, t] _ hrk (by simp) hR) ?_
  rintro _ w16 a ⟨⟨⟨v9, rfl, hy9⟩, hR⟩, k17⟩ F
  have sk17 := k17.size
  have hB := k17.under hB (by omega)
  have m6 := m6.k2 k17 (by omega)
  have hS := hS.trans k17 (by omega)
  have h1v9 := hy9.one
  have hT9 : Tn 3 ⟨5, 0, emptyB, (0, 0, nilS), nilS, v9⟩ := by obtain ⟨a, cp, he, _⟩ := hy9.form; exact ⟨a, cp, he⟩
  refine s_end ⟨hS, ?_⟩
  refine d1 6 none (.store 27 (.tmp 6) (.tmp 12)) fun ty pos af => ?_
  refine s_putW F rfl rfl (size_wide wide27) m6 rfl (one_tc0 _ _ _ _ h1v9) fun w20 m6 o21 => ?_
  have so21 := o21.size
  have hB := hB.trans (o21.below (by omega))
  have hS := hS.only o21 (by omega)
  have hy9 := hy9.only o21 (by intro h; rcases h with (h | h) | h; (have := hA _ h; omega); omega; omega)
  refine s_end ⟨hS, ?_⟩
  refine d_end (by kernel_rfl) (K2 _ _ ?_)
  refine wp_ret (res_cell F rfl rfl m6 wide27 ⟨_, rfl, ⟨_, rfl, RE_lt (hy9.mono (fun k hk => by rcases hk with (hk | hk) | hk; (· exact .inl hk); (· exact .inr (by omega)); exact .inr (by omega))), hT9⟩, hB⟩)
 ·
  refine d_op 4 (some 11) (.buildSlice 25 3 #[(0, (.tmp 8)), (1, (.tmp 9)), (2, (.tmp 10))]) (by kernel_rfl) fun ty pos af => ?_
  refine s_litG [tv x, tv y, tv z] el25 F (by decide) rfl (by simp [Value.cells, tc]) rfl (by decide) (by decide) fun w22 bl a ebl ml B23 zbl F => ?_
  have sB23 := B23.size
  have hB := bt hB B23
  have m6 := m6.old B23
  have hS := hS.below B23
  have ml : Blk w22 bl 27 (tc x ++ tc y ++ tc z) := by simpa [Value.cells] using ml
  refine s_end ⟨hS, ?_⟩
  refine d1 0 (some 7) (.call (.mk (.value (.func 40)) #[] #[])) fun ty pos af => ?_
  refine s_callR (R := fun v w' => ∃ br, v = .pointer (some ⟨br, 0, none⟩) ∧ w22.heap.size ≤ br ∧ Blk w' br 102 [.int .i64 2147483647]) [] F E40 rfl (by decide) (newRoom56 w22) ?_
  rintro _ w24 a ⟨br, rfl, hbrw, mbr⟩ B25 F
  have sB25 := B25.size
  have hB := bt hB B25
  have m6 := m6.old B25
  have ml := ml.old B25
  have hS := hS.below B25
  have hR : Room w24 br := ⟨_, mbr, by decide, by decide⟩
  have hbrl := hR.lt
  refine s_end ⟨hS, ?_⟩
  refine d1 5 (some 12) (.call (.mk (.value (.func 44)) #[(.tmp 7), (.const (.int .i64 5)), (.tmp 11)] #[63, 3, 25])) fun ty pos af => ?_
  have hbl1 := ml.lt
  have hrk : RK w24 (fun k => A k ∨ k = bl) (.slice (some ⟨bl, 0, none⟩) 3 3) [c, v, t] := ⟨[x, y, z], ⟨by simpa using Rd.blk ml (n := 3) rfl, fun _ b hb => by simp [Value.ownBlock] at hb; exact .inr hb.symm⟩, rfl, fun i x2 c2 e1 e2 => by rcases i with _ | _ | _ | i; (· simp at e1 e2; subst e1 e2; exact RC.mono (fun k hk => .inl hk) (hx.keep hB.size (fun k hk _ => hB.block k (hA k hk)))); (· simp at e1 e2; subst e1 e2; exact RC.mono (fun k hk => .inl hk) (hv.keep hB.size (fun k hk _ => hB.block k (hA k hk)))); (· simp at e1 e2; subst e1 e2; exact RC.mono (fun k hk => .inl hk) (ht.keep hB.size (fun k hk _ => hB.block k (hA k hk)))); simp at e1⟩
  refine s_call (R := fun u w' => ((∃ v', u = tv ⟨5, 0, emptyB, (0, 0, nilS), nilS, v'⟩ ∧ RKE w' (AS (fun k => A k ∨ k = bl) w24.heap.size) v' (List.map CT.ess [c, v, t])) ∧ Room w' br) ∧ Ktw br br w24 w') F [_, _, _] E44 rfl (by decide) (joined60 w24 br (by omega) (fun k => A k ∨ k = bl) (fun k hk => by rcases hk with hk | hk; (have := hA k hk; omega); omega) 5 [c, v, t] _ hrk (by simp) hR) ?_
  rintro _ w26 a ⟨⟨⟨v9, rfl, hy9⟩, hR⟩, k27⟩ F
  have sk27 := k27.size
  have hB := k27.under hB (by omega)
  have m6 := m6.k2 k27 (by omega)
  have hS := hS.trans k27 (by omega)
  have h1v9 := hy9.one
  have hT9 : Tn 3 ⟨5, 0, emptyB, (0, 0, nilS), nilS, v9⟩ := by obtain ⟨a, cp, he, _⟩ := hy9.form; exact ⟨a, cp, he⟩
  refine s_end ⟨hS, ?_⟩
  refine d1 6 none (.store 27 (.tmp 6) (.tmp 12)) fun ty pos af => ?_
  refine s_putW F rfl rfl (size_wide wide27) m6 rfl (one_tc0 _ _ _ _ h1v9) fun w30 m6 o31 => ?_
  have so31 := o31.size
  have hB := hB.trans (o31.below (by omega))
  have hS := hS.only o31 (by omega)
  have hy9 := hy9.only o31 (by intro h; rcases h with (h | h) | h; (have := hA _ h; omega); omega; omega)
  refine s_end ⟨hS, ?_⟩
  refine d_end (by kernel_rfl) (K2 _ _ ?_)
  refine wp_ret (res_cell F rfl rfl m6 wide27 ⟨_, rfl, ⟨_, rfl, RE_lt (hy9.mono (fun k hk => by rcases hk with (hk | hk) | hk; (· exact .inl hk); (· exact .inr (by omega)); exact .inr (by omega))), hT9⟩, hB⟩)
end Go.Proofs.Ytmkjhdiepkpdoaa

namespace Go.Proofs.Ytmkjhdiepkpdoaa
set_option maxRecDepth 100000
set_option maxHeartbeats 1600000
open Go.RowKit Go.Shelf
set_option linter.unusedVariables false
set_option linter.unusedSimpArgs false
def PT.apps (f : PT) (xs : List PT) : PT := xs.foldl (fun t a => .two 6 t a) f
theorem apps_snoc (f : PT) (xs : List PT) (a : PT) : PT.apps f (xs ++ [a]) = .two 6 (PT.apps f xs) a := by simp [PT.apps]
theorem apps_mono (f : PT) (xs : List PT) : ∀ bs : List PT, (PT.apps f (xs ++ bs)).ok → (PT.apps f xs).ok := by
 intro bs
 induction bs generalizing xs with
 | nil => intro h; simpa using h
 | cons b bs ih =>
  intro h
  have h1 := ih (xs ++ [b]) (by simpa using h)
  rw [apps_snoc] at h1
  unfold PT.ok at h1 ⊢
  simp only [PT.size, PT.dep] at h1
  omega
theorem apps_take {f : PT} {xs : List PT} {i : Nat} (h : (PT.apps f xs).ok) : (PT.apps f (xs.take i)).ok := apps_mono f (xs.take i) (xs.drop i) (by rw [List.take_append_drop]; exact h)
def PT.appsR (f : PT) (xs : List PT) : PT := if (PT.apps f xs).ok then PT.apps f xs else .odd 0
theorem CT.mN_ess {a : CT} (h : a.ok) : (a.mN : Int) = a.ess.size ∧ (a.mD : Int) = a.ess.dep := by
 rw [a.ess_size, a.ess_dep, show a.mN = a.size from if_pos h, show a.mD = a.dep from if_pos h]; exact ⟨rfl, rfl⟩
theorem Apps24t (A : Nat → Prop) (c : CT) (x : C8) (cs : List CT) (v : Value) (w0 : World) (hA : ∀ k, A k → k < w0.heap.size) (hxA : RC w0 A c x) (hV : RK w0 A v cs) (hlen : cs.length ≤ 1000000) : Calls Try.prog 18 #[tv x, v] w0 fun e w' => ∃ u, e = .returned u ∧ (∃ y, u = tv y ∧ RE w' (AS A w0.heap.size) (PT.appsR c.ess (cs.map CT.ess)) y) ∧ Below w0.heap.size w0 w' := by
 have hx := hxA.mono hA
 obtain ⟨av, cv, hve, _⟩ := hV.form
 subst hve
 obtain ⟨ps, hps⟩ : ∃ ps, ps = cs.map CT.ess := ⟨_, rfl⟩
 have hpl : ps.length = cs.length := by rw [hps, List.length_map]
 have hB := Below.refl w0.heap.size w0
 have sB := hB.size
 refine calls_fs 54 [(0, tv x), (1, .slice av cs.length cv)] Try.func18 rfl rfl rfl rfl rfl fun a F => ?_
 refine wp_rs fun _ K1 => ?_
 refine s_box (tc x) F (by decide) rfl rfl fun w2 b2 a eb2 m2 B3 zb2 F => ?_
 have sB3 := B3.size
 have hB := bt hB B3
 refine s_alloc F (by decide) zero27 fun w4 b4 a eb4 m4 B5 zb4 F => ?_
 have sB5 := B5.size
 have hB := bt hB B5
 have m2 := m2.old B5
 refine s_end (K1 _ _ ?_)
 refine wp_rs fun _ K2 => F.vl (x_ldW wide27 m2 rfl rfl) fun a F => ?_
 refine s_callB [_] F E46 rfl (by decide) (measure62 c x w4 (hx.bel hB)) fun w6 a B7 F => ?_
 have sB7 := B7.size
 have hB := bt hB B7
 have m2 := m2.old B7
 have m4 := m4.old B7
 refine F.mv rfl fun a F => F.vl (x_ext rfl rfl) fun a F => F.vl (x_ext rfl rfl) fun a F => ?_
 refine s_alloc F (by decide) zero70 fun w8 b5 a eb5 m5 B9 zb5 F => ?_
 have sB9 := B9.size
 have hB := bt hB B9
 have m2 := m2.old B9
 have m4 := m4.old B9
 refine s_putW F rfl rfl (size_wide wide70) m5 rfl (oneII _ _) fun w12 m5 o13 => ?_
 have so13 := o13.size
 have hB := hB.trans (o13.below (by omega))
 have m2 := m2.only o13 (by omega)
 have m4 := m4.only o13 (by omega)
 refine F.sg rfl fun a F => ?_
 refine s_end (K2 _ _ ?_)
 refine wp_seq_k fun _ K3 => ?_
 refine wp_rs fun _ K4 => F.mv rfl fun a F => F.vl (x_len Try.underlying25 rfl) fun a F => F.mv rfl fun a F => ?_
 refine s_end (K4 _ _ ?_)
 refine wp_block ?_
 refine wp_up cs.length (fun i a w => ∃ (fl : Bool) (n d : Int), (fl = true → (PT.apps c.ess (ps.take i)).ok ∧ n = (PT.apps c.ess (ps.take i)).size ∧ d = (PT.apps c.ess (ps.take i)).dep) ∧ (fl = false → ¬ (PT.apps c.ess ps).ok) ∧ Blk w b5 69 [.int .i64 n, .int .i64 d] ∧ Blk w b2 27 (tc x) ∧ Blk w b4 27 z8 ∧ Below w0.heap.size w0 w ∧ Fs 54 a [(1, .slice av cs.length cv), (2, .pointer (some ⟨b2, 0, none⟩)), (4, .pointer (some ⟨b4, 0, none⟩)), (5, .pointer (some ⟨b5, 0, none⟩)), (6, .bool fl), (18, .slice av cs.length cv), (19, .int .i64 (cs.length : Int)), (20, .int .i64 (i : Int))]) ⟨decide c.ok, c.mN, c.mD, (fun h => by have h := of_decide_eq_true h; obtain ⟨e1, e2⟩ := CT.mN_ess h; exact ⟨c.ok_ess.2 h, e1, e2⟩), (fun h h2 => of_decide_eq_false h (c.ok_ess.1 (apps_take (i := 0) h2))), m5, m2, m4, hB, F.sub _ rfl⟩ ?_
 have hne : w0.heap.size ≤ b2 ∧ w0.heap.size ≤ b4 ∧ w0.heap.size ≤ b5 ∧ b2 ≠ b4 ∧ b2 ≠ b5 ∧ b4 ≠ b5 := by omega
 repeat clear F
 clear hB m2 m4 m5
 rintro i a w hi ⟨fl, n, d, hI1, hI2, m5, m2, m4, hB, F⟩ K' hK'
 have sB := hB.size
 have h2l := m2.lt
 have h4l := m4.lt
 have h5l := m5.lt
 refine wp_rs fun _ K5 => F.vl (x_lss (b := decide (i < cs.length)) (decide_eq_decide.2 (by omega)) rfl rfl) fun a F => ?_
 refine s_end (K5 _ _ ?_)
 refine wp_seq_k fun _ K6 => ?_
 refine wp_iff F rfl (fun hc21 => ?_) (fun hc21 => ?_)
 ·
  obtain ⟨b9, off9, c9, y, p, hve, hp, hry, hAb, hbl, hrow⟩ := hV.row (i := i) (by omega)
  cases hve
  have htk : ps.take (i + 1) = ps.take i ++ [p.ess] := take_snoc (by rw [hps, List.getElem?_map, hp]; rfl)
  refine wp_skip (K6 _ _ ?_)
  refine wp_seq_k fun _ K7 => ?_
  refine wp_block ?_
  refine wp_rs fun _ K8 => F.vl (x_ixa rfl rfl (m_ixsK i Try.underlying25 el25.size rfl (by omega))) fun a F => F.vl (x_ldA wide27 (hrow _ (hB.block _ hbl)) rfl rfl) fun a F => ?_
  refine s_alloc F (by decide) zero27 fun w14 b8 a eb8 m8 B15 zb8 F => ?_
  have sB15 := B15.size
  have hB := bt hB B15
  have m2 := m2.old B15
  have m4 := m4.old B15
  have m5 := m5.old B15
  refine s_putW F rfl rfl (size_wide wide27) m8 rfl hry.one fun w18 m8 o19 => ?_
  have so19 := o19.size
  have hB := hB.trans (o19.below (by omega))
  have m2 := m2.only o19 (by omega)
  have m4 := m4.only o19 (by omega)
  have m5 := m5.only o19 (by omega)
  refine s_end (K8 _ _ ?_)
  refine wp_seq_k fun _ K9 => ?_
  refine wp_rs fun _ K10 => F.mv rfl fun a F => F.vl (x_not rfl) fun a F => ?_
  refine s_end (K10 _ _ ?_)
  refine wp_ifb F rfl (fun hc25 => ?_) (fun hc25 => ?_)
  ·
   have hfl : fl = false := by simpa using hc25
   refine wp_exit (K3 _ _ ?_)
   refine wp_seq_k fun _ K11 => ?_
   refine wp_rs fun _ K12 => F.mv rfl fun a F => F.vl (x_not rfl) fun a F => ?_
   refine s_end (K12 _ _ ?_)
   refine wp_ifb F rfl (fun hc34 => ?_) (fun hc34 => ?_)
   ·
    have hfl2 : fl = false := by simpa using hc34
    refine wp_rs fun _ K13 => F.vl (x_build (vs := []) rfl (b27_ _)) fun a F => ?_
    refine s_putW F rfl rfl (size_wide wide27) m4 rfl one8 fun w22 m4 o23 => ?_
    have so23 := o23.size
    have hB := hB.trans (o23.below (by omega))
    refine s_end (K13 _ _ ?_)
    refine wp_ret (then_ret (res_cell F rfl rfl m4 wide27 ⟨_, rfl, ⟨⟨0, 0, emptyB, (0, 0, nilS), nilS, nilS⟩, rfl, by rw [show PT.appsR c.ess (cs.map CT.ess) = .odd 0 from if_neg (by rw [← hps]; exact hI2 hfl2)]; exact RE_bare _ _⟩, hB⟩))
   ·
    simp [hfl] at hc34
  ·
   have hfl : fl = true := by simpa using hc25
   refine wp_skip (K9 _ _ ?_)
   refine wp_region_lit ?_
   refine F.vl (x_ldW wide70 m5 rfl rfl) fun a F => F.vl (x_ldW wide27 m8 rfl rfl) fun a F => ?_
   obtain ⟨hok, hn, hd⟩ := hI1 hfl
   have hk9 := hok.1
   have hk8 := hok.2
   refine s_callB [_, _] F E47 rfl (by decide) (applied63 n d p y w18 ((hry.mono hA).bel hB) (by omega) (by omega)) fun w24 a B25 F => ?_
   have sB25 := B25.size
   have hB := bt hB B25
   have m2 := m2.old B25
   have m4 := m4.old B25
   have m5 := m5.old B25
   refine F.mv rfl fun a F => F.vl (x_ext rfl rfl) fun a F => F.vl (x_ext rfl rfl) fun a F => ?_
   refine s_putW F rfl rfl (size_wide wide70) m5 rfl (oneII _ _) fun w28 m5 o29 => ?_
   have so29 := o29.size
   have hB := hB.trans (o29.below (by omega))
   have m2 := m2.only o29 (by omega)
   have m4 := m4.only o29 (by omega)
   refine F.sg rfl fun a F => ?_
   refine s_end (K7 _ _ ?_)
   refine wp_region_lit ?_
   refine F.vl (x_addn (i + 1) (by omega) (by omega) rfl rfl) fun a F => F.mv rfl fun a F => ?_
   refine s_end (hK' _ _ (by omega) ⟨_, _, _, (fun h => by have h := of_decide_eq_true h; obtain ⟨e1, e2⟩ := CT.mN_ess h.1; rw [htk, apps_snoc]; unfold PT.ok; simp only [PT.size, PT.dep]; omega), (fun h h2 => of_decide_eq_false h (by have h3 := apps_take (i := i + 1) h2; rw [htk, apps_snoc] at h3; unfold PT.ok at h3; simp only [PT.size, PT.dep] at h3; have hpo : p.ok := p.ok_ess.1 ⟨by omega, by omega⟩; obtain ⟨e1, e2⟩ := CT.mN_ess hpo; exact ⟨hpo, by omega, by omega⟩)), m5, m2, m4, hB, F.sub _ rfl⟩)
 ·
  obtain rfl : i = cs.length := by omega
  rw [← hpl, List.take_length] at hI1
  refine wp_exit (K3 _ _ ?_)
  refine wp_seq_k fun _ K14 => ?_
  refine wp_rs fun _ K15 => F.mv rfl fun a F => F.vl (x_not rfl) fun a F => ?_
  refine s_end (K15 _ _ ?_)
  refine wp_ifb F rfl (fun hc34 => ?_) (fun hc34 => ?_)
  ·
   have hfl2 : fl = false := by simpa using hc34
   refine wp_rs fun _ K16 => F.vl (x_build (vs := []) rfl (b27_ _)) fun a F => ?_
   refine s_putW F rfl rfl (size_wide wide27) m4 rfl one8 fun w32 m4 o33 => ?_
   have so33 := o33.size
   have hB := hB.trans (o33.below (by omega))
   refine s_end (K16 _ _ ?_)
   refine wp_ret (then_ret (res_cell F rfl rfl m4 wide27 ⟨_, rfl, ⟨⟨0, 0, emptyB, (0, 0, nilS), nilS, nilS⟩, rfl, by rw [show PT.appsR c.ess (cs.map CT.ess) = .odd 0 from if_neg (by rw [← hps]; exact hI2 hfl2)]; exact RE_bare _ _⟩, hB⟩))
  ·
   have hfl2 : fl = true := by simpa using hc34
   obtain ⟨hokA, hnA, hdA⟩ := hI1 hfl2
   refine wp_skip (K14 _ _ ?_)
   refine wp_rs fun _ K17 => ?_
   refine s_callR (R := fun v w' => ∃ br, v = .pointer (some ⟨br, 0, none⟩) ∧ w.heap.size ≤ br ∧ Blk w' br 102 [.int .i64 2147483647]) [] F E40 rfl (by decide) (newRoom56 w) ?_
   rintro _ w34 a ⟨br, rfl, hbrw, mbr⟩ B35 F
   have sB35 := B35.size
   have hB := bt hB B35
   have m2 := m2.old B35
   have m4 := m4.old B35
   have hR : Room w34 br := ⟨_, mbr, by decide, by decide⟩
   have hbrl := hR.lt
   refine F.sg rfl fun a F => ?_
   refine s_end (K17 _ _ ?_)
   refine wp_rs fun _ K18 => F.mv rfl fun a F => F.vl (x_ldW wide27 m2 rfl rfl) fun a F => ?_
   refine s_call (R := fun u w' => ((∃ y, u = tv y ∧ RE w' (AS A w34.heap.size) (c.ess) y) ∧ Room w' br) ∧ Ktw br br w34 w') F [_, _] E41 rfl (by decide) (owned57 w34 br (by omega) A (fun k hk => by have := hA k hk; exact ⟨by omega, by omega⟩) c x (hxA.keep hB.size (fun k hk _ => hB.block k (hA k hk))) hR) ?_
   rintro _ w36 a ⟨⟨⟨y9, rfl, hy9⟩, hR⟩, k37⟩ F
   have sk37 := k37.size
   have hB := k37.under hB (by omega)
   have m4 := m4.k2 k37 (by omega)
   have hy9 := hy9.valid
   refine s_alloc F (by decide) zero27 fun w38 b10 a eb10 m10 B39 zb10 F => ?_
   have sB39 := B39.size
   have hB := bt hB B39
   have m4 := m4.old B39
   have hR := hR.below B39
   have hy9 := hy9.below B39
   refine s_putW F rfl rfl (size_wide wide27) m10 rfl hy9.one fun w42 m10 o43 => ?_
   have so43 := o43.size
   have hB := hB.trans (o43.below (by omega))
   have m4 := m4.only o43 (by omega)
   have hR := hR.only o43 (by omega)
   have hy9 := hy9.only o43 (by intro h; rcases h.1 with h1 | h1; (have := hA _ h1; omega); omega)
   refine s_end (K18 _ _ ?_)
   refine wp_seq_k fun _ K19 => ?_
   refine wp_rs fun _ K20 => F.mv rfl fun a F => F.vl (x_len Try.underlying25 rfl) fun a F => F.mv rfl fun a F => ?_
   refine s_end (K20 _ _ ?_)
   refine wp_block ?_
   refine wp_up cs.length (fun i a w => ∃ y, REx w (fun k => (k ≠ br ∧ k ≠ b10 ∧ k ≠ b4 ∧ k < w.heap.size) ∧ (A k ∨ w0.heap.size ≤ k)) (PT.apps c.ess (ps.take i)) y ∧ Blk w b10 27 (tc y) ∧ Blk w b4 27 z8 ∧ Room w br ∧ Below w0.heap.size w0 w ∧ Fs 54 a [(4, .pointer (some ⟨b4, 0, none⟩)), (9, .pointer (some ⟨br, 0, none⟩)), (10, .pointer (some ⟨b10, 0, none⟩)), (40, .slice av cs.length cv), (41, .int .i64 (cs.length : Int)), (42, .int .i64 (i : Int))]) ⟨y9, (RE.valid hy9).mono (fun k hk => by rcases hk with ⟨⟨hk, hk2⟩, hk3⟩; rcases hk with hk | hk; (have := hA _ hk; exact ⟨⟨by omega, by omega, by omega, by omega⟩, .inl hk⟩); exact ⟨⟨by omega, by omega, by omega, by omega⟩, .inr (by omega)⟩), m10, m4, hR, hB, F.sub _ rfl⟩ ?_
   have hne : w0.heap.size ≤ br ∧ w0.heap.size ≤ b4 ∧ w0.heap.size ≤ b10 ∧ br ≠ b4 ∧ br ≠ b10 ∧ b4 ≠ b10 := by omega
   repeat clear F
   clear hB m4 m10 hR hy9
   rintro i a w hi ⟨y, hy, m10, m4, hR, hB, F⟩ K' hK'
   have sB := hB.size
   have h4l := m4.lt
   have h10l := m10.lt
   have hbrl := hR.lt
   obtain ⟨top, htop⟩ : ∃ h, h = w.heap.size := ⟨_, rfl⟩
   rw [← htop] at hy
   have h1y := RE.one hy
   refine wp_rs fun _ K21 => F.vl (x_lss (b := decide (i < cs.length)) (decide_eq_decide.2 (by omega)) rfl rfl) fun a F => ?_
   refine s_end (K21 _ _ ?_)
   refine wp_seq_k fun _ K22 => ?_
   refine wp_iff F rfl (fun hc43 => ?_) (fun hc43 => ?_)
   ·
    obtain ⟨b9, off9, c9, y2, p, hve, hp, hry, hAb, hbl, hrow⟩ := hV.row (i := i) (by omega)
    cases hve
    have htk : ps.take (i + 1) = ps.take i ++ [p.ess] := take_snoc (by rw [hps, List.getElem?_map, hp]; rfl)
    refine wp_skip (K22 _ _ ?_)
    refine wp_seq_k fun _ K23 => ?_
    refine wp_block ?_
    refine wp_rs fun _ K24 => F.vl (x_ixa rfl rfl (m_ixsK i Try.underlying25 el25.size rfl (by omega))) fun a F => F.vl (x_ldA wide27 (hrow _ (hB.block _ hbl)) rfl rfl) fun a F => ?_
    refine s_alloc F (by decide) zero27 fun w44 b12 a eb12 m12 B45 zb12 F => ?_
    have sB45 := B45.size
    have hB := bt hB B45
    have m4 := m4.old B45
    have m10 := m10.old B45
    have hy := hy.below B45
    have hR := hR.below B45
    refine s_putW F rfl rfl (size_wide wide27) m12 rfl hry.one fun w48 m12 o49 => ?_
    have so49 := o49.size
    have hB := hB.trans (o49.below (by omega))
    have m4 := m4.only o49 (by omega)
    have m10 := m10.only o49 (by omega)
    have hy := hy.only o49 (fun k (hk : (k ≠ br ∧ k ≠ b10 ∧ k ≠ b4 ∧ k < top) ∧ (A k ∨ w0.heap.size ≤ k)) => by omega)
    have hR := hR.only o49 (by omega)
    refine s_end (K24 _ _ ?_)
    refine dk2_one (br) (b10) (ops := regOps Try.f18 15) (N := 7) (by kernel_rfl) wide_orders (by kernel_rfl) fun w50 hw50 B51 hS K25 hK25 => ?_
    have zw50 : w50.heap.size = w48.heap.size := by rw [hw50]
    have sB51 := B51.size
    have hB := bt hB B51
    have m4 := m4.old B51
    have m10 := m10.old B51
    have hy := hy.below B51
    have m12 := m12.old B51
    have hR := hR.below B51
    have hR_d := hR
    have m4_d := m4
    have m10_d := m10
    have hy_d := hy
    have m12_d := m12
    have hB_d := hB
    refine F.dv 1 47 (.move (.tmp 9)) hS (fun W hW => x_move rfl) fun a F => F.dv 2 48 (.load 27 (.tmp 12)) hS (fun W hW => x_ldW wide27 (m12_d.k2 hW (by omega)) rfl rfl) fun a F => ?_
    refine d_two 0 3 (by kernel_rfl) ?_ ?_
    ·
     refine d_op 0 (some 46) (.load 27 (.tmp 10)) (by kernel_rfl) fun ty pos af => ?_
     refine F.vl (x_ldW wide27 m10 rfl rfl) fun a F => ?_
     refine s_end ⟨hS, ?_⟩
     refine d1 3 (some 49) (.call (.mk (.value (.func 41)) #[(.tmp 47), (.tmp 48)] #[63, 27])) fun ty pos af => ?_
     refine s_call (R := fun u w' => ((∃ z, u = tv z ∧ REx w' (AS A w50.heap.size) p.ess z) ∧ Room w' br) ∧ Ktw br br w50 w') F [_, _] E41 rfl (by decide) (owned57 w50 br (by omega) A (fun k hk => by have := hA k hk; exact ⟨by omega, by omega⟩) p y2 (hry.keep hB.size (fun k hk _ => hB.block k (hA k hk))) hR) ?_
     rintro _ w52 a ⟨⟨⟨z, rfl, hz0⟩, hR⟩, k53⟩ F
     have sk53 := k53.size
     have hB := k53.under hB (by omega)
     have m4 := m4.k2 k53 (by omega)
     have m10 := m10.k2 k53 (by omega)
     have hy := hy.k2 k53 (fun k (hk : (k ≠ br ∧ k ≠ b10 ∧ k ≠ b4 ∧ k < top) ∧ (A k ∨ w0.heap.size ≤ k)) => by omega)
     have hS := hS.trans k53 (by omega)
     have hz : REx w52 (fun k => ((k < w0.heap.size ∧ A k) ∨ w50.heap.size ≤ k) ∧ k < w52.heap.size) p.ess z := (RE.valid hz0).mono (fun k hk => ⟨hk.1.elim (fun h => .inl ⟨hA k h, h⟩) .inr, hk.2⟩)
     clear hz0
     have h1z := RE.one hz
     refine s_end ⟨hS, ?_⟩
     refine d1 4 (some 50) (.buildSlice 25 2 #[(0, (.tmp 46)), (1, (.tmp 49))]) fun ty pos af => ?_
     refine s_litG [tv y, tv z] el25 F (by decide) rfl (by simp [Value.cells, tc]) rfl (by decide) (by decide) fun w54 bl a ebl ml B55 zbl F => ?_
     have sB55 := B55.size
     have hB := bt hB B55
     have m4 := m4.old B55
     have m10 := m10.old B55
     have hy := hy.below B55
     have hz := hz.below B55
     have hS := hS.below B55
     have hR := hR.below B55
     have ml : Blk w54 bl 27 (tc y ++ tc z) := by simpa [Value.cells] using ml
     refine s_end ⟨hS, ?_⟩
     refine F.dv 5 51 (.build 27 #[(0, (.const (.int .i64 6))), (5, (.tmp 50))]) hS (fun W hW => x_build (vs := [(0, _), (5, _)]) rfl (b27_05 _ _ _ _ _)) fun a F => ?_
     refine d1 6 none (.store 27 (.tmp 10) (.tmp 51)) fun ty pos af => ?_
     have hy9 : REx w54 (fun k => (k ≠ br ∧ k ≠ b10 ∧ k ≠ b4 ∧ k < w54.heap.size) ∧ (A k ∨ w0.heap.size ≤ k)) (PT.apps c.ess (ps.take (i + 1))) ⟨6, 0, emptyB, (0, 0, nilS), nilS, .slice (some ⟨bl, 0, none⟩) 2 2⟩ := by
      rw [htk, apps_snoc]
      have hll := ml.lt
      refine RE_two (by decide) ⟨[y, z], ⟨by simpa using Rd.blk ml (n := 2) rfl, fun _ b hb => by simp [Value.ownBlock] at hb; subst hb; exact ⟨⟨by omega, by omega, by omega, by omega⟩, .inr (by omega)⟩⟩, rfl, fun j x3 q e1 e2 => ?_⟩
      rcases j with _ | _ | j
      ·
       simp at e1 e2; subst e1 e2; exact RE.mono (fun k hk => ⟨⟨hk.1.1, hk.1.2.1, hk.1.2.2.1, by have := hk.1.2.2.2; omega⟩, hk.2⟩) hy
      ·
       simp at e1 e2; subst e1 e2; exact RE.mono (fun k hk => by rcases hk with ⟨hk1, hk2⟩; rcases hk1 with hk1 | hk1; (exact ⟨⟨by omega, by omega, by omega, by omega⟩, .inl hk1.2⟩); exact ⟨⟨by omega, by omega, by omega, by omega⟩, .inr (by omega)⟩) hz
      ·
       simp at e1
     refine s_putW F rfl rfl (size_wide wide27) m10 rfl (RE.one hy9) fun w56 m10 o57 => ?_
     have so57 := o57.size
     have hB := hB.trans (o57.below (by omega))
     have m4 := m4.only o57 (by omega)
     have hy9 := hy9.only o57 (fun k (hk : (k ≠ br ∧ k ≠ b10 ∧ k ≠ b4 ∧ k < w54.heap.size) ∧ (A k ∨ w0.heap.size ≤ k)) => by omega)
     have hS := hS.only o57 (by omega)
     have hR := hR.only o57 (by omega)
     refine s_end ⟨hS, ?_⟩
     refine d_end (by kernel_rfl) (hK25 _ _ ?_)
     refine K23 _ _ ?_
     refine wp_region_lit ?_
     refine F.vl (x_addn (i + 1) (by omega) (by omega) rfl rfl) fun a F => F.mv rfl fun a F => ?_
     refine s_end (hK' _ _ (by omega) ⟨_, hy9.mono (fun k hk => ⟨⟨hk.1.1, hk.1.2.1, hk.1.2.2.1, by have := hk.1.2.2.2; omega⟩, hk.2⟩), m10, m4, hR, hB, F.sub _ rfl⟩)
    ·
     refine d_op 3 (some 49) (.call (.mk (.value (.func 41)) #[(.tmp 47), (.tmp 48)] #[63, 27])) (by kernel_rfl) fun ty pos af => ?_
     refine s_call (R := fun u w' => ((∃ z, u = tv z ∧ REx w' (AS A w50.heap.size) p.ess z) ∧ Room w' br) ∧ Ktw br br w50 w') F [_, _] E41 rfl (by decide) (owned57 w50 br (by omega) A (fun k hk => by have := hA k hk; exact ⟨by omega, by omega⟩) p y2 (hry.keep hB.size (fun k hk _ => hB.block k (hA k hk))) hR) ?_
     rintro _ w58 a ⟨⟨⟨z, rfl, hz0⟩, hR⟩, k59⟩ F
     have sk59 := k59.size
     have hB := k59.under hB (by omega)
     have m4 := m4.k2 k59 (by omega)
     have m10 := m10.k2 k59 (by omega)
     have hy := hy.k2 k59 (fun k (hk : (k ≠ br ∧ k ≠ b10 ∧ k ≠ b4 ∧ k < top) ∧ (A k ∨ w0.heap.size ≤ k)) => by omega)
     have hS := hS.trans k59 (by omega)
     have hz : REx w58 (fun k => ((k < w0.heap.size ∧ A k) ∨ w50.heap.size ≤ k) ∧ k < w58.heap.size) p.ess z := (RE.valid hz0).mono (fun k hk => ⟨hk.1.elim (fun h => .inl ⟨hA k h, h⟩) .inr, hk.2⟩)
     clear hz0
     have h1z := RE.one hz
     refine s_end ⟨hS, ?_⟩
     refine d1 0 (some 46) (.load 27 (.tmp 10)) fun ty pos af => ?_
     refine F.vl (x_ldW wide27 m10 rfl rfl) fun a F => ?_
     refine s_end ⟨hS, ?_⟩
     refine d1 4 (some 50) (.buildSlice 25 2 #[(0, (.tmp 46)), (1, (.tmp 49))]) fun ty pos af => ?_
     refine s_litG [tv y, tv z] el25 F (by decide) rfl (by simp [Value.cells, tc]) rfl (by decide) (by decide) fun w60 bl a ebl ml B61 zbl F => ?_
     have sB61 := B61.size
     have hB := bt hB B61
     have m4 := m4.old B61
     have m10 := m10.old B61
     have hy := hy.below B61
     have hz := hz.below B61
     have hS := hS.below B61
     have hR := hR.below B61
     have ml : Blk w60 bl 27 (tc y ++ tc z) := by simpa [Value.cells] using ml
     refine s_end ⟨hS, ?_⟩
     refine F.dv 5 51 (.build 27 #[(0, (.const (.int .i64 6))), (5, (.tmp 50))]) hS (fun W hW => x_build (vs := [(0, _), (5, _)]) rfl (b27_05 _ _ _ _ _)) fun a F => ?_
     refine d1 6 none (.store 27 (.tmp 10) (.tmp 51)) fun ty pos af => ?_
     have hy9 : REx w60 (fun k => (k ≠ br ∧ k ≠ b10 ∧ k ≠ b4 ∧ k < w60.heap.size) ∧ (A k ∨ w0.heap.size ≤ k)) (PT.apps c.ess (ps.take (i + 1))) ⟨6, 0, emptyB, (0, 0, nilS), nilS, .slice (some ⟨bl, 0, none⟩) 2 2⟩ := by
      rw [htk, apps_snoc]
      have hll := ml.lt
      refine RE_two (by decide) ⟨[y, z], ⟨by simpa using Rd.blk ml (n := 2) rfl, fun _ b hb => by simp [Value.ownBlock] at hb; subst hb; exact ⟨⟨by omega, by omega, by omega, by omega⟩, .inr (by omega)⟩⟩, rfl, fun j x3 q e1 e2 => ?_⟩
      rcases j with _ | _ | j
      ·
       simp at e1 e2; subst e1 e2; exact RE.mono (fun k hk => ⟨⟨hk.1.1, hk.1.2.1, hk.1.2.2.1, by have := hk.1.2.2.2; omega⟩, hk.2⟩) hy
      ·
       simp at e1 e2; subst e1 e2; exact RE.mono (fun k hk => by rcases hk with ⟨hk1, hk2⟩; rcases hk1 with hk1 | hk1; (exact ⟨⟨by omega, by omega, by omega, by omega⟩, .inl hk1.2⟩); exact ⟨⟨by omega, by omega, by omega, by omega⟩, .inr (by omega)⟩) hz
      ·
       simp at e1
     refine s_putW F rfl rfl (size_wide wide27) m10 rfl (RE.one hy9) fun w62 m10 o63 => ?_
     have so63 := o63.size
     have hB := hB.trans (o63.below (by omega))
     have m4 := m4.only o63 (by omega)
     have hy9 := hy9.only o63 (fun k (hk : (k ≠ br ∧ k ≠ b10 ∧ k ≠ b4 ∧ k < w60.heap.size) ∧ (A k ∨ w0.heap.size ≤ k)) => by omega)
     have hS := hS.only o63 (by omega)
     have hR := hR.only o63 (by omega)
     refine s_end ⟨hS, ?_⟩
     refine d_end (by kernel_rfl) (hK25 _ _ ?_)
     refine K23 _ _ ?_
     refine wp_region_lit ?_
     refine F.vl (x_addn (i + 1) (by omega) (by omega) rfl rfl) fun a F => F.mv rfl fun a F => ?_
     refine s_end (hK' _ _ (by omega) ⟨_, hy9.mono (fun k hk => ⟨⟨hk.1.1, hk.1.2.1, hk.1.2.2.1, by have := hk.1.2.2.2; omega⟩, hk.2⟩), m10, m4, hR, hB, F.sub _ rfl⟩)
   ·
    obtain rfl : i = cs.length := by omega
    rw [← hpl, List.take_length] at hy
    refine wp_exit (K19 _ _ ?_)
    refine wp_rs fun _ K26 => F.vl (x_ldW wide27 m10 rfl rfl) fun a F => ?_
    refine s_putW F rfl rfl (size_wide wide27) m4 rfl h1y fun w66 m4 o67 => ?_
    have so67 := o67.size
    have hB := hB.trans (o67.below (by omega))
    have hy := hy.only o67 (fun k (hk : (k ≠ br ∧ k ≠ b10 ∧ k ≠ b4 ∧ k < top) ∧ (A k ∨ w0.heap.size ≤ k)) => by omega)
    refine s_end (K26 _ _ ?_)
    refine wp_ret (res_cell F rfl rfl m4 wide27 ⟨_, rfl, ⟨y, rfl, by rw [show PT.appsR c.ess (cs.map CT.ess) = PT.apps c.ess ps from by rw [← hps]; exact if_pos hokA]; exact RE.mono (fun k hk => hk.2) hy⟩, hB⟩)
theorem Apps24 (c : CT) (x : C8) (cs : List CT) (v : Value) (w0 : World) (hx : RC w0 (fun k => k < w0.heap.size) c x) (hV : RK w0 (fun k => k < w0.heap.size) v cs) (hlen : cs.length ≤ 1000000) : Calls Try.prog 18 #[tv x, v] w0 fun e w' => ∃ u, e = .returned u ∧ (∃ y, u = tv y ∧ RT w' (PT.appsR c.ess (cs.map CT.ess)) y) ∧ Below w0.heap.size w0 w' :=
 (Apps24t _ c x cs v w0 (fun _ h => h) hx hV hlen).mono fun e w' ⟨u, h1, ⟨y, h2, h3⟩, h4⟩ => ⟨u, h1, ⟨y, h2, RE.rt h3⟩, h4⟩
end Go.Proofs.Ytmkjhdiepkpdoaa

namespace Go.Proofs.Ytmkjhdiepkpdoaa
set_option maxRecDepth 100000
set_option maxHeartbeats 1600000
open Go.RowKit Go.Shelf
set_option linter.unusedVariables false
set_option linter.unusedSimpArgs false
theorem RE_two_inv {W : World} {A : Nat → Prop} {k : Int} {p q : PT} {x : C8} (h : RE W A (.two k p q) x) : ∃ b off n cap y z, x.ts = .slice (some ⟨b, off, none⟩) n cap ∧ 2 ≤ n ∧ x.k = k ∧ RE W A p y ∧ RE W A q z ∧ A b ∧ b < W.heap.size ∧ (∀ j u, (tc y)[j]? = some u → W.cell? ⟨b, off + j, none⟩ = some u) ∧ (∀ j u, (tc z)[j]? = some u → W.cell? ⟨b, off + 8 + j, none⟩ = some u) := by
 obtain ⟨c, hc, he⟩ := h
 cases c with
 | two k' a b' m =>
  simp only [CT.ess] at he
  cases he
  obtain ⟨h1, h2, ⟨y, z, cs, hR, ha, hb⟩, _⟩ := hc
  obtain ⟨b, off, cap, hv, hbl⟩ := hR.1.some (by omega)
  refine ⟨b, off, _, cap, y, z, hv, by omega, h1, ⟨_, ha, rfl⟩, ⟨_, hb, rfl⟩, hR.2 (by omega) b (by rw [hv]; rfl), hbl, fun j u hj => ?_, fun j u hj => ?_⟩
  ·
   have hj8 := (List.getElem?_eq_some_iff.1 hj).1
   have := (hv ▸ hR.1).cell (j := j) (u := u) (by rw [List.getElem?_append_left (by simpa [tc] using hj8)]; exact hj)
   exact this
  ·
   have hj8 := (List.getElem?_eq_some_iff.1 hj).1
   have := (hv ▸ hR.1).cell (j := 8 + j) (u := u) (by rw [List.getElem?_append_right (by simp [tc]), show 8 + j - (tc y).length = j by simp [tc], List.getElem?_append_left (by simpa [tc] using hj8)]; exact hj)
   rwa [Nat.add_assoc]
 | _ => simp [CT.ess] at he
theorem RE_cst_s {W : World} {A : Nat → Prop} {s : ByteArray} {os : List (Option SL)} {x : C8} (h : RE W A (.cst s os) x) : x.k = 7 ∧ x.s = s := by
 obtain ⟨c, hc, he⟩ := h
 cases c with
 | cst s' ls m => simp only [CT.ess] at he; cases he; exact ⟨hc.1, hc.2.1⟩
 | _ => simp [CT.ess] at he
theorem RE_var_n {W : World} {A : Nat → Prop} {n : Int} {x : C8} (h : RE W A (.var n) x) : x.k = 1 ∧ x.n = n := by
 obtain ⟨c, hc, he⟩ := h
 cases c with
 | var n' m => simp only [CT.ess] at he; cases he; exact ⟨hc.1, hc.2.1⟩
 | _ => simp [CT.ess] at he
abbrev sA : ByteArray := ByteArray.mk #[97]
abbrev sC : ByteArray := ByteArray.mk #[99]
theorem aw_apps : PT.appsR (.var 1) [.var 0] = .two 6 (.var 1) (.var 0) := by
 unfold PT.appsR
 rw [if_pos (by unfold PT.ok; simp [PT.apps, PT.size, PT.dep])]
 rfl
theorem aw_inst : PT.inst (.two 4 (.cst sA []) (.two 6 (.var 1) (.var 0))) (.cst sC []) = .two 4 (.cst sA []) (.two 6 (.cst sC []) (.var 0)) := by
 have e : PT.put (.cst sC []) (.two 4 (.cst sA []) (.two 6 (.var 1) (.var 0))) 0 = .two 4 (.cst sA []) (.two 6 (.cst sC []) (.var 0)) := by simp [PT.put, PT.lift]
 unfold PT.inst
 rw [e, if_pos]
 unfold PT.ok
 simp [PT.size, PT.dep]
theorem x_eqSt {P : Program} {n : Nat} {l : List (Nat × Value)} {w : World} {t t' : TypeId} {x y : Operand} {s : ByteArray} (hx : ov l x = some (.string s)) (hy : ov l y = some (.string s)) : Runs P n l w (.binOp .eql t x y t') (.bool true) := by
 have := x_eqS (P := P) (n := n) (w := w) (t := t) (t' := t') rfl hx hy
 simpa using this
theorem awake15 (w0 : World) : Calls Try.prog 9 #[] w0 fun e w' => e = .returned (.bool true) ∧ Below w0.heap.size w0 w' := by
 have hB := Below.refl w0.heap.size w0
 have sB := hB.size
 refine calls_fs (vs := []) 35 [] Try.func9 rfl rfl rfl rfl rfl fun a F => ?_
 refine wp_rs fun _ K1 => F.sg rfl fun a F => ?_
 refine s_end (K1 _ _ ?_)
 refine wp_rs fun _ K2 => ?_
 refine s_callR (R := fun u w' => ∃ y, u = tv y ∧ RT w' (.cst sA []) y) [_, _] F E12 rfl (by decide) (Const18 sA [] nilS w0 (RVn.nil _ _)) ?_
 rintro _ w2 a ⟨y2, rfl, h2⟩ B3 F
 have sB3 := B3.size
 have hB := bt hB B3
 refine s_callR (R := fun u w' => ∃ y, u = tv y ∧ RC w' (fun _ => False) (.var 1 0) y) [_] F E10 rfl (by decide) (var16 1 w2 (by unfold in64; omega)) ?_
 rintro _ w4 a ⟨y3, rfl, h30⟩ B5 F
 have sB5 := B5.size
 have hB := bt hB B5
 have h2 := h2.below B5
 have h3 : RT w4 (.var 1) y3 := (RC.re h30).rt
 refine s_callR (R := fun u w' => ∃ y, u = tv y ∧ RC w' (fun _ => False) (.var 0 0) y) [_] F E10 rfl (by decide) (var16 0 w4 (by unfold in64; omega)) ?_
 rintro _ w6 a ⟨y4, rfl, h40⟩ B7 F
 have sB7 := B7.size
 have hB := bt hB B7
 have h2 := h2.below B7
 have h3 := h3.below B7
 have h4 : RT w6 (.var 0) y4 := (RC.re h40).rt
 refine s_litG [tv y4] el25 F (by decide) rfl (by simp [Value.cells, tc]) rfl (by decide) (by decide) fun w8 bl a ebl ml B9 zbl F => ?_
 have sB9 := B9.size
 have hB := bt hB B9
 have h2 := h2.below B9
 have h3 := h3.below B9
 have h4 := h4.below B9
 have ml : Blk w8 bl 27 (tc y4) := by simpa [Value.cells] using ml
 obtain ⟨c3, hc3, he3⟩ := h3
 obtain ⟨c4, hc4, he4⟩ := h4
 have hrk : RK w8 (fun k => k < w8.heap.size) (.slice (some ⟨bl, 0, none⟩) 1 1) [c4] := ⟨[y4], ⟨by simpa using Rd.blk ml (n := 1) rfl, fun _ b hb => by simp [Value.ownBlock] at hb; subst hb; exact ml.lt⟩, rfl, fun i x2 c2 e1 e2 => by rcases i with _ | i; (· simp at e1 e2; subst e1 e2; exact hc4); simp at e1⟩
 refine s_callR (R := fun u w' => ∃ y, u = tv y ∧ RT w' (PT.appsR c3.ess ([c4].map CT.ess)) y) [_, _] F E18 rfl (by decide) (Apps24 c3 y3 [c4] _ w8 hc3 hrk (by simp)) ?_
 rintro _ w10 a ⟨y6, rfl, h6⟩ B11 F
 have sB11 := B11.size
 have hB := bt hB B11
 have h2 := h2.below B11
 simp only [List.map_cons, List.map_nil] at h6
 rw [he3, he4, aw_apps] at h6
 obtain ⟨c2, hc2, he2⟩ := h2
 obtain ⟨c6, hc6, he6⟩ := h6
 refine s_callR (R := fun u w' => ∃ y, u = tv y ∧ RT w' (.two 4 c2.ess c6.ess) y) [_, _] F E15 rfl (by decide) (Lam21 c2 c6 y2 y6 w10 hc2 hc6) ?_
 rintro _ w12 a ⟨y7, rfl, h7⟩ B13 F
 have sB13 := B13.size
 have hB := bt hB B13
 rw [he2, he6] at h7
 refine s_callR (R := fun u w' => ∃ y, u = tv y ∧ RT w' (.cst sC []) y) [_, _] F E12 rfl (by decide) (Const18 sC [] nilS w12 (RVn.nil _ _)) ?_
 rintro _ w14 a ⟨y8, rfl, h8⟩ B15 F
 have sB15 := B15.size
 have hB := bt hB B15
 have h7 := h7.below B15
 obtain ⟨c7, hc7, he7⟩ := h7
 obtain ⟨c8, hc8, he8⟩ := h8
 refine s_callR (R := fun u w' => ∃ y, u = tv y ∧ RT w' (PT.inst c7.ess c8.ess) y) [_, _] F E23 rfl (by decide) (Inst42 c7 c8 y7 y8 w14 hc7 hc8) ?_
 rintro _ w16 a ⟨y9, rfl, h9⟩ B17 F
 have sB17 := B17.size
 have hB := bt hB B17
 rw [he7, he8, aw_inst] at h9
 have h9 : REx w16 (fun k => k < w16.heap.size) _ y9 := h9
 refine s_alloc F (by decide) zero27 fun w18 b1 a eb1 m1 B19 zb1 F => ?_
 have sB19 := B19.size
 have hB := bt hB B19
 have h9 := h9.below B19
 refine s_putW F rfl rfl (size_wide wide27) m1 rfl (RE.one h9) fun w22 m1 o23 => ?_
 have so23 := o23.size
 have hB := hB.trans (o23.below (by omega))
 have h9 := h9.only o23 (fun k (hk : k < w16.heap.size) => by omega)
 refine s_end (K2 _ _ ?_)
 obtain ⟨b9, off9, n9, cap9, ya, yb, hts, hn9, hk9, ha, hb9, _, _, _, hcb⟩ := RE_two_inv h9
 obtain ⟨b8, off8, n8, cap8, yc, yd, hts8, hn8, _, hc, hd, _, _, hcc, hcd⟩ := RE_two_inv hb9
 have hsc := (RE_cst_s hc).2
 have hnd := (RE_var_n hd).2
 have e5 := hcb 7 _ rfl
 rw [hts8] at e5
 have e2 := hcc 2 _ rfl
 rw [hsc] at e2
 have e1 := hcd 1 _ rfl
 rw [hnd] at e1
 have hm0 := m1.cell (j := 0) rfl
 have hm5 := m1.cell (j := 7) rfl
 rw [hts] at hm5
 rw [hk9] at hm0
 refine wp_rs fun _ K3 => F.vl (x_fa0 fa27_0 rfl) fun a F => F.vl (x_load rfl (m_load flat3 (hm0))) fun a F => F.vl (x_eql (b := true) rfl rfl rfl) fun a F => F.mv rfl fun a F => s_grd 13 F rfl rfl rfl <| F.vl (x_fa0 fa27_5 rfl) fun a F => s_grd 13 F rfl rfl rfl <| F.vl (x_load rfl (m_load flat25 (hm5))) fun a F => s_grd 13 F rfl rfl rfl <| F.vl (x_ixa rfl rfl (m_ixsK 1 Try.underlying25 el25.size rfl (by omega))) fun a F => s_grd 13 F rfl rfl rfl <| F.vl (x_fa fa27_5 rfl) fun a F => s_grd 13 F rfl rfl rfl <| F.vl (x_load rfl (m_load flat25 (by rw [Nat.one_mul]; exact e5))) fun a F => s_grd 13 F rfl rfl rfl <| F.vl (x_ixa rfl rfl (m_ixsK 0 Try.underlying25 el25.size rfl (by omega))) fun a F => s_grd 13 F rfl rfl rfl <| F.vl (x_fa fa27_2 rfl) fun a F => s_grd 13 F rfl rfl rfl <| F.vl (x_load rfl (m_load flat9 (by rw [Nat.zero_mul]; exact e2))) fun a F => s_grd 13 F rfl rfl rfl <| F.vl (x_eqSt rfl rfl) fun a F => F.vl (x_pick (b := true) rfl rfl) fun a F => F.mv rfl fun a F => s_grd 24 F rfl rfl rfl <| F.vl (x_fa0 fa27_5 rfl) fun a F => s_grd 24 F rfl rfl rfl <| F.vl (x_load rfl (m_load flat25 (hm5))) fun a F => s_grd 24 F rfl rfl rfl <| F.vl (x_ixa rfl rfl (m_ixsK 1 Try.underlying25 el25.size rfl (by omega))) fun a F => ?_
 refine s_grd 24 F rfl rfl rfl <| F.vl (x_fa fa27_5 rfl) fun a F => s_grd 24 F rfl rfl rfl <| F.vl (x_load rfl (m_load flat25 (by rw [Nat.one_mul]; exact e5))) fun a F => s_grd 24 F rfl rfl rfl <| F.vl (x_ixa rfl rfl (m_ixsK 1 Try.underlying25 el25.size rfl (by omega))) fun a F => s_grd 24 F rfl rfl rfl <| F.vl (x_fa fa27_1 rfl) fun a F => s_grd 24 F rfl rfl rfl <| F.vl (x_load rfl (m_load flat3 (by rw [Nat.one_mul]; exact e1))) fun a F => s_grd 24 F rfl rfl rfl <| F.vl (x_eql (b := true) rfl rfl rfl) fun a F => F.vl (x_pick (b := true) rfl rfl) fun a F => F.sg rfl fun a F => ?_
 refine s_end (K3 _ _ ?_)
 refine wp_ret (res_slot F rfl rfl ⟨rfl, hB⟩)
end Go.Proofs.Ytmkjhdiepkpdoaa

namespace Go.Proofs.Ytmkjhdiepkpdoaa
open Go.RowKit Go.Shelf
set_option linter.unusedVariables false
set_option linter.unusedSimpArgs false
def letC (c : UInt8) : Prop := 97 ≤ c.toNat ∧ c.toNat ≤ 122
def othC (c : UInt8) : Prop := (48 ≤ c.toNat ∧ c.toNat ≤ 57) ∨ c.toNat = 95 ∨ c.toNat = 46
def okAt (l : List UInt8) (i : Nat) : Prop := ∀ c, l[i]? = some c → letC c ∨ (i ≠ 0 ∧ othC c)
def nameP (l : List UInt8) : Prop := (∀ i, okAt l i) ∧ 1 ≤ l.length ∧ l.length ≤ 32
noncomputable def nameB (s : ByteArray) : Bool := @decide (nameP s.data.toList) (Classical.propDecidable _)
/-- No name and no list of levels is longer than may be. -/
def CT.fit : CT → Prop
 | .cst s ls _ => s.size ≤ 9223372036854775807 ∧ ls.length ≤ 9223372036854775807
 | .two _ a b _ => a.fit ∧ b.fit
 | .lt a b c _ => a.fit ∧ b.fit ∧ c.fit
 | _ => True
def fstErr (vars : Int) : List Lv → Int
 | [] => 0
 | l :: ls => if (chk 32 1048576 vars 1 100 l).1 ≠ 0 then (chk 32 1048576 vars 1 100 l).1 else fstErr vars ls
noncomputable def leafErr (vars : Int) : CT → Int
 | .var n _ => if n < 0 ∨ 1048576 < n then 1 else 0
 | .sort l _ => (chk 32 1048576 vars 1 100 l).1
 | .cst s ls _ => if nameB s = false then 8 else if 6 < ls.length then 2 else fstErr vars ls
 | _ => 0
noncomputable def nodeErr (vars d : Int) (n : Nat) (c : CT) : Int := if 64 < d ∨ 400 < n then 2 else if arT c.kd < 0 ∨ (c.len : Int) ≠ arT c.kd then 1 else leafErr vars c
noncomputable def CT.mayT (vars : Int) : CT → Int → Nat → Int × Nat
 | .two k a b m, d, n => if nodeErr vars d (n + 1) (.two k a b m) ≠ 0 then (nodeErr vars d (n + 1) (.two k a b m), n + 1) else
  if (a.mayT vars (d + 1) (n + 1)).1 ≠ 0 then a.mayT vars (d + 1) (n + 1) else b.mayT vars (d + 1) (a.mayT vars (d + 1) (n + 1)).2
 | .lt a b c m, d, n => if nodeErr vars d (n + 1) (.lt a b c m) ≠ 0 then (nodeErr vars d (n + 1) (.lt a b c m), n + 1) else
  if (a.mayT vars (d + 1) (n + 1)).1 ≠ 0 then a.mayT vars (d + 1) (n + 1) else
  if (b.mayT vars (d + 1) (a.mayT vars (d + 1) (n + 1)).2).1 ≠ 0 then b.mayT vars (d + 1) (a.mayT vars (d + 1) (n + 1)).2 else c.mayT vars (d + 1) (b.mayT vars (d + 1) (a.mayT vars (d + 1) (n + 1)).2).2
 | .var z m, d, n => (nodeErr vars d (n + 1) (.var z m), n + 1)
 | .sort l m, d, n => (nodeErr vars d (n + 1) (.sort l m), n + 1)
 | .cst s ls m, d, n => (nodeErr vars d (n + 1) (.cst s ls m), n + 1)
 | .odd k m, d, n => (nodeErr vars d (n + 1) (.odd k m), n + 1)
noncomputable def mayK (vars : Int) : List CT → Int → Nat → Int × Nat
 | [], _, n => (0, n)
 | k :: ks, d, n => if (k.mayT vars d n).1 ≠ 0 then k.mayT vars d n else mayK vars ks d (k.mayT vars d n).2
/-- What passes. -/
def CT.okV (vars : Int) : CT → Prop
 | .var n _ => 0 ≤ n ∧ n ≤ 1048576
 | .sort l _ => (chk 32 1048576 vars 1 100 l).1 = 0
 | .cst _ ls _ => ls.length ≤ 6 ∧ ∀ l ∈ ls, (chk 32 1048576 vars 1 100 l).1 = 0
 | .odd .. => False
 | .two _ a b _ => a.okV vars ∧ b.okV vars
 | .lt a b c _ => a.okV vars ∧ b.okV vars ∧ c.okV vars
end Go.Proofs.Ytmkjhdiepkpdoaa

namespace Go.Proofs.Ytmkjhdiepkpdoaa
open Go.RowKit Go.Shelf
set_option linter.unusedVariables false
set_option linter.unusedSimpArgs false
end Go.Proofs.Ytmkjhdiepkpdoaa

namespace Go.Proofs.Ytmkjhdiepkpdoaa
open Go.RowKit Go.Shelf
set_option linter.unusedVariables false
set_option linter.unusedSimpArgs false
/-- What whole lets pass. -/
def CT.wf (c : CT) : Prop := c.okV 6 ∧ c.size ≤ 400 ∧ c.dep ≤ 64
theorem CT.wf.ok {c : CT} (h : c.wf) : c.ok := ⟨by have := h.2.1; omega, by have := h.2.2; omega⟩
def PT.loose : PT → Int → Int
 | .var n, d => if d ≤ n then min (n - d + 1) 9223372036854775807 else 0
 | .two k p q, d => max (p.loose d) (q.loose (d + if k = 3 ∨ k = 4 then 1 else 0))
 | .lt p q r, d => max (p.loose d) (max (q.loose d) (r.loose (d + 1)))
 | .sort _, _ => 0
 | .cst _ _, _ => 0
 | .odd _, _ => 0
def mostL (ps : List Int) : Int := if ps.length = 0 then 0 else mxl ps
def Glo (c : CT) (d : Int) (ps : List Int) : Int := match c with
 | .var n _ => if d ≤ n then min (n - d + 1) 9223372036854775807 else 0
 | _ => mostL ps
def CT.looseR (c : CT) : Int := if c.ok then c.ess.loose 0 else 0
end Go.Proofs.Ytmkjhdiepkpdoaa

namespace Go.Proofs.Ytmkjhdiepkpdoaa
set_option maxRecDepth 100000
set_option maxHeartbeats 1600000
open Go.RowKit Go.Shelf
set_option linter.unusedVariables false
set_option linter.unusedSimpArgs false
def szs (ks : List CT) : Nat := (ks.map CT.size).sum
theorem szs_at {ks : List CT} {k : CT} {i : Nat} (h : ks[i]? = some k) : szs (ks.take (i + 1)) = szs (ks.take i) + k.size ∧ szs (ks.take (i + 1)) ≤ szs ks := by
 have e := split_at h
 have e2 : ks.take (i + 1) = ks.take i ++ [k] := by rw [List.take_add_one, h]; rfl
 refine ⟨by rw [e2]; simp [szs], ?_⟩
 rw [e2]
 conv => rhs; rw [e]
 simp [szs]
theorem CT.size_szs (c : CT) : c.size = szs c.kids + 1 := by cases c <;> simp [CT.size, CT.kids, szs] <;> omega
theorem CT.dep_top (c : CT) (M : Int) (hM : 0 ≤ M) (h : ∀ k ∈ c.kids, (k.dep : Int) ≤ M) : (c.dep : Int) ≤ M + 1 := by
 cases c with
 | two k a b m =>
  have h1 := h a (by simp [CT.kids])
  have h2 := h b (by simp [CT.kids])
  simp only [CT.dep]
  omega
 | lt a b c m =>
  have h1 := h a (by simp [CT.kids])
  have h2 := h b (by simp [CT.kids])
  have h3 := h c (by simp [CT.kids])
  simp only [CT.dep]
  omega
 | _ => simp only [CT.dep]; omega
/-- What count tells: that it goes, and how many there are then; that it doesn't. -/
def cntR (c : CT) (d : Int) (n : Nat) (b : Bool) (m : Nat) : Prop := m ≤ 20001 ∧ (b = true → m = n + c.size ∧ d + c.dep ≤ 2001 ∧ (m ≤ 20000 ∨ c.size = 1)) ∧ (b = false → ¬ (n + c.size ≤ 20000 ∧ d + c.dep ≤ 2001))
theorem count55 (w0 : World) (g : Nat) (hg : w0.heap.size ≤ g) : ∀ (N : Nat) (c : CT) (x : C8), c.size < N → RC w0 (fun k => k < w0.heap.size) c x → ∀ (d : Int) (n : Nat) (w1 : World), 0 ≤ d → d ≤ 2001 → n ≤ 20000 → Below w0.heap.size w0 w1 → Blk w1 g 3 [.int .i64 (n : Int)] →
    Calls Try.prog 39 #[tv x, .int .i64 d, .pointer (some ⟨g, 0, none⟩)] w1 fun e w' => ∃ u, e = .returned u ∧ (∃ b m, u = .bool b ∧ Blk w' g 3 [.int .i64 ((m : Nat) : Int)] ∧ cntR c d n b m) ∧ Ktw g g w1 w' := by
  intro N
  induction N with
  | zero => intro s x h; omega
  | succ N ih =>
  intro c x hN hx d n w1 hd0 hd1 hn hB mg
  have hK := Ktw.refl g g w1
  have sB := hB.size
  have sK := hK.size
  have hgl := mg.lt
  have hrg := arT_rng c.kd
  have hss := c.size_szs
  have hdp := c.dep_pos
  have hk9 := CT.kids_arT hx
  have h3 := c.kids_le
  have hleaf := leaf70 c x _ w0 w1 hx
  obtain ⟨av, nv, cv, hts, hle9, hlen9, hcap, hkid⟩ := hx.kids
  obtain ⟨xk, xn, xs, xl, xls, xts⟩ := x
  simp only at hts
  subst hts
  have hkd : xk = c.kd := hx.kd
  have hone := hx.one
  refine calls_fs 46 [(0, tv ⟨xk, xn, xs, xl, xls, .slice av nv cv⟩), (1, .int .i64 d), (2, .pointer (some ⟨g, 0, none⟩))] Try.func39 rfl rfl rfl rfl rfl fun a F => ?_
  refine wp_rs fun _ K1 => ?_
  refine s_box ([.int .i64 xk, .int .i64 xn, .string xs, .int .i64 xl.1, .int .i64 xl.2.1, xl.2.2, xls, .slice av nv cv]) F (by decide) rfl rfl fun w2 b3 a eb3 m3 B3 zb3 F => ?_
  have sB3 := B3.size
  have hB := bt hB B3
  have hK := hK.below B3
  have mg := mg.old B3
  refine F.sg rfl fun a F => ?_
  refine s_end (K1 _ _ ?_)
  refine wp_rs fun _ K2 => F.mv rfl fun a F => F.vl (x_nil rfl) fun a F => F.ld mg flat3 rfl rfl fun a F => F.vl (x_addn (n + 1) (by omega) (by omega) rfl rfl) fun a F => F.vl (x_nil rfl) fun a F => ?_
  refine s_put F rfl rfl flat3 mg (by first | (simp; done) | (simp [tc, lc]; done) | decide) rfl fun w4 mg o5 => ?_
  have so5 := o5.size
  have hB := hB.trans (o5.below (by omega))
  have hK := hK.only o5 (by omega)
  have m3 := m3.only o5 (by omega)
  refine s_end (K2 _ _ ?_)
  refine wp_seq_k fun _ K3 => ?_
  rcases (show 2000 < d ∨ ¬ 2000 < d by omega) with hz | hz
  · skip
    refine wp_rs fun _ K5 => F.mv rfl fun a F => F.vl (gtrT (by omega) rfl rfl) fun a F => ?_
    refine s_end (K5 _ _ ?_)
    refine wp_if F rfl ?_
    refine wp_rs fun _ K6 => F.sg rfl fun a F => ?_
    refine s_end (K6 _ _ ?_)
    refine wp_ret (then_ret (res_slot F rfl rfl ⟨_, rfl, ⟨false, n + 1, rfl, mg, ⟨by omega, (fun h => absurd h (by decide)), fun _ h => by omega⟩⟩, hK⟩))
  · skip
    refine wp_rs fun _ K7 => F.mv rfl fun a F => F.vl (gtrF (by omega) rfl rfl) fun a F => ?_
    refine s_end (K7 _ _ ?_)
    refine wp_if F rfl ?_
    refine wp_skip (K3 _ _ ?_)
    refine wp_seq_k fun _ K8 => ?_
    rcases (show ((arT c.kd < 0 ∨ (c.len : Int) < arT c.kd) ∧ c.kids.length = 0) ∨ (¬ (arT c.kd < 0 ∨ (c.len : Int) < arT c.kd) ∧ (c.kids.length : Int) = arT c.kd) by omega) with hy | hy
    · skip
      refine wp_rs fun _ K10 => F.vl (x_ldW wide27 m3 rfl rfl) fun a F => ?_
      refine s_callB [_] F E54 rfl (by decide) ((leaf70 c ⟨xk, xn, xs, xl, xls, .slice av nv cv⟩ _ w0 w4 hx).mono fun e w' h => ⟨by rw [h.1, decide_eq_true hy.1], h.2⟩) fun w6 a B7 F => ?_
      have sB7 := B7.size
      have hK := hK.below B7
      have mg := mg.old B7
      refine s_end (K10 _ _ ?_)
      refine wp_if F rfl ?_
      refine wp_rs fun _ K11 => F.sg rfl fun a F => ?_
      refine s_end (K11 _ _ ?_)
      have hk0 : c.kids = [] := List.eq_nil_of_length_eq_zero hy.2
      have hd9 := c.dep_top 0 (by omega) (by rw [hk0]; simp)
      rw [hk0] at hss
      have hs1 : c.size = 1 := by simpa [szs] using hss
      refine wp_ret (then_ret (res_slot F rfl rfl ⟨_, rfl, ⟨true, n + 1, rfl, mg, ⟨by omega, fun _ => ⟨by omega, by omega, .inr hs1⟩, fun h => absurd h (by decide)⟩⟩, hK⟩))
    · skip
      refine wp_rs fun _ K12 => F.vl (x_ldW wide27 m3 rfl rfl) fun a F => ?_
      refine s_callB [_] F E54 rfl (by decide) ((leaf70 c ⟨xk, xn, xs, xl, xls, .slice av nv cv⟩ _ w0 w4 hx).mono fun e w' h => ⟨by rw [h.1, decide_eq_false hy.1], h.2⟩) fun w8 a B9 F => ?_
      have sB9 := B9.size
      have hB := bt hB B9
      have hK := hK.below B9
      have mg := mg.old B9
      have m3 := m3.old B9
      refine s_end (K12 _ _ ?_)
      refine wp_if F rfl ?_
      refine wp_skip (K8 _ _ ?_)
      refine wp_seq_k fun _ K13 => ?_
      refine dk2_seq (w8.heap.size) (w8.heap.size) (ops := regOps Try.f39 6) (N := 8) (by kernel_rfl) wide_orders (by kernel_rfl) fun w10 hw10 B11 hS K14 hK14 => ?_
      have zw10 : w10.heap.size = w8.heap.size := by rw [hw10]
      have sB11 := B11.size
      have hB := bt hB B11
      have hK := hK.below B11
      have mg := mg.old B11
      have m3 := m3.old B11
      have mg_d := mg
      have m3_d := m3
      have hB_d := hB
      have hK_d := hK
      refine F.dv 0 18 (.fieldAddr 27 (.tmp 3) 5) hS (fun W hW => x_fa0 fa27_5 rfl) fun a F => F.dv 1 19 (.load 25 (.tmp 18)) hS (fun W hW => x_load rfl (m_load flat25 ((m3_d.k2 hW (by omega)).cell (j := 7) rfl))) fun a F => F.dv 2 20 (.fieldAddr 27 (.tmp 3) 0) hS (fun W hW => x_fa0 fa27_0 rfl) fun a F => F.dv 3 21 (.load 3 (.tmp 20)) hS (fun W hW => x_load rfl (m_load flat3 ((m3_d.k2 hW (by omega)).cell (j := 0) rfl))) fun a F => F.dv 7 25 (.move (.const (.int .i64 0))) hS (fun W hW => x_move rfl) fun a F => ?_
      refine d1 4 (some 22) (.call (.mk (.value (.func 82)) #[(.tmp 21)] #[3])) fun ty pos af => ?_
      refine s_callS [_] F E82 rfl (by decide) ((kids54 xk w10).mono fun e w' h => ⟨(by rw [h.1, hkd, ← hy.2] : e = .returned (.int .i64 (c.kids.length : Int))), h.2⟩) fun a F => ?_
      refine s_end ⟨hS, ?_⟩
      refine F.dv 5 23 (.slice 25 (.tmp 19) none (some (.tmp 22)) none) hS (fun W hW => x_slice (vlo := none) (vhi := some _) (vmx := none) rfl rfl rfl rfl (m_sliceUK c.kids.length Try.underlying25 el25.size (by omega) (by omega))) fun a F => F.dv 6 24 (.call (.mk (.builtin .len) #[(.tmp 23)] #[25])) hS (fun W hW => x_len Try.underlying25 rfl) fun a F => ?_
      refine d_end (by kernel_rfl) (hK14 _ _ ?_)
      refine wp_block ?_
      refine wp_up c.kids.length (fun i a w => ∃ n2 : Nat, n2 = n + 1 + szs (c.kids.take i) ∧ (∀ k ∈ c.kids.take i, d + 1 + (k.dep : Int) ≤ 2001) ∧ n2 ≤ 20001 ∧ Blk w g 3 [.int .i64 (n2 : Int)] ∧ Below w0.heap.size w0 w ∧ Ktw g g w1 w ∧ Fs 46 a [(1, .int .i64 d), (2, .pointer (some ⟨g, 0, none⟩)), (23, .slice av c.kids.length cv), (24, .int .i64 (c.kids.length : Int)), (25, .int .i64 (i : Int))]) ⟨n + 1, by simp [szs], (fun k h => by simp at h), by omega, mg, hB, hK, F.sub _ rfl⟩ ?_
      repeat clear F
      clear hB hK mg
      rintro i a w hi ⟨n2, hn2, hdk, hn3, mg, hB, hK, F⟩ K' hK'
      have sB := hB.size
      have sK := hK.size
      have hgl := mg.lt
      refine wp_rs fun _ K15 => F.vl (x_lss (b := decide (i < c.kids.length)) (decide_eq_decide.2 (by omega)) rfl rfl) fun a F => ?_
      refine s_end (K15 _ _ ?_)
      refine wp_seq_k fun _ K16 => ?_
      refine wp_iff F rfl (fun hc26 => ?_) (fun hc26 => ?_)
      · obtain ⟨b9, off9, c9, y, kd, hve, hyk, hry, hAb, hbl, hrow⟩ := hkid.row (i := i) (by omega)
        cases hve
        have hks := CT.kid_size hyk
        have hsz := szs_at hyk
        have hdp2 := kd.dep_pos
        have hsp := kd.size_pos
        refine wp_skip (K16 _ _ ?_)
        refine wp_seq_k fun _ K17 => ?_
        refine wp_block ?_
        refine wp_rs fun _ K18 => F.vl (x_ixa rfl rfl (m_ixsK i Try.underlying25 el25.size rfl (by omega))) fun a F => F.vl (x_ldA wide27 (hrow _ (hB.block _ hbl)) rfl rfl) fun a F => ?_
        refine s_alloc F (by decide) zero27 fun w12 b8 a eb8 m8 B13 zb8 F => ?_
        have sB13 := B13.size
        have hB := bt hB B13
        have hK := hK.below B13
        have mg := mg.old B13
        refine s_putW F rfl rfl (size_wide wide27) m8 rfl hry.one fun w16 m8 o17 => ?_
        have so17 := o17.size
        have hB := hB.trans (o17.below (by omega))
        have hK := hK.only o17 (by omega)
        have mg := mg.only o17 (by omega)
        refine s_end (K18 _ _ ?_)
        rcases (show 20000 < (n2 : Int) ∨ ¬ 20000 < (n2 : Int) by omega) with hw | hw
        · skip
          refine wp_rs fun _ K20 => F.mv rfl fun a F => F.vl (x_nil rfl) fun a F => F.ld mg flat3 rfl rfl fun a F => F.vl (gtrT (by omega) rfl rfl) fun a F => F.mv rfl fun a F => s_grdn 33 F rfl rfl (by decide) fun a F => s_grdn 33 F rfl rfl (by decide) fun a F => s_grdn 33 F rfl rfl (by decide) fun a F => s_grdn 33 F rfl rfl (by decide) fun a F => s_grdn 33 F rfl rfl (by decide) fun a F => s_grdn 33 F rfl rfl (by decide) fun a F => F.vl (x_pick (b := true) rfl rfl) fun a F => ?_
          refine s_end (K20 _ _ ?_)
          refine wp_if F rfl ?_
          refine wp_rs fun _ K21 => F.sg rfl fun a F => ?_
          refine s_end (K21 _ _ ?_)
          refine wp_ret (inb_ret (then_ret (then_ret (inb_ret (then_ret (res_slot F rfl rfl ⟨_, rfl, ⟨false, n2, rfl, mg, ⟨hn3, (fun h => absurd h (by decide)), fun _ h => by omega⟩⟩, hK⟩))))))
        · skip
          refine wp_rs fun _ K22 => F.mv rfl fun a F => F.vl (x_nil rfl) fun a F => F.ld mg flat3 rfl rfl fun a F => F.vl (gtrF (by omega) rfl rfl) fun a F => F.mv rfl fun a F => s_grd 33 F rfl rfl rfl <| F.vl (x_ldW wide27 m8 rfl rfl) fun a F => s_grd 33 F rfl rfl rfl <| F.mv rfl fun a F => s_grd 33 F rfl rfl rfl <| F.vl (x_add (by omega) (by omega) rfl rfl) fun a F => s_grd 33 F rfl rfl rfl <| F.mv rfl fun a F => s_grd 33 F rfl rfl rfl ?_
          refine s_call (R := fun u w' => (∃ b m, u = .bool b ∧ Blk w' g 3 [.int .i64 ((m : Nat) : Int)] ∧ cntR kd (d + 1) n2 b m) ∧ Ktw g g w16 w') F [_, _, _] E39 rfl (by decide) (ih kd y (by omega) hry (d + 1) n2 w16 (by omega) (by omega) (by omega) hB mg) ?_
          rintro _ w18 a ⟨⟨b38, q8, rfl, mg, hc8⟩, k19⟩ F
          have sk19 := k19.size
          have hB := k19.under hB (by omega)
          have hK := hK.trans k19 (by omega)
          refine s_grd 33 F rfl rfl rfl <| F.vl (x_not rfl) fun a F => F.vl (x_pick (b := false) rfl rfl) fun a F => ?_
          refine s_end (K22 _ _ ?_)
          refine wp_ifb F rfl (fun hc40 => ?_) (fun hc40 => ?_)
          · obtain rfl : b38 = false := by simpa using hc40
            refine wp_rs fun _ K23 => F.sg rfl fun a F => ?_
            refine s_end (K23 _ _ ?_)
            refine wp_ret (inb_ret (then_ret (then_ret (inb_ret (then_ret (res_slot F rfl rfl ⟨_, rfl, ⟨false, q8, rfl, mg, ⟨hc8.1, (fun h => absurd h (by decide)), fun _ h => hc8.2.2 rfl (by omega)⟩⟩, hK⟩))))))
          · obtain rfl : b38 = true := by simpa using hc40
            have hc9 := hc8.2.1 rfl
            have htk := take_snoc hyk
            refine wp_skip (K17 _ _ ?_)
            refine wp_region_lit ?_
            refine F.vl (x_addn (i + 1) (by omega) (by omega) rfl rfl) fun a F => F.mv rfl fun a F => ?_
            refine s_end (hK' _ _ (by omega) ⟨q8, by omega, (fun k hk => by rw [htk] at hk; rcases List.mem_append.1 hk with hk | hk; (· exact hdk k hk); (· rw [List.mem_singleton.1 hk]; omega)), hc8.1, mg, hB, hK, F.sub _ rfl⟩)
      · obtain rfl : i = c.kids.length := by omega
        rw [List.take_length] at hn2 hdk
        have hd9 := c.dep_top (2000 - d) (by omega) (fun k hk => by have := hdk k hk; omega)
        refine wp_exit (K13 _ _ ?_)
        refine wp_rs fun _ K24 => F.mv rfl fun a F => F.vl (x_nil rfl) fun a F => F.ld mg flat3 rfl rfl fun a F => F.vl (x_leq rfl rfl rfl) fun a F => F.sg rfl fun a F => ?_
        refine s_end (K24 _ _ ?_)
        refine wp_ret (res_slot F rfl rfl ⟨_, rfl, ⟨_, n2, rfl, mg, ⟨hn3, (fun h => ⟨by omega, by omega, .inl (by have := of_decide_eq_true h; omega)⟩), fun h h2 => by have := of_decide_eq_false h; omega⟩⟩, hK⟩)
theorem TooGreat14 (c : CT) (x : C8) (w0 : World) (hx : RC w0 (fun k => k < w0.heap.size) c x) : Calls Try.prog 8 #[tv x] w0 fun e w' => e = .returned (.bool (decide (¬ c.ok))) ∧ Below w0.heap.size w0 w' := by
 have hB := Below.refl w0.heap.size w0
 have sB := hB.size
 refine calls_fs 7 [(0, tv x)] Try.func8 rfl rfl rfl rfl rfl fun a F => ?_
 refine wp_rs fun _ K1 => ?_
 refine s_box (tc x) F (by decide) rfl rfl fun w2 b1 a eb1 m1 B3 zb1 F => ?_
 have sB3 := B3.size
 have hB := bt hB B3
 refine F.sg rfl fun a F => ?_
 refine s_end (K1 _ _ ?_)
 refine wp_rs fun _ K2 => ?_
 refine s_alloc1 F (by decide) zero3 rfl fun w4 b3 a eb3 m3 B5 zb3 F => ?_
 have sB5 := B5.size
 have hB := bt hB B5
 have m1 := m1.old B5
 refine s_put F rfl rfl flat3 m3 (by first | (simp; done) | (simp [tc, lc]; done) | decide) rfl fun w6 m3 o7 => ?_
 have so7 := o7.size
 have hB := hB.trans (o7.below (by omega))
 have m1 := m1.only o7 (by omega)
 refine s_end (K2 _ _ ?_)
 refine wp_rs fun _ K3 => F.vl (x_ldW wide27 m1 rfl rfl) fun a F => ?_
 refine s_call (R := fun u w' => (∃ b m, u = .bool b ∧ Blk w' b3 3 [.int .i64 ((m : Nat) : Int)] ∧ cntR c 1 0 b m) ∧ Ktw b3 b3 w6 w') F [_, _, _] E39 rfl (by decide) (count55 w0 b3 (by omega) (c.size + 1) c x (by omega) hx 1 0 w6 (by decide) (by decide) (by decide) hB m3) ?_
 rintro _ w8 a ⟨⟨b8, m8, rfl, m3, hc8⟩, k9⟩ F
 have sk9 := k9.size
 have hB := k9.under hB (by omega)
 have hbo : b8 = decide c.ok := by
  have hsp := c.size_pos
  cases b8
  ·
   exact (decide_eq_false fun h => hc8.2.2 rfl ⟨by have := h.1; omega, by have := h.2; omega⟩).symm
  ·
   have h := hc8.2.1 rfl
   exact (decide_eq_true (show c.ok from ⟨by omega, by omega⟩)).symm
 refine F.vl (x_not rfl) fun a F => F.sg rfl fun a F => ?_
 refine s_end (K3 _ _ ?_)
 refine wp_ret (res_slot F rfl rfl ⟨by rw [hbo]; simp, hB⟩)
end Go.Proofs.Ytmkjhdiepkpdoaa

namespace Go.Proofs.Ytmkjhdiepkpdoaa
set_option maxRecDepth 100000
set_option maxHeartbeats 1600000
open Go.RowKit Go.Shelf
set_option linter.unusedVariables false
set_option linter.unusedSimpArgs false
def dps (ks : List CT) : Nat := ks.foldl (fun m k => max m k.dep) 0
theorem Size26 (c : CT) (x : C8) (w0 : World) (hx : RC w0 (fun k => k < w0.heap.size) c x) : Calls Try.prog 20 #[tv x] w0 fun e w' => e = .returned (.int .i64 (c.mN : Int)) ∧ Below w0.heap.size w0 w' := by
 have hB := Below.refl w0.heap.size w0
 have sB := hB.size
 refine calls_fs 8 [(0, tv x)] Try.func20 rfl rfl rfl rfl rfl fun a F => ?_
 refine wp_rs fun _ K1 => ?_
 refine s_box (tc x) F (by decide) rfl rfl fun w2 b1 a eb1 m1 B3 zb1 F => ?_
 have sB3 := B3.size
 have hB := bt hB B3
 refine F.sg rfl fun a F => ?_
 refine s_end (K1 _ _ ?_)
 refine wp_rs fun _ K2 => ?_
 refine s_alloc1 F (by decide) zero3 rfl fun w4 b3 a eb3 m3 B5 zb3 F => ?_
 have sB5 := B5.size
 have hB := bt hB B5
 have m1 := m1.old B5
 refine s_put F rfl rfl flat3 m3 (by first | (simp; done) | (simp [tc, lc]; done) | decide) rfl fun w6 m3 o7 => ?_
 have so7 := o7.size
 have hB := hB.trans (o7.below (by omega))
 have m1 := m1.only o7 (by omega)
 refine s_end (K2 _ _ ?_)
 refine wp_seq_k fun _ K3 => ?_
 refine wp_rs fun _ K4 => F.vl (x_ldW wide27 m1 rfl rfl) fun a F => ?_
 refine s_call (R := fun u w' => (∃ b m, u = .bool b ∧ Blk w' b3 3 [.int .i64 ((m : Nat) : Int)] ∧ cntR c 1 0 b m) ∧ Ktw b3 b3 w6 w') F [_, _, _] E39 rfl (by decide) (count55 w0 b3 (by omega) (c.size + 1) c x (by omega) hx 1 0 w6 (by decide) (by decide) (by decide) hB m3) ?_
 rintro _ w8 a ⟨⟨b8, m8, rfl, m3, hc8⟩, k9⟩ F
 have sk9 := k9.size
 have hB := k9.under hB (by omega)
 have hbo : b8 = decide c.ok := by
  have hsp := c.size_pos
  cases b8
  ·
   exact (decide_eq_false fun h => hc8.2.2 rfl ⟨by have := h.1; omega, by have := h.2; omega⟩).symm
  ·
   have h := hc8.2.1 rfl
   exact (decide_eq_true (show c.ok from ⟨by omega, by omega⟩)).symm
 refine F.vl (x_not rfl) fun a F => ?_
 refine s_end (K4 _ _ ?_)
 refine wp_ifb F rfl (fun hc6 => ?_) (fun hc6 => ?_)
 ·
  obtain rfl : b8 = false := by simpa using hc6
  refine wp_rs fun _ K5 => F.sg rfl fun a F => ?_
  refine s_end (K5 _ _ ?_)
  have hz : c.mN = 0 := if_neg (of_decide_eq_false hbo.symm)
  refine wp_ret (then_ret ((res_slot F rfl rfl ⟨by rw [hz]; rfl, hB⟩)))
 ·
  obtain rfl : b8 = true := by simpa using hc6
  refine wp_skip (K3 _ _ ?_)
  refine wp_rs fun _ K6 => F.ld m3 flat3 rfl rfl fun a F => F.sg rfl fun a F => ?_
  refine s_end (K6 _ _ ?_)
  have hz : c.mN = m8 := by rw [CT.mN, if_pos (of_decide_eq_true hbo.symm)]; have := (hc8.2.1 rfl).1; omega
  refine wp_ret (res_slot F rfl rfl ⟨by rw [hz], hB⟩)
end Go.Proofs.Ytmkjhdiepkpdoaa

namespace Go.Proofs.Ytmkjhdiepkpdoaa
open Go.RowKit Go.Shelf
set_option linter.unusedVariables false
set_option linter.unusedSimpArgs false
def CT.leaves : CT → Int → List (CT × Int)
 | .two k a b m, d => a.leaves (d + (CT.two k a b m).bnd 0) ++ b.leaves (d + (CT.two k a b m).bnd 1)
 | .lt a b c m, d => a.leaves (d + (CT.lt a b c m).bnd 0) ++ (b.leaves (d + (CT.lt a b c m).bnd 1) ++ c.leaves (d + (CT.lt a b c m).bnd 2))
 | c, d => [(c, d)]
/-- The leaves of the first i kids. -/
def CT.lvK (c : CT) (d : Int) : Nat → List (CT × Int)
 | 0 => []
 | i + 1 => c.lvK d i ++ (match c.kids[i]? with | some k => k.leaves (d + c.bnd i) | none => [])
def enc9 (e : C8 × Int) : List Value := tc e.1 ++ [.int .i64 e.2]
/-- The elements are these leaves, which lie where w0's own blocks lie. -/
def LTw (w0 : World) (es : List (C8 × Int)) (ls : List (CT × Int)) : Prop := es.length = ls.length ∧ ∀ (j : Nat) e l, es[j]? = some e → ls[j]? = some l → RC w0 (fun k => k < w0.heap.size) l.1 e.1 ∧ e.2 = l.2
theorem LTw.nil (w0 : World) : LTw w0 [] [] := ⟨rfl, fun j e l h => by simp at h⟩
theorem LTw.snoc {w0 : World} {es : List (C8 × Int)} {ls : List (CT × Int)} {c : CT} {x : C8} {d : Int} (h : LTw w0 es ls) (hx : RC w0 (fun k => k < w0.heap.size) c x) : LTw w0 (es ++ [(x, d)]) (ls ++ [(c, d)]) := by
 refine ⟨by simp [h.1], fun j e l e1 e2 => ?_⟩
 rcases Nat.lt_or_ge j es.length with hj | hj
 ·
  rw [List.getElem?_append_left hj] at e1
  rw [List.getElem?_append_left (by have := h.1; omega)] at e2
  exact h.2 j e l e1 e2
 ·
  rw [List.getElem?_append_right hj] at e1
  rw [List.getElem?_append_right (by have := h.1; omega)] at e2
  have h0 : j - es.length = 0 := by have := (List.getElem?_eq_some_iff.1 e1).1; simp at this; omega
  have h1 : j - ls.length = 0 := by have := h.1; omega
  rw [h0] at e1
  rw [h1] at e2
  simp at e1 e2
  subst e1 e2
  exact ⟨hx, rfl⟩
end Go.Proofs.Ytmkjhdiepkpdoaa

namespace Go.Proofs.Ytmkjhdiepkpdoaa
open Go.RowKit Go.Shelf
set_option linter.unusedVariables false
set_option linter.unusedSimpArgs false
def lstL (n : Int) (l : CT × Int) : Int := max n (match l.1 with | .var k _ => if l.2 ≤ k then min (k - l.2 + 1) 9223372036854775807 else 0 | _ => 0)
def isC (s : ByteArray) : CT → Bool
 | .cst t _ _ => decide (t = s)
 | _ => false
def CT.menR (c : CT) (s : ByteArray) : Bool := decide c.ok && (c.leaves 0).any (fun l => isC s l.1)
end Go.Proofs.Ytmkjhdiepkpdoaa

namespace Go.Proofs.Ytmkjhdiepkpdoaa
set_option linter.unusedVariables false
set_option linter.unusedSimpArgs false
/-- Lifting without an end: by b what is d or more. -/
def PT.sh (b : Int) : PT → Int → PT
 | .var n, d => .var (if d ≤ n then n + b else n)
 | .two k p q, d => .two k (p.sh b d) (q.sh b (d + if k = 3 ∨ k = 4 then 1 else 0))
 | .lt p q r, d => .lt (p.sh b d) (q.sh b d) (r.sh b (d + 1))
 | .sort o, _ => .sort o
 | .cst s os, _ => .cst s os
 | .odd k, _ => .odd k
def PT.pu (v : PT) : PT → Int → PT
 | .var n, d => if n = d then v.sh d 0 else .var (if d < n then n - 1 else n)
 | .two k p q, d => .two k (PT.pu v p d) (PT.pu v q (d + if k = 3 ∨ k = 4 then 1 else 0))
 | .lt p q r, d => .lt (PT.pu v p d) (PT.pu v q d) (PT.pu v r (d + 1))
 | .sort o, _ => .sort o
 | .cst s os, _ => .cst s os
 | .odd k, _ => .odd k
/-- Its variables are from 0 to M. -/
def PT.bd (M : Int) : PT → Prop
 | .var n => 0 ≤ n ∧ n ≤ M
 | .two _ p q => p.bd M ∧ q.bd M
 | .lt p q r => p.bd M ∧ q.bd M ∧ r.bd M
 | _ => True
theorem PT.bd.mono {M N : Int} (h : M ≤ N) : ∀ {p : PT}, p.bd M → p.bd N
 | .var n, h1 => ⟨h1.1, by have := h1.2; omega⟩
 | .two _ p q, h1 => ⟨PT.bd.mono h h1.1, PT.bd.mono h h1.2⟩
 | .lt p q r, h1 => ⟨PT.bd.mono h h1.1, PT.bd.mono h h1.2.1, PT.bd.mono h h1.2.2⟩
 | .sort _, _ => trivial
 | .cst _ _, _ => trivial
 | .odd _, _ => trivial
/-- How often variable d stands in it, as seen beneath d binders. -/
def PT.occ : PT → Int → Nat
 | .var n, d => if n = d then 1 else 0
 | .two k p q, d => p.occ d + q.occ (d + if k = 3 ∨ k = 4 then 1 else 0)
 | .lt p q r, d => p.occ d + q.occ d + r.occ (d + 1)
 | _, _ => 0
end Go.Proofs.Ytmkjhdiepkpdoaa

namespace Go.Proofs.Ytmkjhdiepkpdoaa
open Go.RowKit Go.Shelf
set_option linter.unusedVariables false
set_option linter.unusedSimpArgs false
def occL (l : CT × Int) : Nat := match l.1 with | .var n _ => if n = l.2 then 1 else 0 | _ => 0
end Go.Proofs.Ytmkjhdiepkpdoaa

namespace Go.Proofs.Ytmkjhdiepkpdoaa
open Go.RowKit Go.Shelf
set_option linter.unusedVariables false
set_option linter.unusedSimpArgs false
/-- What formOf tells. -/
def FF (w0 : World) (x : C3) (l : Lv) (w' : World) (c : Int) (vk : Value) (ks : List Int) : Prop := Rd w' vk 1 ks.length (ints ks) ∧ (¬ sndL l → c = 0 ∧ ks = []) ∧ ∀ s, RS w0 s x → s.good → c = nfC s ∧ ks = nfK s
/-- Two come to one form. -/
def eqF (a b : SL) : Prop := nfC a = nfC b ∧ nfK a = nfK b
instance (a b : SL) : Decidable (eqF a b) := inferInstanceAs (Decidable (_ ∧ _))
/-- What Equal and Leq tell. -/
def TB (w0 : World) (x y : C3) (la lb : Lv) (P : SL → SL → Prop) [∀ s t, Decidable (P s t)] (b : Bool) : Prop := (¬ (sndL la ∧ sndL lb) → b = false) ∧ ∀ s t, RS w0 s x → RS w0 t y → s.good → t.good → b = decide (P s t)
def leS (s t : SL) : Prop := eqF (.mx s t) t
instance (a b : SL) : Decidable (leS a b) := inferInstanceAs (Decidable (eqF _ _))
end Go.Proofs.Ytmkjhdiepkpdoaa

namespace Go.Proofs.Ytmkjhdiepkpdoaa
open Go.RowKit Go.Shelf
set_option linter.unusedVariables false
set_option linter.unusedSimpArgs false
def eqO : Option SL → Option SL → Prop
 | some s, some t => eqF s t
 | _, _ => False
def eqOs (os ps : List (Option SL)) : Prop := os.length = ps.length ∧ ∀ (i : Nat) o p, os[i]? = some o → ps[i]? = some p → eqO o p
def sameP : PT → PT → Prop
 | .var n, .var m => n = m
 | .sort o, .sort p => eqO o p
 | .cst s os, .cst t ps => s = t ∧ eqOs os ps
 | .odd k, .odd j => k = j
 | .two k a b, .two j c d => k = j ∧ sameP a c ∧ sameP b d
 | .lt a b c, .lt d e f => sameP a d ∧ sameP b e ∧ sameP c f
 | _, _ => False
def PT.fit : PT → Prop
 | .cst _ os => os.length ≤ 9223372036854775807
 | .two _ a b => a.fit ∧ b.fit
 | .lt a b c => a.fit ∧ b.fit ∧ c.fit
 | _ => True
theorem CT.fit_ess : ∀ {c : CT}, c.fit → c.ess.fit
 | .two _ a b _, h => ⟨CT.fit_ess h.1, CT.fit_ess h.2⟩
 | .lt a b c _, h => ⟨CT.fit_ess h.1, CT.fit_ess h.2.1, CT.fit_ess h.2.2⟩
 | .cst s ls _, h => by simp only [CT.ess, PT.fit, List.length_map]; exact h.2
 | .var .., _ => trivial
 | .sort .., _ => trivial
 | .odd .., _ => trivial
end Go.Proofs.Ytmkjhdiepkpdoaa

namespace Go.Proofs.Ytmkjhdiepkpdoaa
open Go.RowKit Go.Shelf
set_option linter.unusedVariables false
set_option linter.unusedSimpArgs false
section
variable {P : Program} {n : Nat} {l : List (Nat × Value)} {w : World}
end
end Go.Proofs.Ytmkjhdiepkpdoaa

namespace Go.Proofs.Ytmkjhdiepkpdoaa
open Go.RowKit Go.Shelf
set_option linter.unusedVariables false
set_option linter.unusedSimpArgs false
end Go.Proofs.Ytmkjhdiepkpdoaa

namespace Go.Proofs.Ytmkjhdiepkpdoaa
open Go.RowKit Go.Shelf
set_option linter.unusedVariables false
set_option linter.unusedSimpArgs false
noncomputable def allW (cs : List CT) : Bool := cs.all fun c => decide ((c.mayT 6 1 0).1 = 0)
end Go.Proofs.Ytmkjhdiepkpdoaa

namespace Go.Proofs.Ytmkjhdiepkpdoaa
open Go.RowKit Go.Shelf
set_option linter.unusedVariables false
set_option linter.unusedSimpArgs false
/-- No universe and no constant. -/
def PT.plain : PT → Prop
 | .var _ => True
 | .two _ p q => p.plain ∧ q.plain
 | .lt p q r => p.plain ∧ q.plain ∧ r.plain
 | .odd _ => True
 | _ => False
/-- What near goes by. -/
structure Nr (c d : CT) (k : Int) : Prop where
 kc : c.kd = k
 kd : d.kd = k
 ar : arT k = c.kids.length
 ln : c.kids.length = d.kids.length
 lc : ¬ (arT c.kd < 0 ∨ (c.len : Int) < arT c.kd)
 ld : ¬ (arT d.kd < 0 ∨ (d.len : Int) < arT d.kd)
 kids : ∀ (i : Nat) p q, c.kids[i]? = some p → d.kids[i]? = some q → p.ess = q.ess ∧ p.ess.plain
section
variable {P : Program} {n : Nat} {l : List (Nat × Value)} {w : World}
theorem x_neqBB {t t' : TypeId} {x y : Operand} {p : Bool} (ht : P.underlying t = some .bool) (hx : ov l x = some (.bool p)) (hy : ov l y = some (.bool p)) : Runs P n l w (.binOp .neq t x y t') (.bool false) :=
 x_bin hx hy fun W => ⟨by simp [eqGuard], by
  have h := run_equalIn_bool' (P := P) W 9999 t p p ht
  simp only [binOp, Op.equal, Op.maxDepth]
  simp [h]⟩
end
end Go.Proofs.Ytmkjhdiepkpdoaa

namespace Go.Proofs.Ytmkjhdiepkpdoaa
open Go.RowKit Go.Shelf
set_option linter.unusedVariables false
set_option linter.unusedSimpArgs false
/-- A node with its kind and its number alone. -/
def bareC : CT → C8
 | .var n _ => ⟨1, n, emptyB, (0, 0, nilS), nilS, nilS⟩
 | c => ⟨c.kd, 0, emptyB, (0, 0, nilS), nilS, nilS⟩
def chv (dO f b : Int) (z : C8) (vl : Value) : List Value := [.int .i64 dO, .int .i64 f, .int .i64 b, .int .i64 z.k, .int .i64 z.n, .string z.s, .int .i64 z.l.1, .int .i64 z.l.2.1, z.l.2.2, z.ls, z.ts, vl]
def liftR (f b d n : Int) : Int := liftN f b d n
end Go.Proofs.Ytmkjhdiepkpdoaa

namespace Go.Proofs.Ytmkjhdiepkpdoaa
set_option maxRecDepth 100000
set_option maxHeartbeats 1600000
open Go.RowKit Go.Shelf
set_option linter.unusedVariables false
set_option linter.unusedSimpArgs false
def Z0 : C8 := ⟨0, 0, emptyB, (0, 0, nilS), nilS, nilS⟩
/-- How great Inst's outcome would be. -/
def iszP (c v : CT) : Int := if c.ok ∧ v.ok then min 20001 ((c.size : Int) + (c.ess.occ 0 : Int) * ((v.size : Int) - 1)) else 0
def fitC (c : CT) (x : C8) : C8 := if c.ok then x else Z0
theorem rfits64 (c : CT) (x : C8) (w0 : World) (hx : RC w0 (fun k => k < w0.heap.size) c x) : Calls Try.prog 48 #[tv x] w0 fun e w' => e = .returned (tv (fitC c x)) ∧ Below w0.heap.size w0 w' := by
 have hB := Below.refl w0.heap.size w0
 have sB := hB.size
 refine calls_fs 7 [(0, tv x)] Try.func48 rfl rfl rfl rfl rfl fun a F => ?_
 refine wp_rs fun _ K1 => ?_
 refine s_box (tc x) F (by decide) rfl rfl fun w2 b1 a eb1 m1 B3 zb1 F => ?_
 have sB3 := B3.size
 have hB := bt hB B3
 refine s_alloc F (by decide) zero27 fun w4 b2 a eb2 m2 B5 zb2 F => ?_
 have sB5 := B5.size
 have hB := bt hB B5
 have m1 := m1.old B5
 refine s_end (K1 _ _ ?_)
 refine wp_seq_k fun _ K2 => ?_
 rcases (show ¬ c.ok ∨ c.ok by by_cases h : c.ok <;> simp [h]) with hk1 | hk1
 ·
  have hr : fitC c x = Z0 := if_neg hk1
  refine wp_rs fun _ K4 => F.vl (x_ldW wide27 m1 rfl rfl) fun a F => ?_
  refine s_callB [_] F E8 rfl (by decide) ((TooGreat14 c x w4 (hx.bel hB)).mono fun e w' h => ⟨by rw [h.1, decide_eq_true (p := ¬ c.ok) hk1], h.2⟩) fun w6 a B7 F => ?_
  have sB7 := B7.size
  have hB := bt hB B7
  have m2 := m2.old B7
  refine s_end (K4 _ _ ?_)
  refine wp_if F rfl ?_
  refine wp_rs fun _ K5 => F.vl (x_build (vs := []) rfl (b27_ _)) fun a F => ?_
  refine s_putW F rfl rfl (size_wide wide27) m2 rfl one8 fun w10 m2 o11 => ?_
  have so11 := o11.size
  have hB := hB.trans (o11.below (by omega))
  refine s_end (K5 _ _ ?_)
  refine wp_ret (then_ret (res_cell F rfl rfl m2 wide27 ⟨by rw [hr]; try rfl, hB⟩))
 ·
  have hr : fitC c x = x := if_pos hk1
  refine wp_rs fun _ K6 => F.vl (x_ldW wide27 m1 rfl rfl) fun a F => ?_
  refine s_callB [_] F E8 rfl (by decide) ((TooGreat14 c x w4 (hx.bel hB)).mono fun e w' h => ⟨by rw [h.1, decide_eq_false (p := ¬ c.ok) (fun h => h hk1)], h.2⟩) fun w12 a B13 F => ?_
  have sB13 := B13.size
  have hB := bt hB B13
  have m1 := m1.old B13
  have m2 := m2.old B13
  refine s_end (K6 _ _ ?_)
  refine wp_if F rfl ?_
  refine wp_skip (K2 _ _ ?_)
  refine wp_rs fun _ K7 => F.vl (x_ldW wide27 m1 rfl rfl) fun a F => ?_
  refine s_putW F rfl rfl (size_wide wide27) m2 rfl hx.one fun w16 m2 o17 => ?_
  have so17 := o17.size
  have hB := hB.trans (o17.below (by omega))
  refine s_end (K7 _ _ ?_)
  refine wp_ret (res_cell F rfl rfl m2 wide27 ⟨by rw [hr]; try rfl, hB⟩)
end Go.Proofs.Ytmkjhdiepkpdoaa

namespace Go.Proofs.Ytmkjhdiepkpdoaa
set_option maxRecDepth 100000
set_option maxHeartbeats 1600000
open Go.RowKit Go.Shelf
set_option linter.unusedVariables false
set_option linter.unusedSimpArgs false
theorem App47 (A : Nat → Prop) (c d : CT) (x y : C8) (w0 : World) (hA : ∀ k, A k → k < w0.heap.size) (hx : RC w0 A c x) (hy : RC w0 A d y) : Calls Try.prog 90 #[tv x, tv y] w0 fun e w' => ∃ u, e = .returned u ∧ (∃ y, u = tv y ∧ RE w' (AS A w0.heap.size) (.two 6 c.ess d.ess) y) ∧ Below w0.heap.size w0 w' := by
 have hB := Below.refl w0.heap.size w0
 have sB := hB.size
 refine calls_fs 9 [(0, tv x), (1, tv y)] Try.func90 rfl rfl rfl rfl rfl fun a F => ?_
 refine wp_rs fun _ K1 => ?_
 refine s_box (tc x) F (by decide) rfl rfl fun w2 b2 a eb2 m2 B3 zb2 F => ?_
 have sB3 := B3.size
 have hB := bt hB B3
 refine s_box (tc y) F (by decide) rfl rfl fun w4 b3 a eb3 m3 B5 zb3 F => ?_
 have sB5 := B5.size
 have hB := bt hB B5
 have m2 := m2.old B5
 refine s_alloc F (by decide) zero27 fun w6 b4 a eb4 m4 B7 zb4 F => ?_
 have sB7 := B7.size
 have hB := bt hB B7
 have m2 := m2.old B7
 have m3 := m3.old B7
 refine s_end (K1 _ _ ?_)
 refine wp_rs fun _ K2 => F.vl (x_ldW wide27 m2 rfl rfl) fun a F => F.vl (x_ldW wide27 m3 rfl rfl) fun a F => ?_
 refine s_litG [tv x, tv y] el25 F (by decide) rfl (by simp [Value.cells, tc]) rfl (by decide) (by decide) fun w8 bl a ebl ml B9 zbl F => ?_
 have sB9 := B9.size
 have hB := bt hB B9
 have m4 := m4.old B9
 have ml : Blk w8 bl 27 (tc x ++ tc y) := by simpa [Value.cells] using ml
 refine F.vl (x_build (vs := [(0, _), (5, _)]) rfl (b27_05 _ _ _ _ _)) fun a F => ?_
 refine s_putW F rfl rfl (size_wide wide27) m4 rfl (one_tc0 _ _ _ _ rfl) fun w12 m4 o13 => ?_
 have so13 := o13.size
 have hB := hB.trans (o13.below (by omega))
 have ml := ml.only o13 (by omega)
 refine s_end (K2 _ _ ?_)
 have hke : RKE w12 (AS A w0.heap.size) (.slice (some ⟨bl, 0, none⟩) 2 2) [c.ess, d.ess] := ⟨[x, y], ⟨by simpa using Rd.blk ml (n := 2) rfl, fun _ b hb => by simp [Value.ownBlock] at hb; subst hb; exact .inr (by omega)⟩, rfl, fun i x2 p e1 e2 => by rcases i with _ | _ | i; (· simp at e1 e2; subst e1 e2; exact ((hx.keep hB.size (fun k hk _ => hB.block k (hA k hk))).mono (fun k hk => .inl hk)).re); (· simp at e1 e2; subst e1 e2; exact ((hy.keep hB.size (fun k hk _ => hB.block k (hA k hk))).mono (fun k hk => .inl hk)).re); simp at e1⟩
 refine wp_ret (res_cell F rfl rfl m4 wide27 ⟨_, rfl, ⟨⟨6, 0, emptyB, (0, 0, nilS), nilS, .slice (some ⟨bl, 0, none⟩) 2 2⟩, rfl, RE_two (by decide) hke⟩, hB⟩)
end Go.Proofs.Ytmkjhdiepkpdoaa

namespace Go.Proofs.Ytmkjhdiepkpdoaa
open Go.RowKit Go.Shelf
set_option linter.unusedVariables false
set_option linter.unusedSimpArgs false
/-- How a function that keeps a state hands things on: J s: the state is s, between two of its steps; K: what it knows by that; St: the steps that it takes by itself; Rl: what a round makes of the state; enc: what it hands on; Dn: where it ends. -/
def HandsG (P : Program) (g : FuncId) (lb : Array Value) (lo hi : Nat) (w0 : World) {σ : Type} (S : σ → Prop) (K : σ → World → Prop) (St : σ → World → σ → World → Prop) (Rl : σ → σ → Prop) (enc : σ → List Value → Prop) (Dn : σ → Prop) : Prop :=
 ∀ (L : Nat) (J : σ → World → Prop) (Jx : World → Prop), (∀ s W, J s W → K s W) → (∀ s W s' W', J s W → St s W s' W' → J s' W') → (∀ W W', Jx W → Below hi W W' → Jx W') →
  (∀ s W vs, J s W → enc s vs → hi ≤ W.heap.size → Below lo w0 W → YieldAt Fence.wide 0 P L vs.toArray W fun en W' => Mid lo hi W W' ∧ ((en = .returned (.bool true) ∧ ∃ s', Rl s s' ∧ J s' W') ∨ (en = .returned (.bool false) ∧ Jx W'))) →
  ∀ s W, S s → J s W → hi ≤ W.heap.size → Below lo w0 W → Calls P g (#[.func (.yield L) #[] #[]] ++ lb) W fun en W' => (∃ v, en = .returned v) ∧ Mid lo hi W W' ∧ ((∃ s', Dn s' ∧ J s' W') ∨ Jx W')
/-- How a round's body may be left. -/
def rndPostG {σ : Type} (lo hi : Nat) (I : σ → World → Prop) (Ix : Code → World → Prop) (Rl : σ → σ → Prop) (s : σ) (W : World) : Exit → Act → World → Prop
 | .normal, _, W' => Mid lo hi W W' ∧ ∃ s', Rl s s' ∧ I s' W'
 | .ret, _, W' => Mid lo hi W W' ∧ Ix .ret W'
 | .exit id, _, W' => Mid lo hi W W' ∧ Ix (.exit id) W'
 | .goto t, _, W' => Mid lo hi W W' ∧ Ix (.goto t) W'
 | .panic _, _, _ => False
 | .outgrown, _, _ => False
theorem rndPostG.calm {σ : Type} {lo hi : Nat} {I : σ → World → Prop} {Ix : Code → World → Prop} {Rl : σ → σ → Prop} {s : σ} {W : World} : Calm (rndPostG lo hi I Ix Rl s W) := ⟨fun _ _ _ h => h, fun _ _ h => h⟩
/-! ### Steps behind a yield, within the fence -/
section
variable {P : Program} {n d : Nat} {l : List (Nat × Value)} {w : World} {a : Act} {ops : Array Oper} {Q : Exit → Act → World → Prop} {rest : List Oper} {ty : TypeId} {pos : String} {af : Array Edge} {ds : List Deferred} {op : Op} {v : Value} {r : Option Nat} {m : Nat}
theorem i_grd {o : Oper} {j : Nat} {want : Bool} (dj : Nat) (hF : Fs n a l (ds := ds)) (hg : o.guard = some (j, want)) (hj : (ops[j]?).bind (·.dst) = some dj) (hb : lk l dj = some (.bool want))
    (h : wpListIn (Fw r) m P ops Q ({ o with guard := none } :: rest) a w) : wpListIn (Fw r) m P ops Q (o :: rest) a w := by
  unfold wpListIn at h ⊢
  rw [if_pos (wanted_none _ rfl _)] at h
  rw [if_pos (by rw [wanted_some hF hg hj hb]; simp)]
  exact h
theorem i_grdn {j : Nat} {want : Bool} (dj : Nat) (hF : Fs n a l (ds := ds)) (hj : (ops[j]?).bind (·.dst) = some dj) (hb : lk l dj = some (.bool (!want))) (hd : d < n)
    (h : ∀ a', Fs n a' ((d, undef) :: l) (ds := ds) → wpListIn (Fw r) m P ops Q rest a' w) : wpListIn (Fw r) m P ops Q (⟨some d, op, ty, pos, af, some (j, want)⟩ :: rest) a w := by
  unfold wpListIn
  rw [if_neg (by rw [wanted_some hF rfl hj hb]; simp)]
  exact ⟨fun _ _ => trivial, h _ (hF.put d hd _)⟩
theorem i_call {f : FuncId} {xs : List Operand} {ts : Array TypeId} (vals : List Value) {R : Value → World → Prop} (hF : Fs n a l (ds := ds)) (hent : Enters P f) (hargs : xs.map (ov l) = vals.map some) (hd : d < n)
    (hC : Calls P f vals.toArray w fun e w' => ∃ v, e = .returned v ∧ R v w')
    (h : ∀ v w' a', R v w' → Fs n a' ((d, v) :: l) (ds := ds) → wpListIn (Fw r) m P ops Q rest a' w') : wpListIn (Fw r) m P ops Q (⟨some d, .call { callee := .value (.func f), args := xs.toArray, argTypes := ts }, ty, pos, af, none⟩ :: rest) a w := by
  unfold wpListIn
  rw [if_pos (wanted_none _ rfl _)]
  refine ⟨fun _ _ => trivial, ?_⟩
  rw [Oper.semAt_eq _ _ _ (by intro c; simp), run_call hF hent hargs _ rfl]
  refine ⟨fun h => absurd h (by simp [Fw]), callsIn_Fw (hC.mono ?_)⟩
  rintro e w' ⟨v, rfl, hR⟩
  exact h v w' _ hR (hF.put d hd v)
theorem i_callB {f : FuncId} {xs : List Operand} {ts : Array TypeId} (vals : List Value) (hF : Fs n a l (ds := ds)) (hent : Enters P f) (hargs : xs.map (ov l) = vals.map some) (hd : d < n) (hC : Calls P f vals.toArray w fun e w' => e = .returned v ∧ Below w.heap.size w w')
    (h : ∀ w' a', Below w.heap.size w w' → Fs n a' ((d, v) :: l) (ds := ds) → wpListIn (Fw r) m P ops Q rest a' w') : wpListIn (Fw r) m P ops Q (⟨some d, .call { callee := .value (.func f), args := xs.toArray, argTypes := ts }, ty, pos, af, none⟩ :: rest) a w :=
  i_call (R := fun u w' => u = v ∧ Below w.heap.size w w') vals hF hent hargs hd (hC.mono fun e w' he => ⟨v, he.1, rfl, he.2⟩) (by rintro _ w' a' ⟨rfl, B⟩ hF'; exact h w' a' B hF')
end
end Go.Proofs.Ytmkjhdiepkpdoaa

namespace Go.Proofs.Ytmkjhdiepkpdoaa
open Go.RowKit Go.Shelf
set_option linter.unusedVariables false
set_option linter.unusedSimpArgs false
def CT.spL : CT → List CT
 | .two k a b m => .two k a b m :: (if k = 6 then a.spL else [])
 | c => [c]
theorem CT.spL_zero : ∀ (c : CT), c.spL[0]? = some c
 | .two .. => rfl
 | .lt .. => rfl
 | .var .. => rfl
 | .sort .. => rfl
 | .cst .. => rfl
 | .odd .. => rfl
theorem CT.spL_next : ∀ (c ci : CT) (i : Nat), c.spL[i]? = some ci → ((ci.kd = 6 ∧ 0 < ci.kids.length) → ∃ k, ci.kids[0]? = some k ∧ c.spL[i + 1]? = some k) ∧ (¬ (ci.kd = 6 ∧ 0 < ci.kids.length) → i + 1 = c.spL.length)
 | .two k a b m, ci, 0, h => by
  simp [CT.spL] at h
  subst h
  by_cases hk : k = 6
  ·
   subst hk
   refine ⟨fun _ => ⟨a, rfl, ?_⟩, fun h => absurd ⟨rfl, by simp [CT.kids]⟩ h⟩
   simp [CT.spL, a.spL_zero]
  ·
   refine ⟨fun h => absurd h.1 hk, fun _ => ?_⟩
   simp [CT.spL, hk]
 | .two k a b m, ci, i + 1, h => by
  by_cases hk : k = 6
  ·
   subst hk
   simp [CT.spL] at h
   obtain ⟨h1, h2⟩ := CT.spL_next a ci i h
   refine ⟨fun h3 => ?_, fun h3 => ?_⟩
   ·
    obtain ⟨q, h4, h5⟩ := h1 h3
    exact ⟨q, h4, by simpa [CT.spL] using h5⟩
   ·
    have := h2 h3
    simp [CT.spL]
    omega
  ·
   simp [CT.spL, hk] at h
 | .lt a b c m, ci, i, h => by
  rcases i with _ | i
  ·
   simp [CT.spL] at h; subst h; exact ⟨fun h => by simp [CT.kd] at h, fun _ => rfl⟩
  ·
   simp [CT.spL] at h
 | .var n m, ci, i, h => by
  rcases i with _ | i
  ·
   simp [CT.spL] at h; subst h; exact ⟨fun h => by simp [CT.kd] at h, fun _ => rfl⟩
  ·
   simp [CT.spL] at h
 | .sort n m, ci, i, h => by
  rcases i with _ | i
  ·
   simp [CT.spL] at h; subst h; exact ⟨fun h => by simp [CT.kd] at h, fun _ => rfl⟩
  ·
   simp [CT.spL] at h
 | .cst s n m, ci, i, h => by
  rcases i with _ | i
  ·
   simp [CT.spL] at h; subst h; exact ⟨fun h => by simp [CT.kd] at h, fun _ => rfl⟩
  ·
   simp [CT.spL] at h
 | .odd n m, ci, i, h => by
  rcases i with _ | i
  ·
   simp [CT.spL] at h; subst h; exact ⟨fun h => by simp [CT.kids] at h, fun _ => rfl⟩
  ·
   simp [CT.spL] at h
def spK (w0 : World) (c : CT) (b1 : Nat) (s : Nat × Bool) (W : World) : Prop := ∃ ci yi, c.spL[s.1]? = some ci ∧ Blk W b1 27 (tc yi) ∧ RC w0 (fun k => k < w0.heap.size) ci yi
def spSt (w0 : World) (c : CT) (b1 : Nat) (s : Nat × Bool) (W : World) (s' : Nat × Bool) (W' : World) : Prop :=
 (s' = s ∧ Below W.heap.size W W') ∨ (s.2 = true ∧ s' = (s.1 + 1, false) ∧ Only b1 W W' ∧ spK w0 c b1 s' W')
def spRl (s s' : Nat × Bool) : Prop := s' = (s.1, true)
def spEnc (w0 : World) (c : CT) (s : Nat × Bool) (vs : List Value) : Prop := s.2 = false ∧ ∃ ci yi, c.spL[s.1]? = some ci ∧ vs = [tv yi] ∧ RC w0 (fun k => k < w0.heap.size) ci yi
def spDn (c : CT) (s : Nat × Bool) : Prop := s.2 = true ∧ s.1 + 1 = c.spL.length
theorem exit_at {K1 K2 : Act → World → Prop} {Q : Exit → Act → World → Prop} {id : Nat} {a : Act} {w : World} (h : Q .normal a w) : Exit.then K1 (Exit.then K2 (Exit.inBlock id Q)) (.exit id) a w := by
 show (if id = id then Q .normal a w else Q (.exit id) a w)
 rw [if_pos rfl]
 exact h
end Go.Proofs.Ytmkjhdiepkpdoaa

namespace Go.Proofs.Ytmkjhdiepkpdoaa
open Go.RowKit Go.Shelf
set_option linter.unusedVariables false
set_option linter.unusedSimpArgs false
theorem noDefer_at {ops : Array Oper} (h : ops.all noDefer = true) {i : Nat} {o : Oper} (ho : ops[i]? = some o) : noDefer o = true := by
 rw [Array.all_eq_true] at h
 obtain ⟨hi, rfl⟩ := Array.getElem?_eq_some_iff.1 ho
 exact h i hi
/-- A walk of a region's operations in some order holds within a round, too. -/
theorem opsIn {r : Option Nat} {m : Nat} {P : Program} {ops : Array Oper} {Q : Exit → Act → World → Prop} (hQ : ∀ c a w, ¬ Q (.panic c) a w) (hO : ∀ a w, ¬ Q .outgrown a w) (hn : ops.all noDefer = true) : ∀ (l : List Nat) (a : Act) (w : World), wpOps P ops Q l a w → wpOpsIn (Fw r) m P ops Q l a w
 | [], a, w, h => h
 | i :: rest, a, w, h => by
  unfold wpOps at h
  unfold wpOpsIn
  cases ho : ops[i]? with
  | none =>
   rw [ho] at h
   exact opsIn hQ hO hn rest _ _ h
  | some o =>
   rw [ho] at h
   simp only at h ⊢
   have hn1 := noDefer_at hn ho
   have hnd : ∀ c, o.op ≠ .defer c := by
    intro c e
    simp [noDefer, e] at hn1
   split
   ·
    next hw =>
    rw [if_pos hw] at h
    rcases h with h | ⟨_, a', w', h⟩
    ·
     refine ⟨fun _ _ => trivial, ?_⟩
     rw [Oper.semAt_eq _ _ _ hnd]
     unfold Oper.wp at h
     cases hr : (execOp a.eval o).run P w with
     | ok x w' =>
      rw [hr] at h
      cases x with
      | value v => exact opsIn hQ hO hn rest _ _ h
      | skip => exact opsIn hQ hO hn rest _ _ h
      | defer d => exact opsIn hQ hO hn rest _ _ h
      | enter f args =>
       refine ⟨fun h => absurd h (by simp [Fw]), callsIn_Fw (h.mono ?_)⟩
       intro e w'' he
       cases e with
       | returned v => exact opsIn hQ hO hn rest _ _ he
       | panicked c => exact he
       | outgrown => exact he
      | row nm args =>
       refine ⟨fun h => absurd h (by simp [Fw]), ?_⟩
       exact fun c cs _ => let ⟨v, w', q, st⟩ := Rows.mono h (fun v w'' he => opsIn hQ hO hn rest _ _ he) c cs; ⟨v, w', q, stepsIn_wide.2 st⟩
      | _ => exact (h : False).elim
     | halt x w' =>
      rw [hr] at h
      cases x with
      | panic v => exact h
      | _ => exact (h : False).elim
    ·
     exact absurd h (hO _ _)
   ·
    next hw =>
    rw [if_neg hw] at h
    exact ⟨fun _ _ => trivial, opsIn hQ hO hn rest _ _ h⟩
section
variable {r : Option Nat} {m : Nat} {P : Program} {ops : Array Oper} {S : World → Prop} {N : Nat} {a : Act} {w : World}
end
/-! ### Loops over functions that keep a state, whose rounds may turn what rounds have made -/
/-- The blocks p and p + 1 have not turned. -/
structure Kd (p : Nat) (w w' : World) : Prop where
 size : w.heap.size ≤ w'.heap.size
 one : w'.heap[p]? = w.heap[p]?
 two : w'.heap[p + 1]? = w.heap[p + 1]?
section
variable {p : Nat} {w w' w'' : World}
theorem Kd.refl (p : Nat) (w : World) : Kd p w w := ⟨Nat.le_refl _, rfl, rfl⟩
theorem Kd.trans (h : Kd p w w') (k : Kd p w' w'') : Kd p w w'' := ⟨Nat.le_trans h.size k.size, k.one.trans h.one, k.two.trans h.two⟩
theorem Kd.of_below {B : Nat} (h : Below B w w') (hp : p + 1 < B) : Kd p w w' := ⟨h.size, h.block _ (by omega), h.block _ hp⟩
theorem Kd.below {B : Nat} (h : Kd p w w') (B' : Below B w' w'') (hp : p + 1 < B) : Kd p w w'' := h.trans (Kd.of_below B' hp)
theorem Kd.only {b : Nat} (h : Kd p w w') (o : Only b w' w'') (hb : b ≠ p ∧ b ≠ p + 1) : Kd p w w'' := h.trans ⟨Nat.le_of_eq o.size.symm, o.block _ (by omega), o.block _ (by omega)⟩
theorem Kd.k2 {a b : Nat} (h : Kd p w w') (hK : Ktw a b w' w'') (hp : p + 1 < w'.heap.size ∧ a ≠ p ∧ a ≠ p + 1 ∧ b ≠ p ∧ b ≠ p + 1) : Kd p w w'' := h.trans ⟨hK.size, hK.block _ (by omega) (by omega), hK.block _ (by omega) (by omega)⟩
end
theorem below_k2 {B a b : Nat} {w w' w'' : World} (h : Below B w w') (hK : Ktw a b w' w'') (hb : B ≤ a ∧ B ≤ b ∧ B ≤ w'.heap.size) : Below B w w'' := h.trans ⟨hK.os, hK.tape, hK.output, hK.size, fun k hk => hK.block k (by omega) (by omega)⟩
/-- As HandsG; a round may turn whatever was not there at w0. -/
def HandsX (P : Program) (g : FuncId) (lb : Array Value) (w0 : World) {σ : Type} (S : σ → Prop) (K : σ → World → Prop) (St : σ → World → σ → World → Prop) (Rl : σ → σ → Prop) (enc : σ → List Value → Prop) (Dn : σ → Prop) : Prop :=
 ∀ (L : Nat) (J : σ → World → Prop) (Jx : World → Prop), (∀ s W, J s W → K s W) → (∀ s W s' W', J s W → St s W s' W' → J s' W') → (∀ W W', Jx W → Below W.heap.size W W' → Jx W') →
  (∀ s W vs, J s W → enc s vs → Below w0.heap.size w0 W → YieldAt Fence.wide 0 P L vs.toArray W fun en W' => Below w0.heap.size W W' ∧ ((en = .returned (.bool true) ∧ ∃ s', Rl s s' ∧ J s' W') ∨ (en = .returned (.bool false) ∧ Jx W'))) →
  ∀ s W, S s → J s W → Below w0.heap.size w0 W → Calls P g (#[.func (.yield L) #[] #[]] ++ lb) W fun en W' => (∃ v, en = .returned v) ∧ Below w0.heap.size W W' ∧ ((∃ s', Dn s' ∧ J s' W') ∨ Jx W')
/-- How a round's body may be left. -/
def rndPostX {σ : Type} (lo p : Nat) (I : σ → World → Prop) (Ix : Code → World → Prop) (Rl : σ → σ → Prop) (s : σ) (W : World) : Exit → Act → World → Prop
 | .normal, _, W' => Below lo W W' ∧ Kd p W W' ∧ ∃ s', Rl s s' ∧ I s' W'
 | .ret, _, W' => Below lo W W' ∧ Kd p W W' ∧ Ix .ret W'
 | .exit id, _, W' => Below lo W W' ∧ Kd p W W' ∧ Ix (.exit id) W'
 | .goto t, _, W' => Below lo W W' ∧ Kd p W W' ∧ Ix (.goto t) W'
 | .panic _, _, _ => False
 | .outgrown, _, _ => False
theorem rndPostX.calm {σ : Type} {lo p : Nat} {I : σ → World → Prop} {Ix : Code → World → Prop} {Rl : σ → σ → Prop} {s : σ} {W : World} : Calm (rndPostX lo p I Ix Rl s W) := ⟨fun _ _ _ h => h, fun _ _ h => h⟩
theorem wp_rangeX {σ : Type} {P : Program} {n : Nat} {g : Operand} {ps : List Nat} {assign body : Code} {Q : Exit → Act → World → Prop} {a : Act} {w w0 : World} {l : List (Nat × Value)}
    {gf : FuncId} {lb : Array Value} {S : σ → Prop} {K : σ → World → Prop} {St : σ → World → σ → World → Prop} {Rl : σ → σ → Prop} {enc : σ → List Value → Prop} {Dn : σ → Prop} (hF : Fs n a l) (hg : ov l g = some (.func (.func gf) #[] lb)) (hent : Enters P gf)
    (h0w : Below w0.heap.size w0 w) (hH : HandsX P gf lb w0 S K St Rl enc Dn) (hps : ∀ p ∈ ps, p < n) (hlen : ∀ s vs, enc s vs → vs.length = ps.length)
    (hSt : ∀ s W s' W', St s W s' W' → W.heap.size ≤ W'.heap.size ∧ ∀ k, (k = w.heap.size ∨ k = w.heap.size + 1) → k < W.heap.size → W'.heap[k]? = W.heap[k]?)
    (I : σ → World → Prop) (Ix : Code → World → Prop) (hIK : ∀ s W, I s W → K s W) (hIS : ∀ s W s' W', I s W → St s W s' W' → w.heap.size + 2 ≤ W.heap.size → I s' W') (hI : ∀ s W W', I s W → Below W.heap.size W W' → I s W') (hI2 : ∀ s W W', I s W → Only (w.heap.size + 1) W W' → I s W') (hIx : ∀ c W W', Ix c W → Below W.heap.size W W' → Ix c W') (hIx2 : ∀ c W W', Ix c W → Only (w.heap.size + 1) W W' → Ix c W') (s0 : σ) (hS0 : S s0) (h0 : I s0 w)
    (round : ∀ (L : Nat) s W a₁ vs, L = w.heap.size + 1 → enc s vs → I s W → w.heap.size + 2 ≤ W.heap.size → Below w0.heap.size w0 W → Fs n a₁ ((ps.zip vs).reverse ++ l) →
      ∀ K : Act → World → Prop, (∀ a₂ W₂, Below w0.heap.size W W₂ → Kd w.heap.size W W₂ → (∀ W₃, Only L W₂ W₃ → body.wpIn (Fw (some L)) 0 P (rndPostX w0.heap.size w.heap.size I Ix Rl s W₃) a₂ W₃) → K a₂ W₂) →
      assign.wpIn (Fw (some L)) 0 P (Exit.then K (fun _ _ _ => False)) a₁ W)
    (done : ∀ a' s W, Dn s → I s W → Below w0.heap.size w W → w.heap.size + 2 ≤ W.heap.size → W.heap[w.heap.size]? = some (.deferred (some [])) → Fs n a' l (ds := [{ target := .collected w.heap.size, args := #[] }]) → Q .normal a' W)
    (stop : ∀ a' c W, Ix c W → Below w0.heap.size w W → w.heap.size + 2 ≤ W.heap.size → W.heap[w.heap.size]? = some (.deferred (some [])) → Fs n a' l (ds := [{ target := .collected w.heap.size, args := #[] }]) → c.wp P Q a' W) :
    (Code.rangeFunc g ps.toArray assign body).wp P Q a w := by
  refine (wpIn_wide (n := 0)).1 (wpIn_rangeFunc ?_)
  intro fn hfn
  obtain ⟨rec, hrec⟩ : ∃ rec : LoopState → Option Code → Loop, rec = fun st pe => { state := st, pending := pe, fn, tmps := a.tmps, params := ps.toArray, assign, body, defers := w.heap.size } := ⟨_, rfl⟩
  obtain ⟨W1, hW1⟩ : ∃ W1, (w.alloc (.deferred (some []))).alloc (.loop (rec .ready none)) = W1 := ⟨_, rfl⟩
  have hL1 : W1.heap[w.heap.size + 1]? = some (.loop (rec .ready none)) := by
    rw [← hW1]; have := World.alloc_heap_new (w.alloc (.deferred (some []))) (.loop (rec .ready none)); rwa [World.size_alloc] at this
  have hK1 : W1.heap[w.heap.size]? = some (.deferred (some [])) := by
    rw [← hW1]; exact (Below.heap_alloc _ _ _ (by simp)).trans (World.alloc_heap_new w _)
  have hsz : W1.heap.size = w.heap.size + 2 := by rw [← hW1]; simp
  have hB1 : Below w.heap.size w W1 := by rw [← hW1]; exact ((Below.refl _ _).alloc (Nat.le_refl _) _).alloc (by simp) _
  have hlo : w0.heap.size ≤ w.heap.size := h0w.size
  let J : σ → World → Prop := fun s W => I s W ∧ w.heap.size + 2 ≤ W.heap.size ∧ W.heap[w.heap.size + 1]? = some (.loop (rec .ready none)) ∧ W.heap[w.heap.size]? = some (.deferred (some []))
  let Jx : World → Prop := fun W => ∃ c, Ix c W ∧ w.heap.size + 2 ≤ W.heap.size ∧ W.heap[w.heap.size + 1]? = some (.loop (rec .done (some c))) ∧ W.heap[w.heap.size]? = some (.deferred (some []))
  have hJ : ∀ s W s' W', J s W → St s W s' W' → J s' W' := fun s W s' W' h hs => ⟨hIS s W s' W' h.1 hs h.2.1, Nat.le_trans h.2.1 (hSt s W s' W' hs).1, ((hSt s W s' W' hs).2 _ (.inr rfl) (by have := h.2.1; omega)).trans h.2.2.1, ((hSt s W s' W' hs).2 _ (.inl rfl) (by have := h.2.1; omega)).trans h.2.2.2⟩
  have hJx : ∀ W W', Jx W → Below W.heap.size W W' → Jx W' := fun W W' ⟨c, h⟩ hB => ⟨c, hIx c W W' h.1 hB, Nat.le_trans h.2.1 hB.size, (hB.block _ (by have := h.2.1; omega)).trans h.2.2.1, (hB.block _ (by have := h.2.1; omega)).trans h.2.2.2⟩
  have hc := hH (w.heap.size + 1) J Jx (fun s W h => hIK s W h.1) hJ hJx (by
    rintro s W vs ⟨hi1, hWs, hl1, hd1⟩ hvs hW0
    have hlt : w.heap.size + 1 < W.heap.size := by omega
    have hy := run_yield (P := P) (args := vs.toArray) hl1 (by rw [hrec]; simp [hlen s vs hvs])
    rw [hrec] at hy
    refine ⟨fn, _, assign, body, hy, roundIn_wide' (n := 0) (roundIn_of_wpIn trivial ?_)⟩
    have hFa := fold_put hF ps vs hps
    have hz : (ps.toArray.zip vs.toArray) = (ps.zip vs).toArray := by simp
    rw [hz]
    simp only [List.foldl_toArray]
    refine round (w.heap.size + 1) s W _ vs rfl hvs hi1 hWs hW0 hFa _ ?_
    intro a₂ W₂ hBe hM hb
    have hl2 : W₂.heap[w.heap.size + 1]? = some (.loop (rec .ready none)) := hM.two.trans hl1
    have hd2 : W₂.heap[w.heap.size]? = some (.deferred (some [])) := hM.one.trans hd1
    have hlt2 : w.heap.size + 1 < W₂.heap.size := Nat.lt_of_lt_of_le hlt hM.size
    refine ⟨_, run_beginRound hl2 (by rw [hrec]), ?_⟩
    have ho3 := only_putObj (l := w.heap.size + 1) (w := W₂) (.loop { rec .ready none with state := .busy })
    have hl3 : (W₂.putObj (w.heap.size + 1) (.loop { rec .ready none with state := .busy })).heap[w.heap.size + 1]? = some (.loop { rec .ready none with state := .busy }) := World.putObj_heap_same hlt2
    refine wpIn_mono (hb _ ho3) ?_
    have fin : ∀ (jump : Option Code) (W4 : World), Below w0.heap.size (W₂.putObj (w.heap.size + 1) (.loop { rec .ready none with state := .busy })) W4 → Kd w.heap.size (W₂.putObj (w.heap.size + 1) (.loop { rec .ready none with state := .busy })) W4 →
        (Instr.endRound (w.heap.size + 1) jump).run P W4 = .ok (.bool jump.isNone) (W4.putObj (w.heap.size + 1) (.loop (rec (if jump.isNone then .ready else .done) jump))) ∧
        (W4.putObj (w.heap.size + 1) (.loop (rec (if jump.isNone then .ready else .done) jump))).heap[w.heap.size + 1]? = some (.loop (rec (if jump.isNone then .ready else .done) jump)) ∧
        (W4.putObj (w.heap.size + 1) (.loop (rec (if jump.isNone then .ready else .done) jump))).heap[w.heap.size]? = some (.deferred (some [])) ∧
        Below w0.heap.size W (W4.putObj (w.heap.size + 1) (.loop (rec (if jump.isNone then .ready else .done) jump))) := by
      intro jump W4 h4 hk4
      have hsz3 := ho3.size
      have hl4 := hk4.two.trans hl3
      have hd4 := hk4.one.trans ((ho3.block w.heap.size (by omega)).trans hd2)
      have hr := run_endRound (P := P) jump hl4
      refine ⟨?_, World.putObj_heap_same (Array.getElem?_eq_some_iff.1 hl4).1, (World.putObj_heap_other (by omega)).trans hd4, ?_⟩
      · rw [hrec] at hr ⊢; exact hr
      · exact ((hBe.trans (ho3.below (by omega))).trans h4).trans ((only_putObj _).below (by omega))
    rintro ex a3 W4 hp
    have sz4 : ∀ {W4 : World} o, w.heap.size + 2 ≤ W4.heap.size → w.heap.size + 2 ≤ (W4.putObj (w.heap.size + 1) o).heap.size := fun o h => by rw [(only_putObj o).size]; exact h
    have hs4 : ∀ {W4 : World}, Below w0.heap.size (W₂.putObj (w.heap.size + 1) (.loop { rec .ready none with state := .busy })) W4 → w.heap.size + 2 ≤ W4.heap.size := fun h => by
      have h1 := h.size
      have h2 := ho3.size
      omega
    cases ex with
    | normal =>
      obtain ⟨h4, hk4, s2, hr2, hi4⟩ := hp
      obtain ⟨hr, e1, e2, e3⟩ := fin none W4 h4 hk4
      exact ⟨_, _, hr, e3, .inl ⟨rfl, s2, hr2, hI2 _ _ _ hi4 (only_putObj _), sz4 _ (hs4 h4), e1, e2⟩⟩
    | ret =>
      obtain ⟨h4, hk4, hi4⟩ := hp
      obtain ⟨hr, e1, e2, e3⟩ := fin (some .ret) W4 h4 hk4
      exact ⟨_, _, hr, e3, .inr ⟨rfl, .ret, hIx2 _ _ _ hi4 (only_putObj _), sz4 _ (hs4 h4), e1, e2⟩⟩
    | exit id =>
      obtain ⟨h4, hk4, hi4⟩ := hp
      obtain ⟨hr, e1, e2, e3⟩ := fin (some (.exit id)) W4 h4 hk4
      exact ⟨_, _, hr, e3, .inr ⟨rfl, .exit id, hIx2 _ _ _ hi4 (only_putObj _), sz4 _ (hs4 h4), e1, e2⟩⟩
    | goto t =>
      obtain ⟨h4, hk4, hi4⟩ := hp
      obtain ⟨hr, e1, e2, e3⟩ := fin (some (.goto t)) W4 h4 hk4
      exact ⟨_, _, hr, e3, .inr ⟨rfl, .goto t, hIx2 _ _ _ hi4 (only_putObj _), sz4 _ (hs4 h4), e1, e2⟩⟩
    | panic ch => exact hp.elim
    | outgrown => exact hp.elim) s0 W1 hS0 ⟨hI _ _ _ h0 hB1, by omega, hL1, hK1⟩ (h0w.trans (hB1.mono hlo))
  have hpost : ∀ en W2, ((∃ v, en = .returned v) ∧ Below w0.heap.size W1 W2 ∧ ((∃ s', Dn s' ∧ J s' W2) ∨ Jx W2)) →
      rangePost Fence.wide 0 P (w.heap.size + 1) Q { a with defers := [{ target := .collected w.heap.size, args := #[] }] ++ a.defers } en W2 := by
    rintro en W2 ⟨⟨v, rfl⟩, hM, hend⟩
    have hM0 : Below w0.heap.size w W2 := (hB1.mono hlo).trans hM
    have hFs : Fs n { a with defers := [{ target := .collected w.heap.size, args := #[] }] ++ a.defers } l (ds := [{ target := .collected w.heap.size, args := #[] }]) := ⟨hF.size, by simp [hF.defers], hF.slot⟩
    have sz4 : ∀ {W4 : World} o, w.heap.size + 2 ≤ W4.heap.size → w.heap.size + 2 ≤ (W4.putObj (w.heap.size + 1) o).heap.size := fun o h => by rw [(only_putObj o).size]; exact h
    rcases hend with ⟨s2, hs2, hi2, hz2, hl2, hd2⟩ | ⟨c, hi2, hz2, hl2, hd2⟩
    · refine ⟨none, _, by have := run_endLoop (P := P) hl2 (by rw [hrec]; simp); rw [hrec] at this; exact this, ?_⟩
      exact done _ s2 _ hs2 (hI2 _ _ _ hi2 (only_putObj _)) (hM0.trans ((only_putObj _).below (by omega))) (sz4 _ hz2) ((World.putObj_heap_other (by omega)).trans hd2) hFs
    · refine ⟨some c, _, by have := run_endLoop (P := P) hl2 (by rw [hrec]; simp); rw [hrec] at this; exact this, ?_⟩
      exact (wpIn_wide (n := 0)).2 (stop _ c _ (hIx2 _ _ _ hi2 (only_putObj _)) (hM0.trans ((only_putObj _).below (by omega))) (sz4 _ hz2) ((World.putObj_heap_other (by omega)).trans hd2) hFs)
  refine ⟨w.heap.size + 1, [{ target := .collected w.heap.size, args := #[] }], W1, { target := .fn (.func gf) lb, args := #[.func (.yield (w.heap.size + 1)) #[] #[]] }, W1, gf,
    #[.func (.yield (w.heap.size + 1)) #[] #[]] ++ lb, W1, ?_, ?_, fun _ _ => trivial, ?_, (fun h => by simp [Fence.wide] at h), ?_⟩
  · rw [← hW1, hrec]; exact run_enterLoop_outer _ _ _ _ _
  · simp only [resolve, hF.ov hg]
    simp [go_sem]
  · simp [invoke, go_sem, hent _ _]
  · exact ((callsIn_wide (n := 0 - 1)).2 hc).mono hpost
/-! ### Three old blocks that may turn -/
structure K3 (a b c : Nat) (w w' : World) : Prop where
 os : w'.os = w.os
 tape : w'.tape = w.tape
 output : w'.output = w.output
 size : w.heap.size ≤ w'.heap.size
 block : ∀ k, k < w.heap.size → k ≠ a ∧ k ≠ b ∧ k ≠ c → w'.heap[k]? = w.heap[k]?
section
variable {a b c : Nat} {w w' w'' : World}
theorem K3.refl (a b c : Nat) (w : World) : K3 a b c w w := ⟨rfl, rfl, rfl, Nat.le_refl _, fun _ _ _ => rfl⟩
theorem K3.below (h : K3 a b c w w') (B : Below w'.heap.size w' w'') : K3 a b c w w'' :=
 ⟨B.os.trans h.os, B.tape.trans h.tape, B.output.trans h.output, Nat.le_trans h.size B.size, fun k hk hb => (B.block k (Nat.lt_of_lt_of_le hk h.size)).trans (h.block k hk hb)⟩
theorem K3.only {d : Nat} (h : K3 a b c w w') (o : Only d w' w'') (hc : d = a ∨ d = b ∨ d = c ∨ w.heap.size ≤ d) : K3 a b c w w'' :=
 ⟨o.os.trans h.os, o.tape.trans h.tape, o.output.trans h.output, by rw [o.size]; exact h.size, fun k hk hb => (o.block k (by omega)).trans (h.block k hk hb)⟩
theorem K3.trans {d e : Nat} (h : K3 a b c w w') (h' : Ktw d e w' w'') (hc : (d = a ∨ d = b ∨ d = c ∨ w.heap.size ≤ d) ∧ (e = a ∨ e = b ∨ e = c ∨ w.heap.size ≤ e)) : K3 a b c w w'' :=
 ⟨h'.os.trans h.os, h'.tape.trans h.tape, h'.output.trans h.output, Nat.le_trans h.size h'.size, fun k hk hb => (h'.block k (Nat.lt_of_lt_of_le hk h.size) (by omega)).trans (h.block k hk hb)⟩
theorem K3.under {w0 : World} (h : K3 a b c w w') (h0 : Below w0.heap.size w0 w) (hb : w0.heap.size ≤ a ∧ w0.heap.size ≤ b ∧ w0.heap.size ≤ c) : Below w0.heap.size w0 w' :=
 h0.trans ⟨h.os, h.tape, h.output, h.size, fun k hk => h.block k (Nat.lt_of_lt_of_le hk h0.size) (by omega)⟩
theorem Blk.k3 {d t : Nat} {cs : List Value} (m : Blk w d t cs) (h : K3 a b c w w') (hb : d ≠ a ∧ d ≠ b ∧ d ≠ c) : Blk w' d t cs := (h.block d m.lt hb).trans m
end
section
variable {r : Option Nat} {m : Nat} {P : Program} {ops : Array Oper} {N : Nat} {a : Act} {w : World}
end
end Go.Proofs.Ytmkjhdiepkpdoaa

namespace Go.Proofs.Ytmkjhdiepkpdoaa
open Go.RowKit Go.Shelf
set_option linter.unusedVariables false
set_option linter.unusedSimpArgs false
/-- As wpAnyH; S is asked for until number e has come up. -/
def wpAnyL (P : Program) (md : Region.Mode) (ops : Array Oper) (Q : Exit → Act → World → Prop) (S : World → Prop) (e : Nat) : Nat → Array Bool → Act → World → Prop
 | 0, listed, a, w => Region.ready md ops listed = [] ∧ Q .normal a w
 | fuel + 1, listed, a, w =>
  (Region.ready md ops listed = [] → Q .normal a w) ∧
  ∀ i ∈ Region.ready md ops listed, wpOp P ops Q i (fun a' w' => ((listed.setIfInBounds i true).getD e true = false → S w') ∧ wpAnyL P md ops Q S e fuel (listed.setIfInBounds i true) a' w') a w
section
variable {P : Program} {ops : Array Oper} {Q : Exit → Act → World → Prop} {md : Region.Mode} {S : World → Prop} {e : Nat}
theorem wpAny_of_L : ∀ (fuel : Nat) (listed : Array Bool) (a : Act) (w : World), wpAnyL P md ops Q S e fuel listed a w → wpAny P md ops Q fuel listed a w
 | 0, _, _, _, h => h
 | fuel + 1, _, _, _, h => ⟨h.1, fun i hi => wpOp_mono (fun a' w' h' => wpAny_of_L fuel _ a' w' h'.2) (h.2 i hi)⟩
theorem wpAnyL_first {i : Nat} {oi : Oper} {v : Value} {S' : World → Prop} {T : Array Bool → Prop} (hi : ops[i]? = some oi) (hsel : ∀ (j : Nat) (o : Oper) cs b, ops[j]? = some o → o.op ≠ .select cs b)
    (hQ : ∀ c a w, Q (.panic c) (a.put oi.dst v) w → Q (.panic c) a w) (hie : i ≠ e) (hTS : ∀ l w, T l → (l.getD e true = false → S w) → S' w)
    (hT : ∀ (l : Array Bool) j, T l → l.getD i true = false → j ∈ Region.ready md ops l → j ≠ i → T (l.setIfInBounds j true)) :
    ∀ (fuel : Nat) (listed : Array Bool) (a : Act) (w : World), T listed →
      (∀ j oj, ops[j]? = some oj → j ≠ i → listed.getD j true = false → (∀ e ∈ oj.after, Region.binds md e = true → e.on ≠ i) → oi.apart ops oj = true) →
      i ∈ Region.ready md ops listed → YieldsIf P ops S' oi v a → (listed.getD e true = false → S w) →
      wpAnyL P md ops Q S e fuel (listed.setIfInBounds i true) (a.put oi.dst v) w → wpAnyL P md ops Q S e (fuel + 1) listed a w := by
  intro fuel
  induction fuel with
  | zero =>
    intro listed a w hTl _ hr hy hS H
    refine ⟨fun h => (by rw [h] at hr; cases hr), fun j hj => ?_⟩
    by_cases hji : j = i
    · subst hji; exact hy.wpOp hi (hTS _ _ hTl hS) ⟨fun h => hS (by rwa [getD_set_ne true hie] at h), H⟩
    · have := ready_mono hj hji
      rw [H.1] at this
      cases this
  | succ fuel ih =>
    intro listed a w hTl hfree hr hy hS H
    refine ⟨fun h => (by rw [h] at hr; cases hr), fun j hj => ?_⟩
    by_cases hji : j = i
    · subst hji; exact hy.wpOp hi (hTS _ _ hTl hS) ⟨fun h => hS (by rwa [getD_set_ne true hie] at h), H⟩
    · have h1 := H.2 j (ready_mono hj hji)
      obtain ⟨hjun, oj, hoj, hall⟩ := mem_ready.1 hj
      have hnot : ∀ e ∈ oj.after, Region.binds md e = true → e.on ≠ i := fun e he hb heq => by
        have h1 := hall e he hb
        have h0 := (mem_ready.1 hr).1
        rw [heq] at h1
        rcases Nat.lt_or_ge i listed.size with h' | h'
        · simp [h'] at h0 h1; rw [h0] at h1; cases h1
        · simp [Array.getElem?_eq_none h'] at h1
      have h2 := wpOp_putIf hoj (hfree j oj hoj hji hjun hnot) (fun cs b => hsel i oi cs b hi) (fun cs b => hsel j oj cs b hoj) hQ hy h1
      have hfree' : ∀ k ok, ops[k]? = some ok → k ≠ i → (listed.setIfInBounds j true).getD k true = false →
          (∀ e ∈ ok.after, Region.binds md e = true → e.on ≠ i) → oi.apart ops ok = true := fun k ok hk hki hun hno => by
        refine hfree k ok hk hki ?_ hno
        by_cases hjk : j = k
        · subst hjk; exact hjun
        · rw [getD_set_ne true hjk] at hun; exact hun
      have hsw : ∀ h : (listed.setIfInBounds j true).getD e true = false, ((listed.setIfInBounds i true).setIfInBounds j true).getD e true = false := fun h => by
        rw [Array.setIfInBounds_comm _ _ (Ne.symm hji), getD_set_ne true hie]; exact h
      refine wpOp_mono (fun a' w' h3 => ⟨fun h => h3.2.1 (hsw h), ih (listed.setIfInBounds j true) a' w' (hT _ _ hTl (mem_ready.1 hr).1 hj hji) hfree' (ready_mono hr (Ne.symm hji)) h3.1 (fun h => h3.2.1 (hsw h)) ?_⟩) h2
      rw [Array.setIfInBounds_comm _ _ hji]
      exact h3.2.2
theorem wpAnyL_all {rs : List Nat} {fuel : Nat} {listed : Array Bool} {a : Act} {w : World} (hr : Region.ready md ops listed = rs) (hne : rs ≠ [])
    (h : ∀ i ∈ rs, wpOp P ops Q i (fun a' w' => ((listed.setIfInBounds i true).getD e true = false → S w') ∧ wpAnyL P md ops Q S e fuel (listed.setIfInBounds i true) a' w') a w) : wpAnyL P md ops Q S e (fuel + 1) listed a w :=
  ⟨fun h0 => absurd (hr ▸ h0) hne, hr ▸ h⟩
theorem wpAnyL_done {listed : Array Bool} {a : Act} {w : World} (hr : Region.ready md ops listed = []) (h : Q .normal a w) :
    ∀ fuel, wpAnyL P md ops Q S e fuel listed a w
  | 0 => ⟨hr, h⟩
  | _ + 1 => ⟨fun _ => h, by rw [hr]; simp⟩
end
/-- Number e waits for number i. -/
def waitsB (ops : Array Oper) (e i : Nat) : Bool := match ops[e]? with
 | some o => o.after.any (fun x => Region.binds .any x && Nat.beq x.on i)
 | none => false
theorem not_lst {N : Nat} {d : List Nat} {e : Nat} (h : (lst N d).getD e true = true) {p : Prop} (h2 : (lst N d).getD e true = false) : p := by
 rw [h] at h2; cases h2
section
variable {P : Program} {ops : Array Oper} {K : Act → World → Prop} {S : World → Prop} {N n : Nat} {done : List Nat} {fuel e : Nat} {a : Act} {w : World} {l : List (Nat × Value)}
/-- What reads memory, while S holds; e waits for it. -/
theorem dl_val {ds : List Deferred} (i d : Nat) {op : Op} {v : Value} (hF : Fs n a l (ds := ds)) (hS : S w) (hop : lookG ops i = some (some d, op, none)) (hr : ∀ W, S W → Runs P n l W op v) (hok : okTake ops (lst N done) i = true) (hw : (waitsB ops e i && (! (lst N done).getD e true) && ! Nat.beq i e) = true) (hd : d < n)
    (h : ∀ a', Fs n a' ((d, v) :: l) (ds := ds) → wpAnyL P .any ops (QN K) S e fuel (lst N (i :: done)) a' w) : wpAnyL P .any ops (QN K) S e (fuel + 1) (lst N done) a w := by
  obtain ⟨o, ho, hdst, hopp, hgu⟩ := lookG_some hop
  simp only [okTake, Bool.and_eq_true] at hok
  simp only [Bool.and_eq_true, Bool.not_eq_true'] at hw
  obtain ⟨⟨hw1, hw2⟩, hw3⟩ := hw
  have hie : i ≠ e := Nat.ne_of_beq_eq_false hw3
  refine wpAnyL_first (S' := S) (T := fun l => l.getD e true = false) ho (Region.noSelect_spec hok.1.1) (fun _ _ _ h => h) hie (fun l w h1 h2 => h2 h1) (fun l j h1 h2 hj hji => ?_) fuel _ a w hw2 (Region.free_spec ho hok.1.2) (by simpa using hok.2) (.inl ⟨wanted_none o hgu _, fun W hW => hr W hW _ a hF o hopp⟩) (fun _ => hS) ?_
  · have hje : j ≠ e := by
      rintro rfl
      obtain ⟨_, oj, hoj, hall⟩ := mem_ready.1 hj
      simp only [waitsB, hoj] at hw1
      rw [Array.any_eq_true] at hw1
      obtain ⟨q, hq, hb⟩ := hw1
      simp only [Bool.and_eq_true] at hb
      have := hall _ (Array.getElem_mem hq) hb.1
      rw [Nat.eq_of_beq_eq_true hb.2] at this
      rcases Nat.lt_or_ge i l.size with h' | h'
      · simp [h'] at h2 this; rw [h2] at this; cases this
      · simp [Array.getElem?_eq_none h'] at this
    rw [getD_set_ne true hje]; exact h1
  · rw [hdst]
    exact h _ (hF.put d hd v)
/-- What reads none. -/
theorem dl_vala {ds : List Deferred} (i d : Nat) {op : Op} {v : Value} (hF : Fs n a l (ds := ds)) (hS : (lst N done).getD e true = false → S w) (hop : lookG ops i = some (some d, op, none)) (hr : ∀ W, Runs P n l W op v) (hok : okTake ops (lst N done) i = true) (hw : (! Nat.beq i e) = true) (hd : d < n)
    (h : ∀ a', Fs n a' ((d, v) :: l) (ds := ds) → wpAnyL P .any ops (QN K) S e fuel (lst N (i :: done)) a' w) : wpAnyL P .any ops (QN K) S e (fuel + 1) (lst N done) a w := by
  obtain ⟨o, ho, hdst, hopp, hgu⟩ := lookG_some hop
  simp only [okTake, Bool.and_eq_true] at hok
  simp only [Bool.not_eq_true'] at hw
  have hie : i ≠ e := Nat.ne_of_beq_eq_false hw
  refine wpAnyL_first (S' := fun _ => True) (T := fun _ => True) ho (Region.noSelect_spec hok.1.1) (fun _ _ _ h => h) hie (fun l w h1 h2 => trivial) (fun l j h1 h2 hj hji => trivial) fuel _ a w trivial (Region.free_spec ho hok.1.2) (by simpa using hok.2) (.inl ⟨wanted_none o hgu _, fun W _ => hr W _ a hF o hopp⟩) hS ?_
  rw [hdst]
  exact h _ (hF.put d hd v)
theorem dl_one (i : Nat) (d : Option Tmp) (op : Op) (ho : (ops[i]?).map (fun o => (o.dst, o.op, o.guard)) = some (d, op, none)) (hr : Region.ready .any ops (lst N done) = [i])
    (h : ∀ ty pos af, wpList P ops (QN fun a' w' => ((lst N (i :: done)).getD e true = false → S w') ∧ wpAnyL P .any ops (QN K) S e fuel (lst N (i :: done)) a' w') [⟨d, op, ty, pos, af, none⟩] a w) : wpAnyL P .any ops (QN K) S e (fuel + 1) (lst N done) a w := by
  refine wpAnyL_all hr (by simp) (fun j hj => ?_)
  simp at hj
  subst hj
  exact d_op j d op ho h
theorem dl_two (i j : Nat) (hr : Region.ready .any ops (lst N done) = [i, j])
    (h1 : wpOp P ops (QN K) i (fun a' w' => ((lst N (i :: done)).getD e true = false → S w') ∧ wpAnyL P .any ops (QN K) S e fuel (lst N (i :: done)) a' w') a w)
    (h2 : wpOp P ops (QN K) j (fun a' w' => ((lst N (j :: done)).getD e true = false → S w') ∧ wpAnyL P .any ops (QN K) S e fuel (lst N (j :: done)) a' w') a w) : wpAnyL P .any ops (QN K) S e (fuel + 1) (lst N done) a w := by
  refine wpAnyL_all hr (by simp) (fun m hm => ?_)
  simp at hm
  rcases hm with rfl | rfl
  · exact h1
  · exact h2
theorem dl_end (hr : Region.ready .any ops (lst N done) = []) (h : K a w) : wpAnyL P .any ops (QN K) S e fuel (lst N done) a w := wpAnyL_done hr h _
variable {r : Option Nat} {m : Nat}
theorem dli_start {id : Nat} {ops0 : Array Oper} {Q : Exit → Act → World → Prop} (S : World → Prop) (e : Nat) (ho : ops = ops0) (hn : ops.all noDefer = true) (hm : P.follows .mixedOrders = true) (hN : ops.size = N)
    (h : ∀ K : Act → World → Prop, (∀ a w, Q .normal a w → K a w) → wpAnyL P .any ops (QN K) S e N (lst N []) a w.drew) : (Code.region id ops0 true).wpIn (Fw r) m P Q a w := by
  subst ho
  subst hN
  refine wpIn_mono (Q := QN fun a w => Q .normal a w) (wpIn_region_draw fun t => ?_) (fun e a w h => by cases e <;> first | exact h | exact (h : False).elim)
  simp only [Region.schedule, hm, Bool.true_or, if_true]
  exact opsIn (fun _ _ _ h => h) (fun _ _ h => h) hn _ _ _ (wpAny_sound _ t _ a _ (wpAny_of_L _ _ _ _ (h _ fun _ _ h => h)))
theorem dli_region {id : Nat} {ops0 : Array Oper} {Q : Exit → Act → World → Prop} (b c e : Nat) (ho : ops = ops0) (hm : P.follows .mixedOrders = true) (hN : ops.size = N)
    (h : ∀ wd, wd.heap = w.heap → Below w.heap.size w wd → Ktw b c wd wd → ∀ K : Act → World → Prop, (∀ a w, Q .normal a w → K a w) → wpAnyL P .any ops (QN K) (Ktw b c wd) e N (lst N []) a wd) (hn : ops.all noDefer = true := by kernel_rfl) : (Code.region id ops0 true).wpIn (Fw r) m P Q a w :=
  dli_start (Ktw b c w.drew) e ho hn hm hN (h w.drew rfl (drawn_below w) (Ktw.refl b c _))
end
end Go.Proofs.Ytmkjhdiepkpdoaa
