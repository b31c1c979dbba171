/- How great terms are, and would be. -/
import Derived.Test.YtbhhbfdoadecgaaTerm10
import Derived.Test.YtbhhbfdoadecgaaLevD
namespace Go.Proofs.Ytbhhbfdoadecgaa
set_option maxRecDepth 100000
set_option maxHeartbeats 1600000
open Go.RowKit Go.Shelf
set_option linter.unusedVariables false
set_option linter.unusedSimpArgs false
theorem RC.bel {w0 w : World} {c : CT} {x : C8} (h : RC w0 (fun k => k < w0.heap.size) c x) (hB : Below w0.heap.size w0 w) : RC w (fun k => k < w.heap.size) c x :=
 (h.keep hB.size (fun k hk _ => hB.block k hk)).mono (fun k hk => by have := hB.size; omega)
theorem bnd2_0 (k : Int) (a b : CT) (m : Nat) : (CT.two k a b m).bnd 0 = 0 := by simp [CT.bnd]
theorem bnd2_1 (k : Int) (a b : CT) (m : Nat) : (CT.two k a b m).bnd 1 = if k = 3 ∨ k = 4 then 1 else 0 := by simp [CT.bnd]
theorem bnd3_0 (a b c : CT) (m : Nat) : (CT.lt a b c m).bnd 0 = 0 := by simp [CT.bnd]
theorem bnd3_1 (a b c : CT) (m : Nat) : (CT.lt a b c m).bnd 1 = 0 := by simp [CT.bnd]
theorem bnd3_2 (a b c : CT) (m : Nat) : (CT.lt a b c m).bnd 2 = 1 := by simp [CT.bnd]
theorem PT.size_pos (p : PT) : 0 < p.size := by cases p <;> simp [PT.size]
theorem PT.dep_pos (p : PT) : 0 < p.dep := by cases p <;> simp [PT.dep]
theorem PT.lift_size (f b : Int) : ∀ (p : PT) (d : Int), (p.lift f b d).size = p.size ∧ (p.lift f b d).dep = p.dep
 | .two k p q, d => by simp [PT.lift, PT.size, PT.dep, PT.lift_size f b p, PT.lift_size f b q]
 | .lt p q r, d => by simp [PT.lift, PT.size, PT.dep, PT.lift_size f b p, PT.lift_size f b q, PT.lift_size f b r]
 | .var .., d => ⟨rfl, rfl⟩
 | .sort .., d => ⟨rfl, rfl⟩
 | .cst .., d => ⟨rfl, rfl⟩
 | .odd .., d => ⟨rfl, rfl⟩
theorem put_size (v : PT) : ∀ (c : CT) (d : Int), ((PT.put v c.ess d).size : Int) = c.size + (c.fold Gpl d).1 * ((v.size : Int) - 1)
 | .two k a b m, d => by
  have ha := put_size v a (d + (CT.two k a b m).bnd 0)
  have hb := put_size v b (d + (CT.two k a b m).bnd 1)
  simp only [bnd2_0, bnd2_1, Int.add_zero] at ha hb
  simp only [CT.ess, PT.put, PT.size, CT.size, CT.fold, Gpl, CT.isV, List.foldl_cons, List.foldl_nil, plc, bnd2_0, bnd2_1, bnd3_0, bnd3_1, bnd3_2]
  simp only [Bool.false_eq_true, if_false, Int.add_zero, Int.zero_add]
  rw [Int.add_mul]
  omega
 | .lt a b c m, d => by
  have ha := put_size v a (d + (CT.lt a b c m).bnd 0)
  have hb := put_size v b (d + (CT.lt a b c m).bnd 1)
  have hc := put_size v c (d + (CT.lt a b c m).bnd 2)
  simp only [bnd3_0, bnd3_1, bnd3_2, Int.add_zero] at ha hb hc
  simp only [CT.ess, PT.put, PT.size, CT.size, CT.fold, Gpl, CT.isV, List.foldl_cons, List.foldl_nil, plc, bnd2_0, bnd2_1, bnd3_0, bnd3_1, bnd3_2]
  simp only [Bool.false_eq_true, if_false, Int.add_zero, Int.zero_add]
  rw [Int.add_mul, Int.add_mul]
  omega
 | .var n m, d => by
  simp only [CT.ess, PT.put, CT.fold, Gpl, CT.isV, CT.size, List.foldl_nil, decide_eq_true_eq]
  split
  ·
   rw [(v.lift_size 0 d 0).1]; omega
  ·
   simp [PT.size]
 | .sort n m, d => by simp [CT.ess, PT.put, CT.fold, Gpl, CT.isV, CT.size, PT.size]
 | .cst s n m, d => by simp [CT.ess, PT.put, CT.fold, Gpl, CT.isV, CT.size, PT.size]
 | .odd n m, d => by simp [CT.ess, PT.put, CT.fold, Gpl, CT.isV, CT.size, PT.size]
theorem put_dep (v : PT) : ∀ (c : CT) (d : Int), ((PT.put v c.ess d).dep : Int) = max (c.dep : Int) (if 0 < (c.fold Gpl d).1 then (c.fold Gpl d).2 + v.dep - 1 else 0)
 | .two k a b m, d => by
  have ha := put_dep v a (d + (CT.two k a b m).bnd 0)
  have hb := put_dep v b (d + (CT.two k a b m).bnd 1)
  have ga := Gpl_rng a (d + (CT.two k a b m).bnd 0)
  have gb := Gpl_rng b (d + (CT.two k a b m).bnd 1)
  have := v.dep_pos
  simp only [bnd2_0, bnd2_1, Int.add_zero] at ha hb ga gb
  simp only [CT.ess, PT.put, PT.dep, CT.dep, CT.fold, Gpl, CT.isV, List.foldl_cons, List.foldl_nil, plc, bnd2_0, bnd2_1, bnd3_0, bnd3_1, bnd3_2]
  simp only [Bool.false_eq_true, if_false, Int.add_zero, Int.zero_add]
  generalize CT.fold Gpl a d = fa at *
  generalize CT.fold Gpl b (d + if k = 3 ∨ k = 4 then 1 else 0) = fb at *
  generalize (PT.put v a.ess d).dep = pa at *
  generalize (PT.put v b.ess (d + if k = 3 ∨ k = 4 then 1 else 0)).dep = pb at *
  have hs : 0 < fa.1 + fb.1 ↔ 0 < fa.1 ∨ 0 < fb.1 := by omega
  simp only [hs]
  by_cases h1 : 0 < fa.1 <;> by_cases h2 : 0 < fb.1 <;> simp only [h1, h2, if_true, if_false, true_or, or_true, or_self] at ha hb ⊢ <;> omega
 | .lt a b c m, d => by
  have ha := put_dep v a (d + (CT.lt a b c m).bnd 0)
  have hb := put_dep v b (d + (CT.lt a b c m).bnd 1)
  have hc := put_dep v c (d + (CT.lt a b c m).bnd 2)
  have ga := Gpl_rng a (d + (CT.lt a b c m).bnd 0)
  have gb := Gpl_rng b (d + (CT.lt a b c m).bnd 1)
  have gc := Gpl_rng c (d + (CT.lt a b c m).bnd 2)
  have := v.dep_pos
  simp only [bnd3_0, bnd3_1, bnd3_2, Int.add_zero] at ha hb hc ga gb gc
  simp only [CT.ess, PT.put, PT.dep, CT.dep, CT.fold, Gpl, CT.isV, List.foldl_cons, List.foldl_nil, plc, bnd2_0, bnd2_1, bnd3_0, bnd3_1, bnd3_2]
  simp only [Bool.false_eq_true, if_false, Int.add_zero, Int.zero_add]
  generalize CT.fold Gpl a d = fa at *
  generalize CT.fold Gpl b d = fb at *
  generalize CT.fold Gpl c (d + 1) = fc at *
  generalize (PT.put v a.ess d).dep = pa at *
  generalize (PT.put v b.ess d).dep = pb at *
  generalize (PT.put v c.ess (d + 1)).dep = pc at *
  have hs : 0 < fa.1 + fb.1 + fc.1 ↔ (0 < fa.1 ∨ 0 < fb.1) ∨ 0 < fc.1 := by omega
  simp only [hs]
  by_cases h1 : 0 < fa.1 <;> by_cases h2 : 0 < fb.1 <;> by_cases h3 : 0 < fc.1 <;> simp only [h1, h2, h3, if_true, if_false, true_or, or_true, or_self] at ha hb hc ⊢ <;> omega
 | .var n m, d => by
  have := v.dep_pos
  simp only [CT.ess, PT.put, CT.fold, Gpl, CT.isV, CT.dep, List.foldl_nil, decide_eq_true_eq]
  split
  ·
   rw [(v.lift_size 0 d 0).2]; simp; omega
  ·
   simp [PT.dep]; omega
 | .sort n m, d => by simp [CT.ess, PT.put, CT.fold, Gpl, CT.isV, CT.dep, PT.dep]; omega
 | .cst s n m, d => by simp [CT.ess, PT.put, CT.fold, Gpl, CT.isV, CT.dep, PT.dep]; omega
 | .odd n m, d => by simp [CT.ess, PT.put, CT.fold, Gpl, CT.isV, CT.dep, PT.dep]; omega
def PT.ok (p : PT) : Prop := p.size ≤ 20000 ∧ p.dep ≤ 2000
instance (p : PT) : Decidable p.ok := inferInstanceAs (Decidable (_ ∧ _))
theorem CT.ok_ess (c : CT) : c.ess.ok ↔ c.ok := by unfold PT.ok CT.ok; rw [c.ess_size, c.ess_dep]
/-- What it is asked ahead of putting in. -/
def holdsP (n dp vn vd cnt pd : Int) : Prop := n + cnt * (vn - 1) ≤ 20000 ∧ (if 0 < cnt then max dp (pd + vd - 1) else dp) ≤ 2000
instance (n dp vn vd cnt pd : Int) : Decidable (holdsP n dp vn vd cnt pd) := inferInstanceAs (Decidable (_ ∧ _))
theorem holdsP_iff {c v : CT} : holdsP c.size c.dep v.size v.dep (c.fold Gpl 0).1 (c.fold Gpl 0).2 ↔ (PT.put v.ess c.ess 0).ok := by
 have h1 := put_size v.ess c 0
 have h2 := put_dep v.ess c 0
 have h3 := c.dep_pos
 rw [v.ess_size] at h1
 rw [v.ess_dep] at h2
 unfold holdsP PT.ok
 by_cases h : 0 < (c.fold Gpl 0).1 <;> simp only [h, if_true, if_false] at h2 ⊢ <;> omega
theorem placesOf84 (c : CT) (x : C8) (w0 : World) (hx : RC w0 (fun k => k < w0.heap.size) c x) (hok : c.ok) : Calls Try.prog 58 #[tv x] w0 fun e w' => e = .returned (.agg (enc2 (c.fold Gpl 0)).toArray) ∧ Below w0.heap.size w0 w' := by
 have hB := Below.refl w0.heap.size w0
 have sB := hB.size
 refine calls_fs 5 [(0, tv x)] Try.func58 rfl rfl rfl rfl rfl fun a F => ?_
 refine wp_rs fun _ K1 => ?_
 refine s_box (tc x) F (by decide) rfl rfl fun w2 b1 a eb1 m1 B3 zb1 F => ?_
 have sB3 := B3.size
 have hB := bt hB B3
 refine s_alloc F (by decide) zero93 fun w4 b2 a eb2 m2 B5 zb2 F => ?_
 have sB5 := B5.size
 have hB := bt hB B5
 have m1 := m1.old B5
 refine s_end (K1 _ _ ?_)
 refine wp_rs fun _ K2 => F.vl (x_ldW wide27 m1 rfl rfl) fun a F => ?_
 refine s_callB [_, _, _] F E96 rfl (by decide) (fold119 w4 97 [] E97 2000 (by decide) 20000 Gpl _ rfl (fun W c x d kv h1 h2 h3 h4 h5 h6 => clo120 w4 20000 (by decide) 2000 (by decide) W c x d kv h1 h2 h3 h4 h5 h6) (c.size + 1) c x 0 w4 (by omega) hok.1 (hx.bel hB) (by decide) (by have := hok.2; omega) (Below.refl _ _)) fun w6 a B7 F => ?_
 have sB7 := B7.size
 have hB := bt hB B7
 have m2 := m2.old B7
 refine s_putW F rfl rfl (size_wide wide93) m2 rfl (oneII _ _) fun w10 m2 o11 => ?_
 have so11 := o11.size
 have hB := hB.trans (o11.below (by omega))
 refine s_end (K2 _ _ ?_)
 refine wp_ret (res_cell (cs := enc2 _) F rfl rfl m2 wide93 ⟨rfl, hB⟩)
theorem holds83 (n dp vn vd cnt pd : Int) (w0 : World) (h1 : 0 ≤ n ∧ n ≤ 20000) (h2 : 0 ≤ dp ∧ dp ≤ 20000) (h3 : 0 ≤ vn ∧ vn ≤ 20000) (h4 : 0 ≤ vd ∧ vd ≤ 20000) (h5 : 0 ≤ cnt ∧ cnt ≤ 20000) (h6 : 0 ≤ pd ∧ pd ≤ 20000) :
    Calls Try.prog 57 #[.agg [.int .i64 n, .int .i64 dp].toArray, .agg [.int .i64 vn, .int .i64 vd].toArray, .agg (enc2 (cnt, pd)).toArray] w0 fun e w' => e = .returned (.bool (decide (holdsP n dp vn vd cnt pd))) ∧ Below w0.heap.size w0 w' := by
  have hm : -20000 ≤ cnt * (vn - 1) ∧ cnt * (vn - 1) ≤ 400000000 := by
    have a1 : cnt * (vn - 1) ≤ 20000 * 20000 := by
      rcases Int.lt_or_le vn 1 with h | h
      · have : cnt * (vn - 1) ≤ 0 := Int.mul_nonpos_of_nonneg_of_nonpos h5.1 (by omega); omega
      · exact Int.mul_le_mul (by omega) (by omega) (by omega) (by omega)
    have a2 : cnt * vn ≥ 0 := Int.mul_nonneg h5.1 h3.1
    have a3 : cnt * (vn - 1) = cnt * vn - cnt := by rw [Int.mul_sub, Int.mul_one]
    omega
  have hB := Below.refl w0.heap.size w0
  have sB := hB.size
  refine calls_fs 35 [(0, .agg [.int .i64 n, .int .i64 dp].toArray), (1, .agg [.int .i64 vn, .int .i64 vd].toArray), (2, .agg (enc2 (cnt, pd)).toArray)] Try.func57 rfl rfl rfl rfl rfl fun a F => ?_
  refine wp_rs fun _ K1 => ?_
  refine s_box ([.int .i64 n, .int .i64 dp]) F (by decide) rfl rfl fun w2 b3 a eb3 m3 B3 zb3 F => ?_
  have sB3 := B3.size
  have hB := bt hB B3
  refine s_box ([.int .i64 vn, .int .i64 vd]) F (by decide) rfl rfl fun w4 b4 a eb4 m4 B5 zb4 F => ?_
  have sB5 := B5.size
  have hB := bt hB B5
  have m3 := m3.old B5
  refine s_box ([.int .i64 cnt, .int .i64 pd]) F (by decide) rfl rfl fun w6 b5 a eb5 m5 B7 zb5 F => ?_
  have sB7 := B7.size
  have hB := bt hB B7
  have m3 := m3.old B7
  have m4 := m4.old B7
  refine F.sg rfl fun a F => ?_
  refine s_end (K1 _ _ ?_)
  refine wp_rs fun _ K2 => F.vl (x_fa0 fa70_0 rfl) fun a F => F.ld m3 flat3 rfl rfl fun a F => F.vl (x_fa0 fa93_0 rfl) fun a F => F.ld m5 flat3 rfl rfl fun a F => F.vl (x_fa0 fa70_0 rfl) fun a F => F.ld m4 flat3 rfl rfl fun a F => F.vl (x_sub (by omega) (by omega) rfl rfl) fun a F => F.vl (x_mul (by omega) (by omega) rfl rfl) fun a F => F.vl (x_add (by omega) (by omega) rfl rfl) fun a F => F.vl (x_fa0 fa70_1 rfl) fun a F => F.ld m3 flat3 rfl rfl fun a F => F.vl (x_build (vs := [(0, _), (1, _)]) rfl (b70_01 _ _ _)) fun a F => ?_
  refine s_alloc F (by decide) zero70 fun w8 b7 a eb7 m7 B9 zb7 F => ?_
  have sB9 := B9.size
  have hB := bt hB B9
  have m3 := m3.old B9
  have m4 := m4.old B9
  have m5 := m5.old B9
  refine s_putW F rfl rfl (size_wide wide70) m7 rfl (oneII _ _) fun w12 m7 o13 => ?_
  have so13 := o13.size
  have hB := hB.trans (o13.below (by omega))
  have m3 := m3.only o13 (by omega)
  have m4 := m4.only o13 (by omega)
  have m5 := m5.only o13 (by omega)
  refine s_end (K2 _ _ ?_)
  refine wp_seq_k fun _ K3 => ?_
  rcases (show 0 < cnt ∨ ¬ 0 < cnt by omega) with hk | hk
  · have hif : (if 0 < cnt then max dp (pd + vd - 1) else dp) = max dp (pd + vd - 1) := if_pos hk
    refine wp_rs fun _ K5 => F.vl (x_fa0 fa93_0 rfl) fun a F => F.ld m5 flat3 rfl rfl fun a F => F.vl (gtrT (by omega) rfl rfl) fun a F => ?_
    refine s_end (K5 _ _ ?_)
    refine wp_if F rfl ?_
    refine wp_region_lit ?_
    refine F.vl (x_fa0 fa70_1 rfl) fun a F => F.ld m3 flat3 rfl rfl fun a F => F.vl (x_fa0 fa93_1 rfl) fun a F => F.ld m5 flat3 rfl rfl fun a F => F.vl (x_fa0 fa70_1 rfl) fun a F => F.ld m4 flat3 rfl rfl fun a F => F.vl (x_add (by omega) (by omega) rfl rfl) fun a F => F.vl (x_sub (by omega) (by omega) rfl rfl) fun a F => F.vl (x_imax rfl rfl) fun a F => F.vl (x_fa0 fa70_1 rfl) fun a F => ?_
    refine s_put F rfl rfl flat3 m7 (by first | (simp; done) | (simp [tc, lc]; done) | decide) rfl fun w14 m7 o15 => ?_
    have so15 := o15.size
    have hB := hB.trans (o15.below (by omega))
    refine s_end (K3 _ _ ?_)
    refine wp_rs fun _ K6 => F.vl (x_ldW wide70 m7 rfl rfl) fun a F => ?_
    refine s_callB [_] F E93 rfl (by decide) (isIn105 _ _ w14) fun w16 a B17 F => ?_
    have sB17 := B17.size
    have hB := bt hB B17
    refine F.sg rfl fun a F => ?_
    refine s_end (K6 _ _ ?_)
    refine wp_ret (res_slot F rfl rfl ⟨congrArg (fun b => Ending.returned (Value.bool b)) (decide_eq_decide.2 (by unfold holdsP; rw [hif])), hB⟩)
  · have hif : (if 0 < cnt then max dp (pd + vd - 1) else dp) = dp := if_neg hk
    refine wp_rs fun _ K7 => F.vl (x_fa0 fa93_0 rfl) fun a F => F.ld m5 flat3 rfl rfl fun a F => F.vl (gtrF (by omega) rfl rfl) fun a F => ?_
    refine s_end (K7 _ _ ?_)
    refine wp_if F rfl ?_
    refine wp_skip (K3 _ _ ?_)
    refine wp_rs fun _ K8 => F.vl (x_ldW wide70 m7 rfl rfl) fun a F => ?_
    refine s_callB [_] F E93 rfl (by decide) (isIn105 _ _ w12) fun w18 a B19 F => ?_
    have sB19 := B19.size
    have hB := bt hB B19
    refine F.sg rfl fun a F => ?_
    refine s_end (K8 _ _ ?_)
    refine wp_ret (res_slot F rfl rfl ⟨congrArg (fun b => Ending.returned (Value.bool b)) (decide_eq_decide.2 (by unfold holdsP; rw [hif])), hB⟩)
theorem isGreat66 (c : CT) (x : C8) (w0 : World) (hx : RC w0 (fun k => k < w0.heap.size) c x) : Calls Try.prog 52 #[tv x] w0 fun e w' => e = .returned (.bool (decide (¬ c.ok))) ∧ Below w0.heap.size w0 w' := by
 have hB := Below.refl w0.heap.size w0
 have sB := hB.size
 refine calls_fs 12 [(0, tv x)] Try.func52 rfl rfl rfl rfl rfl fun a F => ?_
 refine wp_rs fun _ K1 => ?_
 refine s_box (tc x) F (by decide) rfl rfl fun w2 b1 a eb1 m1 B3 zb1 F => ?_
 have sB3 := B3.size
 have hB := bt hB B3
 refine F.sg rfl fun a F => ?_
 refine s_end (K1 _ _ ?_)
 refine wp_rs fun _ K2 => F.vl (x_ldW wide27 m1 rfl rfl) fun a F => ?_
 refine s_callB [_] F E48 rfl (by decide) (measure62 c x w2 (hx.bel hB)) fun w4 a B5 F => ?_
 have sB5 := B5.size
 have hB := bt hB B5
 refine F.mv rfl fun a F => F.vl (x_ext rfl rfl) fun a F => F.vl (x_ext rfl rfl) fun a F => ?_
 refine s_alloc F (by decide) zero70 fun w6 b3 a eb3 m3 B7 zb3 F => ?_
 have sB7 := B7.size
 have hB := bt hB B7
 refine s_putW F rfl rfl (size_wide wide70) m3 rfl (oneII _ _) fun w10 m3 o11 => ?_
 have so11 := o11.size
 have hB := hB.trans (o11.below (by omega))
 refine F.sg rfl fun a F => ?_
 refine s_end (K2 _ _ ?_)
 refine wp_rs fun _ K3 => F.mv rfl fun a F => F.vl (x_not rfl) fun a F => F.sg rfl fun a F => ?_
 refine s_end (K3 _ _ ?_)
 refine wp_ret (res_slot F rfl rfl ⟨by rw [decide_not], hB⟩)
theorem applied63 (n dp : Int) (c : CT) (x : C8) (w0 : World) (hx : RC w0 (fun k => k < w0.heap.size) c x) (h1 : 0 ≤ n ∧ n ≤ 100000) (h2 : 0 ≤ dp ∧ dp ≤ 100000) : Calls Try.prog 49 #[.agg [.int .i64 n, .int .i64 dp].toArray, tv x] w0 fun e w' => e = .returned (.tuple #[.agg [.int .i64 (1 + n + c.mN), .int .i64 (1 + max dp c.mD)].toArray, .bool (decide (c.ok ∧ 1 + n + (c.mN : Int) ≤ 20000 ∧ 1 + max dp (c.mD : Int) ≤ 2000))]) ∧ Below w0.heap.size w0 w' := by
 have hmN : c.mN ≤ 20000 := by unfold CT.mN; split; (· rename_i h; exact h.1); omega
 have hmD : c.mD ≤ 2000 := by unfold CT.mD; split; (· rename_i h; exact h.2); omega
 have hB := Below.refl w0.heap.size w0
 have sB := hB.size
 refine calls_fs 33 [(0, .agg [.int .i64 n, .int .i64 dp].toArray), (1, tv x)] Try.func49 rfl rfl rfl rfl rfl fun a F => ?_
 refine wp_rs fun _ K1 => ?_
 refine s_box ([.int .i64 n, .int .i64 dp]) F (by decide) rfl rfl fun w2 b2 a eb2 m2 B3 zb2 F => ?_
 have sB3 := B3.size
 have hB := bt hB B3
 refine s_box (tc x) F (by decide) rfl rfl fun w4 b3 a eb3 m3 B5 zb3 F => ?_
 have sB5 := B5.size
 have hB := bt hB B5
 have m2 := m2.old B5
 refine s_alloc F (by decide) zero70 fun w6 b4 a eb4 m4 B7 zb4 F => ?_
 have sB7 := B7.size
 have hB := bt hB B7
 have m2 := m2.old B7
 have m3 := m3.old B7
 refine F.sg rfl fun a F => ?_
 refine s_end (K1 _ _ ?_)
 refine wp_rs fun _ K2 => F.vl (x_ldW wide27 m3 rfl rfl) fun a F => ?_
 refine s_callB [_] F E48 rfl (by decide) (measure62 c x w6 (hx.bel hB)) fun w8 a B9 F => ?_
 have sB9 := B9.size
 have hB := bt hB B9
 have m2 := m2.old B9
 have m3 := m3.old B9
 have m4 := m4.old B9
 refine F.mv rfl fun a F => F.vl (x_ext rfl rfl) fun a F => F.vl (x_ext rfl rfl) fun a F => ?_
 refine s_alloc F (by decide) zero70 fun w10 b6 a eb6 m6 B11 zb6 F => ?_
 have sB11 := B11.size
 have hB := bt hB B11
 have m2 := m2.old B11
 have m3 := m3.old B11
 have m4 := m4.old B11
 refine s_putW F rfl rfl (size_wide wide70) m6 rfl (oneII _ _) fun w14 m6 o15 => ?_
 have so15 := o15.size
 have hB := hB.trans (o15.below (by omega))
 have m2 := m2.only o15 (by omega)
 have m3 := m3.only o15 (by omega)
 have m4 := m4.only o15 (by omega)
 refine F.sg rfl fun a F => ?_
 refine s_end (K2 _ _ ?_)
 refine wp_rs fun _ K3 => F.vl (x_fa0 fa70_0 rfl) fun a F => F.ld m2 flat3 rfl rfl fun a F => F.vl (x_add (by omega) (by omega) rfl rfl) fun a F => F.vl (x_fa0 fa70_0 rfl) fun a F => F.ld m6 flat3 rfl rfl fun a F => F.vl (x_add (by omega) (by omega) rfl rfl) fun a F => F.vl (x_fa0 fa70_1 rfl) fun a F => F.ld m2 flat3 rfl rfl fun a F => F.vl (x_fa0 fa70_1 rfl) fun a F => F.ld m6 flat3 rfl rfl fun a F => F.vl (x_imax rfl rfl) fun a F => F.vl (x_add (by omega) (by omega) rfl rfl) fun a F => F.vl (x_build (vs := [(0, _), (1, _)]) rfl (b70_01 _ _ _)) fun a F => ?_
 refine s_alloc F (by decide) zero70 fun w16 b8 a eb8 m8 B17 zb8 F => ?_
 have sB17 := B17.size
 have hB := bt hB B17
 have m2 := m2.old B17
 have m3 := m3.old B17
 have m4 := m4.old B17
 have m6 := m6.old B17
 refine s_putW F rfl rfl (size_wide wide70) m8 rfl (oneII _ _) fun w20 m8 o21 => ?_
 have so21 := o21.size
 have hB := hB.trans (o21.below (by omega))
 have m2 := m2.only o21 (by omega)
 have m3 := m3.only o21 (by omega)
 have m4 := m4.only o21 (by omega)
 have m6 := m6.only o21 (by omega)
 refine s_end (K3 _ _ ?_)
 by_cases hk : c.ok
 ·
  rw [decide_eq_true hk] at F
  refine dk2_seq (b4) (b4) (ops := regOps Try.f49 3) (N := 8) (by kernel_rfl) wide_orders (by kernel_rfl) fun w22 hw22 B23 hS K5 K5 => ?_
  have zw22 : w22.heap.size = w20.heap.size := by rw [hw22]
  have sB23 := B23.size
  have hB := bt hB B23
  have m2 := m2.old B23
  have m3 := m3.old B23
  have m4 := m4.old B23
  have m6 := m6.old B23
  have m8 := m8.old B23
  have m2_d := m2
  have m3_d := m3
  have m4_d := m4
  have m6_d := m6
  have m8_d := m8
  have hB_d := hB
  refine F.dv 0 27 (.load 72 (.tmp 8)) hS (fun W hW => x_ldW wide70 (m8_d.k2 hW (by omega)) rfl rfl) fun a F => F.dv 1 28 (.move (.tmp 7)) hS (fun W hW => x_move rfl) fun a F => F.dv 2 29 (.move (.tmp 28)) hS (fun W hW => x_move rfl) fun a F => F.dg 3 30 29 2 true (.load 72 (.tmp 8)) hS rfl (fun W hW => x_ldW wide70 (m8_d.k2 hW (by omega)) rfl rfl) fun a F => ?_
  refine d_oneg 4 29 (some 31) (.call (.mk (.value (.func 93)) #[(.tmp 30)] #[72])) (j := 2) (want := true) F (by kernel_rfl) (by kernel_rfl) (by kernel_rfl) rfl fun ty pos af => ?_
  refine s_callB [_] F E93 rfl (by decide) (isIn105 _ _ w22) fun w24 a B25 F => ?_
  have sB25 := B25.size
  have hB := bt hB B25
  have m4 := m4.old B25
  have hS := hS.below B25
  refine s_end ⟨hS, ?_⟩
  refine F.dv 5 32 (.pick (.tmp 29) (.tmp 31) (.const (.bool false))) hS (fun W hW => x_pick (b := true) rfl rfl) fun a F => ?_
  refine d1 6 none (.store 72 (.tmp 4) (.tmp 27)) fun ty pos af => ?_
  refine s_putW F rfl rfl (size_wide wide70) m4 rfl (oneII _ _) fun w28 m4 o29 => ?_
  have so29 := o29.size
  have hB := hB.trans (o29.below (by omega))
  have hS := hS.only o29 (by omega)
  refine s_end ⟨hS, ?_⟩
  refine F.dv 7 5 (.assign (.tmp 32)) hS (fun W hW => x_assign rfl) fun a F => ?_
  refine d_end (by kernel_rfl) (K5 _ _ ?_)
  refine wp_ret (res_ct (cs := [_, _]) F rfl rfl m4 wide70 rfl ⟨by simp only [hk, true_and], hB⟩)
 ·
  rw [decide_eq_false hk] at F
  refine dk2_seq (b4) (b4) (ops := regOps Try.f49 3) (N := 8) (by kernel_rfl) wide_orders (by kernel_rfl) fun w30 hw30 B31 hS K6 K6 => ?_
  have zw30 : w30.heap.size = w20.heap.size := by rw [hw30]
  have sB31 := B31.size
  have hB := bt hB B31
  have m2 := m2.old B31
  have m3 := m3.old B31
  have m4 := m4.old B31
  have m6 := m6.old B31
  have m8 := m8.old B31
  have m2_d := m2
  have m3_d := m3
  have m4_d := m4
  have m6_d := m6
  have m8_d := m8
  have hB_d := hB
  refine F.dv 0 27 (.load 72 (.tmp 8)) hS (fun W hW => x_ldW wide70 (m8_d.k2 hW (by omega)) rfl rfl) fun a F => F.dv 1 28 (.move (.tmp 7)) hS (fun W hW => x_move rfl) fun a F => F.dv 2 29 (.move (.tmp 28)) hS (fun W hW => x_move rfl) fun a F => d_skip 3 30 29 (j := 2) (want := true) (op := (.load 72 (.tmp 8))) F hS (by kernel_rfl) (by kernel_rfl) rfl (by kernel_rfl) (by decide) fun a F => d_skip 4 31 29 (j := 2) (want := true) (op := (.call (.mk (.value (.func 93)) #[(.tmp 30)] #[72]))) F hS (by kernel_rfl) (by kernel_rfl) rfl (by kernel_rfl) (by decide) fun a F => F.dv 5 32 (.pick (.tmp 29) (.tmp 31) (.const (.bool false))) hS (fun W hW => x_pick (b := false) rfl rfl) fun a F => ?_
  refine d1 6 none (.store 72 (.tmp 4) (.tmp 27)) fun ty pos af => ?_
  refine s_putW F rfl rfl (size_wide wide70) m4 rfl (oneII _ _) fun w34 m4 o35 => ?_
  have so35 := o35.size
  have hB := hB.trans (o35.below (by omega))
  have hS := hS.only o35 (by omega)
  refine s_end ⟨hS, ?_⟩
  refine F.dv 7 5 (.assign (.tmp 32)) hS (fun W hW => x_assign rfl) fun a F => ?_
  refine d_end (by kernel_rfl) (K6 _ _ ?_)
  refine wp_ret (res_ct (cs := [_, _]) F rfl rfl m4 wide70 rfl ⟨by rw [decide_eq_false (fun h => hk h.1)], hB⟩)
end Go.Proofs.Ytbhhbfdoadecgaa

namespace Go.Proofs.Ytbhhbfdoadecgaa
set_option maxRecDepth 100000
set_option maxHeartbeats 1600000
open Go.RowKit Go.Shelf
set_option linter.unusedVariables false
set_option linter.unusedSimpArgs false
/-- x reads as a term that says p. -/
def RT (W : World) (p : PT) (x : C8) : Prop := RE W (fun k => k < W.heap.size) p x
theorem RE.rt {W : World} {A : Nat → Prop} {p : PT} {x : C8} (h : RE W A p x) : RT W p x := h.valid.mono (fun k hk => hk.2)
theorem RT.below {W W' : World} {p : PT} {x : C8} (h : RT W p x) (hB : Below W.heap.size W W') : RT W' p x := (RE.below h hB).rt
theorem RE_bare (W : World) (A : Nat → Prop) : RE W A (.odd 0) ⟨0, 0, emptyB, (0, 0, nilS), nilS, nilS⟩ := RE_odd (by left; simp [arT]) (RKE.nil W A)
theorem holds83q (n dp vn vd : Int) (q : Int × Int) (w0 : World) (h1 : 0 ≤ n ∧ n ≤ 20000) (h2 : 0 ≤ dp ∧ dp ≤ 20000) (h3 : 0 ≤ vn ∧ vn ≤ 20000) (h4 : 0 ≤ vd ∧ vd ≤ 20000) (h5 : 0 ≤ q.1 ∧ q.1 ≤ 20000) (h6 : 0 ≤ q.2 ∧ q.2 ≤ 20000) :
    Calls Try.prog 57 #[.agg [.int .i64 n, .int .i64 dp].toArray, .agg [.int .i64 vn, .int .i64 vd].toArray, .agg (enc2 q).toArray] w0 fun e w' => e = .returned (.bool (decide (holdsP n dp vn vd q.1 q.2))) ∧ Below w0.heap.size w0 w' := by
  obtain ⟨cnt, pd⟩ := q
  exact holds83 n dp vn vd cnt pd w0 h1 h2 h3 h4 h5 h6
def PT.inst (t v : PT) : PT := if t.ok ∧ v.ok ∧ (PT.put v t 0).ok then PT.put v t 0 else .odd 0
def cut20 (b : Int) : Int := min (max b (-1048576)) 1048576
def PT.Lift (t : PT) (f b : Int) : PT := if t.ok then t.lift (max f 0) (cut20 b) 0 else .odd 0
theorem Inst42t (A : Nat → Prop) (c v : CT) (x y : C8) (w0 : World) (hA : ∀ k, A k → k < w0.heap.size) (hxA : RC w0 A c x) (hvA : RC w0 A v y) : Calls Try.prog 23 #[tv x, tv y] w0 fun e w' => ∃ u, e = .returned u ∧ (∃ y, u = tv y ∧ RE w' (AS A w0.heap.size) (PT.inst c.ess v.ess) y ∧ (c.ok ∧ v.ok ∧ (PT.put v.ess c.ess 0).ok → Tt c y)) ∧ Below w0.heap.size w0 w' := by
 have hx := hxA.mono hA
 have hv := hvA.mono hA
 have hin : c.ok ∧ v.ok ∧ (PT.put v.ess c.ess 0).ok → PT.inst c.ess v.ess = PT.put v.ess c.ess 0 := fun h => if_pos ⟨c.ok_ess.2 h.1, v.ok_ess.2 h.2.1, h.2.2⟩
 have hno : ¬ (c.ok ∧ v.ok ∧ (PT.put v.ess c.ess 0).ok) → PT.inst c.ess v.ess = .odd 0 := fun h => if_neg (fun h' => h ⟨c.ok_ess.1 h'.1, v.ok_ess.1 h'.2.1, h'.2.2⟩)
 obtain ⟨q, hq⟩ : ∃ q, q = c.fold Gpl 0 := ⟨_, rfl⟩
 have hg := Gpl_rng c 0
 have hh := holdsP_iff (c := c) (v := v)
 rw [← hq] at hg hh
 have hcd := c.dep_pos
 have hvd := v.dep_pos
 have hB := Below.refl w0.heap.size w0
 have sB := hB.size
 refine calls_fs 38 [(0, tv x), (1, tv y)] Try.func23 rfl rfl rfl rfl rfl fun a F => ?_
 refine wp_rs fun _ K1 => ?_
 refine s_box (tc x) F (by decide) rfl rfl fun w2 b2 a eb2 m2 B3 zb2 F => ?_
 have sB3 := B3.size
 have hB := bt hB B3
 refine s_box (tc y) F (by decide) rfl rfl fun w4 b3 a eb3 m3 B5 zb3 F => ?_
 have sB5 := B5.size
 have hB := bt hB B5
 have m2 := m2.old B5
 refine s_alloc F (by decide) zero27 fun w6 b4 a eb4 m4 B7 zb4 F => ?_
 have sB7 := B7.size
 have hB := bt hB B7
 have m2 := m2.old B7
 have m3 := m3.old B7
 refine s_end (K1 _ _ ?_)
 refine wp_rs fun _ K2 => F.vl (x_ldW wide27 m2 rfl rfl) fun a F => ?_
 refine s_callB [_] F E48 rfl (by decide) (measure62 c x w6 (hx.bel hB)) fun w8 a B9 F => ?_
 have sB9 := B9.size
 have hB := bt hB B9
 have m2 := m2.old B9
 have m3 := m3.old B9
 have m4 := m4.old B9
 refine F.mv rfl fun a F => F.vl (x_ext rfl rfl) fun a F => F.vl (x_ext rfl rfl) fun a F => ?_
 refine s_alloc F (by decide) zero70 fun w10 b5 a eb5 m5 B11 zb5 F => ?_
 have sB11 := B11.size
 have hB := bt hB B11
 have m2 := m2.old B11
 have m3 := m3.old B11
 have m4 := m4.old B11
 refine s_putW F rfl rfl (size_wide wide70) m5 rfl (oneII _ _) fun w14 m5 o15 => ?_
 have so15 := o15.size
 have hB := hB.trans (o15.below (by omega))
 have m2 := m2.only o15 (by omega)
 have m3 := m3.only o15 (by omega)
 have m4 := m4.only o15 (by omega)
 refine F.sg rfl fun a F => ?_
 refine s_end (K2 _ _ ?_)
 refine wp_rs fun _ K3 => F.vl (x_ldW wide27 m3 rfl rfl) fun a F => ?_
 refine s_callB [_] F E48 rfl (by decide) (measure62 v y w14 (hv.bel hB)) fun w16 a B17 F => ?_
 have sB17 := B17.size
 have hB := bt hB B17
 have m2 := m2.old B17
 have m3 := m3.old B17
 have m4 := m4.old B17
 have m5 := m5.old B17
 refine F.mv rfl fun a F => F.vl (x_ext rfl rfl) fun a F => F.vl (x_ext rfl rfl) fun a F => ?_
 refine s_alloc F (by decide) zero70 fun w18 b7 a eb7 m7 B19 zb7 F => ?_
 have sB19 := B19.size
 have hB := bt hB B19
 have m2 := m2.old B19
 have m3 := m3.old B19
 have m4 := m4.old B19
 have m5 := m5.old B19
 refine s_putW F rfl rfl (size_wide wide70) m7 rfl (oneII _ _) fun w22 m7 o23 => ?_
 have so23 := o23.size
 have hB := hB.trans (o23.below (by omega))
 have m2 := m2.only o23 (by omega)
 have m3 := m3.only o23 (by omega)
 have m4 := m4.only o23 (by omega)
 have m5 := m5.only o23 (by omega)
 refine F.sg rfl fun a F => ?_
 refine s_end (K3 _ _ ?_)
 refine wp_seq_k fun _ K4 => ?_
 rcases (show ¬ c.ok ∨ (c.ok ∧ ¬ v.ok) ∨ (c.ok ∧ v.ok ∧ (PT.put v.ess c.ess 0).ok) ∨ (c.ok ∧ v.ok ∧ ¬ (PT.put v.ess c.ess 0).ok) by by_cases h1 : c.ok <;> by_cases h2 : v.ok <;> by_cases h3 : (PT.put v.ess c.ess 0).ok <;> simp [h1, h2, h3]) with hk1 | ⟨hk1, hk2⟩ | ⟨hk1, hk2, hk3⟩ | ⟨hk1, hk2, hk3⟩
 ·
  rw [decide_eq_false hk1] at F
  refine dk2_seq (b4) (b4) (ops := regOps Try.f23 3) (N := 14) (by kernel_rfl) wide_orders (by kernel_rfl) fun w24 hw24 B25 hS K6 hK6 => ?_
  have zw24 : w24.heap.size = w22.heap.size := by rw [hw24]
  have sB25 := B25.size
  have hB := bt hB B25
  have m2 := m2.old B25
  have m3 := m3.old B25
  have m4 := m4.old B25
  have m5 := m5.old B25
  have m7 := m7.old B25
  have m2_d := m2
  have m3_d := m3
  have m4_d := m4
  have m5_d := m5
  have m7_d := m7
  have hB_d := hB
  refine F.dv 0 19 (.move (.tmp 6)) hS (fun W hW => x_move rfl) fun a F => F.dv 1 20 (.unOp .not 4 (.tmp 19)) hS (fun W hW => x_not rfl) fun a F => F.dv 2 21 (.move (.tmp 20)) hS (fun W hW => x_move rfl) fun a F => d_skip 3 22 21 (j := 2) (want := false) (op := (.move (.tmp 8))) F hS (by kernel_rfl) (by kernel_rfl) rfl (by kernel_rfl) (by decide) fun a F => d_skip 4 23 21 (j := 2) (want := false) (op := (.unOp .not 4 (.tmp 22))) F hS (by kernel_rfl) (by kernel_rfl) rfl (by kernel_rfl) (by decide) fun a F => F.dv 5 24 (.pick (.tmp 21) (.const (.bool true)) (.tmp 23)) hS (fun W hW => x_pick (b := true) rfl rfl) fun a F => F.dv 6 25 (.move (.tmp 24)) hS (fun W hW => x_move rfl) fun a F => d_skip 7 26 25 (j := 6) (want := false) (op := (.load 72 (.tmp 5))) F hS (by kernel_rfl) (by kernel_rfl) rfl (by kernel_rfl) (by decide) fun a F => d_skip 8 27 25 (j := 6) (want := false) (op := (.load 72 (.tmp 7))) F hS (by kernel_rfl) (by kernel_rfl) rfl (by kernel_rfl) (by decide) fun a F => d_skip 9 28 25 (j := 6) (want := false) (op := (.load 27 (.tmp 2))) F hS (by kernel_rfl) (by kernel_rfl) rfl (by kernel_rfl) (by decide) fun a F => d_skip 10 29 25 (j := 6) (want := false) (op := (.call (.mk (.value (.func 58)) #[(.tmp 28)] #[27]))) F hS (by kernel_rfl) (by kernel_rfl) rfl (by kernel_rfl) (by decide) fun a F => d_skip 11 30 25 (j := 6) (want := false) (op := (.call (.mk (.value (.func 57)) #[(.tmp 26), (.tmp 27), (.tmp 29)] #[72, 72, 81]))) F hS (by kernel_rfl) (by kernel_rfl) rfl (by kernel_rfl) (by decide) fun a F => d_skip 12 31 25 (j := 6) (want := false) (op := (.unOp .not 4 (.tmp 30))) F hS (by kernel_rfl) (by kernel_rfl) rfl (by kernel_rfl) (by decide) fun a F => F.dv 13 32 (.pick (.tmp 25) (.const (.bool true)) (.tmp 31)) hS (fun W hW => x_pick (b := true) rfl rfl) fun a F => ?_
  refine d_end (by kernel_rfl) (hK6 _ _ ?_)
  refine wp_if F rfl ?_
  refine wp_rs fun _ K7 => F.vl (x_build (vs := []) rfl (b27_ _)) fun a F => ?_
  refine s_putW F rfl rfl (size_wide wide27) m4 rfl one8 fun w28 m4 o29 => ?_
  have so29 := o29.size
  have hB := hB.trans (o29.below (by omega))
  refine s_end (K7 _ _ ?_)
  refine wp_ret (then_ret (res_cell F rfl rfl m4 wide27 ⟨_, rfl, ⟨⟨0, 0, emptyB, (0, 0, nilS), nilS, nilS⟩, rfl, by rw [hno (fun h => hk1 h.1)]; exact RE_bare _ _, fun h => absurd h (fun h => hk1 h.1)⟩, hB⟩))
 ·
  rw [decide_eq_true hk1, decide_eq_false hk2] at F
  refine dk2_seq (b4) (b4) (ops := regOps Try.f23 3) (N := 14) (by kernel_rfl) wide_orders (by kernel_rfl) fun w30 hw30 B31 hS K8 hK8 => ?_
  have zw30 : w30.heap.size = w22.heap.size := by rw [hw30]
  have sB31 := B31.size
  have hB := bt hB B31
  have m2 := m2.old B31
  have m3 := m3.old B31
  have m4 := m4.old B31
  have m5 := m5.old B31
  have m7 := m7.old B31
  have m2_d := m2
  have m3_d := m3
  have m4_d := m4
  have m5_d := m5
  have m7_d := m7
  have hB_d := hB
  refine F.dv 0 19 (.move (.tmp 6)) hS (fun W hW => x_move rfl) fun a F => F.dv 1 20 (.unOp .not 4 (.tmp 19)) hS (fun W hW => x_not rfl) fun a F => F.dv 2 21 (.move (.tmp 20)) hS (fun W hW => x_move rfl) fun a F => F.dg 3 22 21 2 false (.move (.tmp 8)) hS rfl (fun W hW => x_move rfl) fun a F => F.dg 4 23 21 2 false (.unOp .not 4 (.tmp 22)) hS rfl (fun W hW => x_not rfl) fun a F => F.dv 5 24 (.pick (.tmp 21) (.const (.bool true)) (.tmp 23)) hS (fun W hW => x_pick (b := false) rfl rfl) fun a F => F.dv 6 25 (.move (.tmp 24)) hS (fun W hW => x_move rfl) fun a F => d_skip 7 26 25 (j := 6) (want := false) (op := (.load 72 (.tmp 5))) F hS (by kernel_rfl) (by kernel_rfl) rfl (by kernel_rfl) (by decide) fun a F => d_skip 8 27 25 (j := 6) (want := false) (op := (.load 72 (.tmp 7))) F hS (by kernel_rfl) (by kernel_rfl) rfl (by kernel_rfl) (by decide) fun a F => d_skip 9 28 25 (j := 6) (want := false) (op := (.load 27 (.tmp 2))) F hS (by kernel_rfl) (by kernel_rfl) rfl (by kernel_rfl) (by decide) fun a F => d_skip 10 29 25 (j := 6) (want := false) (op := (.call (.mk (.value (.func 58)) #[(.tmp 28)] #[27]))) F hS (by kernel_rfl) (by kernel_rfl) rfl (by kernel_rfl) (by decide) fun a F => d_skip 11 30 25 (j := 6) (want := false) (op := (.call (.mk (.value (.func 57)) #[(.tmp 26), (.tmp 27), (.tmp 29)] #[72, 72, 81]))) F hS (by kernel_rfl) (by kernel_rfl) rfl (by kernel_rfl) (by decide) fun a F => d_skip 12 31 25 (j := 6) (want := false) (op := (.unOp .not 4 (.tmp 30))) F hS (by kernel_rfl) (by kernel_rfl) rfl (by kernel_rfl) (by decide) fun a F => F.dv 13 32 (.pick (.tmp 25) (.const (.bool true)) (.tmp 31)) hS (fun W hW => x_pick (b := true) rfl rfl) fun a F => ?_
  refine d_end (by kernel_rfl) (hK8 _ _ ?_)
  refine wp_if F rfl ?_
  refine wp_rs fun _ K9 => F.vl (x_build (vs := []) rfl (b27_ _)) fun a F => ?_
  refine s_putW F rfl rfl (size_wide wide27) m4 rfl one8 fun w34 m4 o35 => ?_
  have so35 := o35.size
  have hB := hB.trans (o35.below (by omega))
  refine s_end (K9 _ _ ?_)
  refine wp_ret (then_ret (res_cell F rfl rfl m4 wide27 ⟨_, rfl, ⟨⟨0, 0, emptyB, (0, 0, nilS), nilS, nilS⟩, rfl, by rw [hno (fun h => hk2 h.2.1)]; exact RE_bare _ _, fun h => absurd h (fun h => hk2 h.2.1)⟩, hB⟩))
 ·
  rw [decide_eq_true hk1, decide_eq_true hk2] at F
  rw [show c.mN = c.size from if_pos hk1, show c.mD = c.dep from if_pos hk1] at m5
  rw [show v.mN = v.size from if_pos hk2, show v.mD = v.dep from if_pos hk2] at m7
  have hk3b := decide_eq_true (hh.2 hk3)
  refine dk2_seq (b4) (b4) (ops := regOps Try.f23 3) (N := 14) (by kernel_rfl) wide_orders (by kernel_rfl) fun w36 hw36 B37 hS K10 hK10 => ?_
  have zw36 : w36.heap.size = w22.heap.size := by rw [hw36]
  have sB37 := B37.size
  have hB := bt hB B37
  have m2 := m2.old B37
  have m3 := m3.old B37
  have m4 := m4.old B37
  have m5 := m5.old B37
  have m7 := m7.old B37
  have m2_d := m2
  have m3_d := m3
  have m4_d := m4
  have m5_d := m5
  have m7_d := m7
  have hB_d := hB
  refine F.dv 0 19 (.move (.tmp 6)) hS (fun W hW => x_move rfl) fun a F => F.dv 1 20 (.unOp .not 4 (.tmp 19)) hS (fun W hW => x_not rfl) fun a F => F.dv 2 21 (.move (.tmp 20)) hS (fun W hW => x_move rfl) fun a F => F.dg 3 22 21 2 false (.move (.tmp 8)) hS rfl (fun W hW => x_move rfl) fun a F => F.dg 4 23 21 2 false (.unOp .not 4 (.tmp 22)) hS rfl (fun W hW => x_not rfl) fun a F => F.dv 5 24 (.pick (.tmp 21) (.const (.bool true)) (.tmp 23)) hS (fun W hW => x_pick (b := false) rfl rfl) fun a F => F.dv 6 25 (.move (.tmp 24)) hS (fun W hW => x_move rfl) fun a F => F.dg 7 26 25 6 false (.load 72 (.tmp 5)) hS rfl (fun W hW => x_ldW wide70 (m5_d.k2 hW (by omega)) rfl rfl) fun a F => F.dg 8 27 25 6 false (.load 72 (.tmp 7)) hS rfl (fun W hW => x_ldW wide70 (m7_d.k2 hW (by omega)) rfl rfl) fun a F => F.dg 9 28 25 6 false (.load 27 (.tmp 2)) hS rfl (fun W hW => x_ldW wide27 (m2_d.k2 hW (by omega)) rfl rfl) fun a F => ?_
  refine d_oneg 10 25 (some 29) (.call (.mk (.value (.func 58)) #[(.tmp 28)] #[27])) (j := 6) (want := false) F (by kernel_rfl) (by kernel_rfl) (by kernel_rfl) rfl fun ty pos af => ?_
  refine s_callB [_] F E58 rfl (by decide) ((placesOf84 c x w36 (hx.bel hB) hk1).mono fun e w' h => ⟨by rw [h.1, ← hq], h.2⟩) fun w38 a B39 F => ?_
  have sB39 := B39.size
  have hB := bt hB B39
  have m2 := m2.old B39
  have m3 := m3.old B39
  have m4 := m4.old B39
  have m5 := m5.old B39
  have m7 := m7.old B39
  have hS := hS.below B39
  refine s_end ⟨hS, ?_⟩
  refine d_oneg 11 25 (some 30) (.call (.mk (.value (.func 57)) #[(.tmp 26), (.tmp 27), (.tmp 29)] #[72, 72, 81])) (j := 6) (want := false) F (by kernel_rfl) (by kernel_rfl) (by kernel_rfl) rfl fun ty pos af => ?_
  refine s_callB [_, _, _] F E57 rfl (by decide) ((holds83q c.size c.dep v.size v.dep q w38 (by have := hk1.1; omega) (by have := hk1.2; omega) (by have := hk2.1; omega) (by have := hk2.2; omega) (by have := hk1.1; omega) (by have := hk1.2; omega)).mono fun e w' h => ⟨by rw [h.1, hk3b], h.2⟩) fun w40 a B41 F => ?_
  have sB41 := B41.size
  have hB := bt hB B41
  have m2 := m2.old B41
  have m3 := m3.old B41
  have m4 := m4.old B41
  have m5 := m5.old B41
  have m7 := m7.old B41
  have hS := hS.below B41
  refine s_end ⟨hS, ?_⟩
  refine F.dg 12 31 25 6 false (.unOp .not 4 (.tmp 30)) hS rfl (fun W hW => x_not rfl) fun a F => F.dv 13 32 (.pick (.tmp 25) (.const (.bool true)) (.tmp 31)) hS (fun W hW => x_pick (b := false) rfl rfl) fun a F => ?_
  refine d_end (by kernel_rfl) (hK10 _ _ ?_)
  refine wp_if F rfl ?_
  refine wp_skip (K4 _ _ ?_)
  refine dk2_seq (b4) (b4) (ops := regOps Try.f23 5) (N := 5) (by kernel_rfl) wide_orders (by kernel_rfl) fun w42 hw42 B43 hS K11 hK11 => ?_
  have zw42 : w42.heap.size = w40.heap.size := by rw [hw42]
  have sB43 := B43.size
  have hB := bt hB B43
  have m2 := m2.old B43
  have m3 := m3.old B43
  have m4 := m4.old B43
  have m5 := m5.old B43
  have m7 := m7.old B43
  have m2_d := m2
  have m3_d := m3
  have m4_d := m4
  have m5_d := m5
  have m7_d := m7
  have hB_d := hB
  refine F.dv 1 35 (.load 27 (.tmp 2)) hS (fun W hW => x_ldW wide27 (m2_d.k2 hW (by omega)) rfl rfl) fun a F => F.dv 2 36 (.load 27 (.tmp 3)) hS (fun W hW => x_ldW wide27 (m3_d.k2 hW (by omega)) rfl rfl) fun a F => ?_
  refine d1 0 (some 34) (.call (.mk (.value (.func 42)) #[] #[])) fun ty pos af => ?_
  refine s_callR (R := fun v w' => ∃ br, v = .pointer (some ⟨br, 0, none⟩) ∧ w42.heap.size ≤ br ∧ Blk w' br 110 [.int .i64 2147483647]) [] F E42 rfl (by decide) (newRoom56 w42) ?_
  rintro _ w44 a ⟨br, rfl, hbrw, mbr⟩ B45 F
  have sB45 := B45.size
  have hB := bt hB B45
  have m4 := m4.old B45
  have hS := hS.below B45
  have hR : Room w44 br := ⟨_, mbr, by decide, by decide⟩
  have hbrl := hR.lt
  refine s_end ⟨hS, ?_⟩
  refine d1 3 (some 37) (.call (.mk (.value (.func 59)) #[(.tmp 34), (.tmp 35), (.tmp 36)] #[66, 27, 27])) fun ty pos af => ?_
  refine s_call (R := fun u w' => ((∃ y, u = tv y ∧ RE w' (AS A w44.heap.size) (PT.put v.ess c.ess 0) y ∧ Tt c y) ∧ Room w' br) ∧ Ktw br br w44 w') F [_, _, _] E59 rfl (by decide) (put85 w44 br (by omega) A (fun k hk => by have := hA k hk; exact ⟨by omega, by omega⟩) c x (hxA.keep hB.size (fun k hk _ => hB.block k (hA k hk))) v y (hvA.keep hB.size (fun k hk _ => hB.block k (hA k hk))) (by have := hk2.2; omega) (by have := hk1.2; omega) hR) ?_
  rintro _ w46 a ⟨⟨⟨y9, rfl, hy9, hT9⟩, hR⟩, k47⟩ F
  have sk47 := k47.size
  have hB := k47.under hB (by omega)
  have m4 := m4.k2 k47 (by omega)
  have hS := hS.trans k47 (by omega)
  refine s_end ⟨hS, ?_⟩
  refine d1 4 none (.store 27 (.tmp 4) (.tmp 37)) fun ty pos af => ?_
  refine s_putW F rfl rfl (size_wide wide27) m4 rfl hy9.one fun w50 m4 o51 => ?_
  have so51 := o51.size
  have hB := hB.trans (o51.below (by omega))
  have hS := hS.only o51 (by omega)
  have hy9 := hy9.only o51 (by intro h; rcases h with h | h; (have := hA _ h; omega); omega)
  refine s_end ⟨hS, ?_⟩
  refine d_end (by kernel_rfl) (hK11 _ _ ?_)
  refine wp_ret (res_cell F rfl rfl m4 wide27 ⟨_, rfl, ⟨y9, rfl, by rw [hin ⟨hk1, hk2, hk3⟩]; exact hy9.mono (AS.mono (by omega)), fun _ => hT9⟩, hB⟩)
 ·
  rw [decide_eq_true hk1, decide_eq_true hk2] at F
  rw [show c.mN = c.size from if_pos hk1, show c.mD = c.dep from if_pos hk1] at m5
  rw [show v.mN = v.size from if_pos hk2, show v.mD = v.dep from if_pos hk2] at m7
  have hk3b := decide_eq_false (fun h => hk3 (hh.1 h))
  refine dk2_seq (b4) (b4) (ops := regOps Try.f23 3) (N := 14) (by kernel_rfl) wide_orders (by kernel_rfl) fun w52 hw52 B53 hS K12 hK12 => ?_
  have zw52 : w52.heap.size = w22.heap.size := by rw [hw52]
  have sB53 := B53.size
  have hB := bt hB B53
  have m2 := m2.old B53
  have m3 := m3.old B53
  have m4 := m4.old B53
  have m5 := m5.old B53
  have m7 := m7.old B53
  have m2_d := m2
  have m3_d := m3
  have m4_d := m4
  have m5_d := m5
  have m7_d := m7
  have hB_d := hB
  refine F.dv 0 19 (.move (.tmp 6)) hS (fun W hW => x_move rfl) fun a F => F.dv 1 20 (.unOp .not 4 (.tmp 19)) hS (fun W hW => x_not rfl) fun a F => F.dv 2 21 (.move (.tmp 20)) hS (fun W hW => x_move rfl) fun a F => F.dg 3 22 21 2 false (.move (.tmp 8)) hS rfl (fun W hW => x_move rfl) fun a F => F.dg 4 23 21 2 false (.unOp .not 4 (.tmp 22)) hS rfl (fun W hW => x_not rfl) fun a F => F.dv 5 24 (.pick (.tmp 21) (.const (.bool true)) (.tmp 23)) hS (fun W hW => x_pick (b := false) rfl rfl) fun a F => F.dv 6 25 (.move (.tmp 24)) hS (fun W hW => x_move rfl) fun a F => F.dg 7 26 25 6 false (.load 72 (.tmp 5)) hS rfl (fun W hW => x_ldW wide70 (m5_d.k2 hW (by omega)) rfl rfl) fun a F => F.dg 8 27 25 6 false (.load 72 (.tmp 7)) hS rfl (fun W hW => x_ldW wide70 (m7_d.k2 hW (by omega)) rfl rfl) fun a F => F.dg 9 28 25 6 false (.load 27 (.tmp 2)) hS rfl (fun W hW => x_ldW wide27 (m2_d.k2 hW (by omega)) rfl rfl) fun a F => ?_
  refine d_oneg 10 25 (some 29) (.call (.mk (.value (.func 58)) #[(.tmp 28)] #[27])) (j := 6) (want := false) F (by kernel_rfl) (by kernel_rfl) (by kernel_rfl) rfl fun ty pos af => ?_
  refine s_callB [_] F E58 rfl (by decide) ((placesOf84 c x w52 (hx.bel hB) hk1).mono fun e w' h => ⟨by rw [h.1, ← hq], h.2⟩) fun w54 a B55 F => ?_
  have sB55 := B55.size
  have hB := bt hB B55
  have m4 := m4.old B55
  have hS := hS.below B55
  refine s_end ⟨hS, ?_⟩
  refine d_oneg 11 25 (some 30) (.call (.mk (.value (.func 57)) #[(.tmp 26), (.tmp 27), (.tmp 29)] #[72, 72, 81])) (j := 6) (want := false) F (by kernel_rfl) (by kernel_rfl) (by kernel_rfl) rfl fun ty pos af => ?_
  refine s_callB [_, _, _] F E57 rfl (by decide) ((holds83q c.size c.dep v.size v.dep q w54 (by have := hk1.1; omega) (by have := hk1.2; omega) (by have := hk2.1; omega) (by have := hk2.2; omega) (by have := hk1.1; omega) (by have := hk1.2; omega)).mono fun e w' h => ⟨by rw [h.1, hk3b], h.2⟩) fun w56 a B57 F => ?_
  have sB57 := B57.size
  have hB := bt hB B57
  have m4 := m4.old B57
  have hS := hS.below B57
  refine s_end ⟨hS, ?_⟩
  refine F.dg 12 31 25 6 false (.unOp .not 4 (.tmp 30)) hS rfl (fun W hW => x_not rfl) fun a F => F.dv 13 32 (.pick (.tmp 25) (.const (.bool true)) (.tmp 31)) hS (fun W hW => x_pick (b := false) rfl rfl) fun a F => ?_
  refine d_end (by kernel_rfl) (hK12 _ _ ?_)
  refine wp_if F rfl ?_
  refine wp_rs fun _ K13 => F.vl (x_build (vs := []) rfl (b27_ _)) fun a F => ?_
  refine s_putW F rfl rfl (size_wide wide27) m4 rfl one8 fun w60 m4 o61 => ?_
  have so61 := o61.size
  have hB := hB.trans (o61.below (by omega))
  refine s_end (K13 _ _ ?_)
  refine wp_ret (then_ret (res_cell F rfl rfl m4 wide27 ⟨_, rfl, ⟨⟨0, 0, emptyB, (0, 0, nilS), nilS, nilS⟩, rfl, by rw [hno (fun h => hk3 h.2.2)]; exact RE_bare _ _, fun h => absurd h (fun h => hk3 h.2.2)⟩, hB⟩))
theorem Inst42 (c v : CT) (x y : C8) (w0 : World) (hx : RC w0 (fun k => k < w0.heap.size) c x) (hv : RC w0 (fun k => k < w0.heap.size) v y) : Calls Try.prog 23 #[tv x, tv y] w0 fun e w' => ∃ u, e = .returned u ∧ (∃ y, u = tv y ∧ RT w' (PT.inst c.ess v.ess) y) ∧ Below w0.heap.size w0 w' :=
 (Inst42t _ c v x y w0 (fun _ h => h) hx hv).mono fun e w' ⟨u, h1, ⟨y, h2, h3, _⟩, h4⟩ => ⟨u, h1, ⟨y, h2, RE.rt h3⟩, h4⟩
theorem Const18t (A : Nat → Prop) (s : ByteArray) (ls : List Lv) (v : Value) (w0 : World) (hA : ∀ k, A k → k < w0.heap.size) (hv : RVn w0 A v ls) : Calls Try.prog 12 #[.string s, v] w0 fun e w' => ∃ u, e = .returned u ∧ (∃ y, u = tv y ∧ RE w' (AS A w0.heap.size) (.cst s (ls.map slO)) y) ∧ Below w0.heap.size w0 w' := by
 obtain ⟨av, cv, hve, _⟩ := hv.form
 subst hve
 have hB := Below.refl w0.heap.size w0
 have sB := hB.size
 refine calls_fs 10 [(0, .string s), (1, .slice av ls.length cv)] Try.func12 rfl rfl rfl rfl rfl fun a F => ?_
 refine wp_rs fun _ K1 => ?_
 refine s_alloc F (by decide) zero27 fun w2 b4 a eb4 m4 B3 zb4 F => ?_
 have sB3 := B3.size
 have hB := bt hB B3
 refine s_end (K1 _ _ ?_)
 refine wp_rs fun _ K2 => ?_
 refine s_callR (R := fun v w' => ∃ br, v = .pointer (some ⟨br, 0, none⟩) ∧ w2.heap.size ≤ br ∧ Blk w' br 110 [.int .i64 2147483647]) [] F E42 rfl (by decide) (newRoom56 w2) ?_
 rintro _ w4 a ⟨br, rfl, hbrw, mbr⟩ B5 F
 have sB5 := B5.size
 have hB := bt hB B5
 have m4 := m4.old B5
 have hR : Room w4 br := ⟨_, mbr, by decide, by decide⟩
 have hbrl := hR.lt
 refine F.mv rfl fun a F => F.mv rfl fun a F => F.vl (x_build (vs := [(0, _), (2, _), (4, _)]) rfl (b27_024 _ _ _ _ _ _)) fun a F => ?_
 refine s_call (R := fun u w' => ((∃ y, u = tv y ∧ RE w' (AS A w4.heap.size) (CT.ess (.cst s ls 0)) y) ∧ Room w' br) ∧ Ktw br br w4 w') F [_, _] E43 rfl (by decide) (owned57 w4 br (by omega) A (fun k hk => by have := hA k hk; exact ⟨by omega, by omega⟩) (.cst s ls 0) ⟨7, 0, s, (0, 0, nilS), .slice av ls.length cv, nilS⟩ ⟨rfl, rfl, hv.keep hB.size (fun k hk _ => hB.block k (hA k hk)), ⟨_, Rn.nil _ _ 8⟩, ⟨.mk 0 0 [], .mk (xs := []) (Rn.nil _ _ 3) rfl (fun i x l h => by simp at h)⟩, _, hv.keep hB.size (fun k hk _ => hB.block k (hA k hk))⟩ hR) ?_
 rintro _ w6 a ⟨⟨⟨y9, rfl, hy9⟩, hR⟩, k7⟩ F
 have sk7 := k7.size
 have hB := k7.under hB (by omega)
 have m4 := m4.k2 k7 (by omega)
 refine s_putW F rfl rfl (size_wide wide27) m4 rfl hy9.one fun w10 m4 o11 => ?_
 have so11 := o11.size
 have hB := hB.trans (o11.below (by omega))
 have hy9 := hy9.only o11 (by intro h; rcases h with h | h; (have := hA _ h; omega); omega)
 refine s_end (K2 _ _ ?_)
 refine wp_ret (res_cell F rfl rfl m4 wide27 ⟨_, rfl, ⟨y9, rfl, hy9.mono (AS.mono (by omega))⟩, hB⟩)
theorem Const18 (s : ByteArray) (ls : List Lv) (v : Value) (w0 : World) (hv : RVn w0 (fun k => k < w0.heap.size) v ls) : Calls Try.prog 12 #[.string s, v] w0 fun e w' => ∃ u, e = .returned u ∧ (∃ y, u = tv y ∧ RT w' (.cst s (ls.map slO)) y) ∧ Below w0.heap.size w0 w' :=
 (Const18t _ s ls v w0 (fun _ h => h) hv).mono fun e w' ⟨u, h1, ⟨y, h2, h3⟩, h4⟩ => ⟨u, h1, ⟨y, h2, RE.rt h3⟩, h4⟩
theorem Lam21t (A : Nat → Prop) (c v : CT) (x y : C8) (w0 : World) (hA : ∀ k, A k → k < w0.heap.size) (hx : RC w0 A c x) (hv : RC w0 A v y) : Calls Try.prog 15 #[tv x, tv y] w0 fun e w' => ∃ u, e = .returned u ∧ (∃ y, u = tv y ∧ RE w' (AS A w0.heap.size) (.two 4 c.ess v.ess) y ∧ Tn 2 y) ∧ Below w0.heap.size w0 w' := by
 have hB := Below.refl w0.heap.size w0
 have sB := hB.size
 refine calls_fs 10 [(0, tv x), (1, tv y)] Try.func15 rfl rfl rfl rfl rfl fun a F => ?_
 refine wp_rs fun _ K1 => ?_
 refine s_box (tc x) F (by decide) rfl rfl fun w2 b2 a eb2 m2 B3 zb2 F => ?_
 have sB3 := B3.size
 have hB := bt hB B3
 refine s_box (tc y) F (by decide) rfl rfl fun w4 b3 a eb3 m3 B5 zb3 F => ?_
 have sB5 := B5.size
 have hB := bt hB B5
 have m2 := m2.old B5
 refine s_alloc F (by decide) zero27 fun w6 b4 a eb4 m4 B7 zb4 F => ?_
 have sB7 := B7.size
 have hB := bt hB B7
 have m2 := m2.old B7
 have m3 := m3.old B7
 refine s_end (K1 _ _ ?_)
 refine dk2_seq (b4) (b4) (ops := regOps Try.f15 1) (N := 6) (by kernel_rfl) wide_orders (by kernel_rfl) fun w8 hw8 B9 hS K2 K2 => ?_
 have zw8 : w8.heap.size = w6.heap.size := by rw [hw8]
 have sB9 := B9.size
 have hB := bt hB B9
 have m2 := m2.old B9
 have m3 := m3.old B9
 have m4 := m4.old B9
 have m2_d := m2
 have m3_d := m3
 have m4_d := m4
 have hB_d := hB
 refine F.dv 1 6 (.load 27 (.tmp 2)) hS (fun W hW => x_ldW wide27 (m2_d.k2 hW (by omega)) rfl rfl) fun a F => F.dv 2 7 (.load 27 (.tmp 3)) hS (fun W hW => x_ldW wide27 (m3_d.k2 hW (by omega)) rfl rfl) fun a F => ?_
 refine d_two 0 3 (by kernel_rfl) ?_ ?_
 ·
  refine d_op 0 (some 5) (.call (.mk (.value (.func 42)) #[] #[])) (by kernel_rfl) fun ty pos af => ?_
  refine s_callR (R := fun v w' => ∃ br, v = .pointer (some ⟨br, 0, none⟩) ∧ w8.heap.size ≤ br ∧ Blk w' br 110 [.int .i64 2147483647]) [] F E42 rfl (by decide) (newRoom56 w8) ?_
  rintro _ w10 a ⟨br, rfl, hbrw, mbr⟩ B11 F
  have sB11 := B11.size
  have hB := bt hB B11
  have m4 := m4.old B11
  have hS := hS.below B11
  have hR : Room w10 br := ⟨_, mbr, by decide, by decide⟩
  have hbrl := hR.lt
  refine s_end ⟨hS, ?_⟩
  refine d1 3 (some 8) (.buildSlice 25 2 #[(0, (.tmp 6)), (1, (.tmp 7))]) fun ty pos af => ?_
  refine s_litG [tv x, tv y] el25 F (by decide) rfl (by simp [Value.cells, tc]) rfl (by decide) (by decide) fun w12 bl a ebl ml B13 zbl F => ?_
  have sB13 := B13.size
  have hB := bt hB B13
  have m4 := m4.old B13
  have hS := hS.below B13
  have hR := hR.below B13
  have ml : Blk w12 bl 27 (tc x ++ tc y) := by simpa [Value.cells] using ml
  refine s_end ⟨hS, ?_⟩
  refine d1 4 (some 9) (.call (.mk (.value (.func 46)) #[(.tmp 5), (.const (.int .i64 4)), (.tmp 8)] #[66, 3, 25])) fun ty pos af => ?_
  have hbl1 := ml.lt
  have hrk : RK w12 (fun k => A k ∨ k = bl) (.slice (some ⟨bl, 0, none⟩) 2 2) [c, v] := ⟨[x, y], ⟨by simpa using Rd.blk ml (n := 2) rfl, fun _ b hb => by simp [Value.ownBlock] at hb; exact .inr hb.symm⟩, rfl, fun i x2 c2 e1 e2 => by rcases i with _ | _ | i; (· simp at e1 e2; subst e1 e2; exact RC.mono (fun k hk => .inl hk) (hx.keep hB.size (fun k hk _ => hB.block k (hA k hk)))); (· simp at e1 e2; subst e1 e2; exact RC.mono (fun k hk => .inl hk) (hv.keep hB.size (fun k hk _ => hB.block k (hA k hk)))); simp at e1⟩
  refine s_call (R := fun u w' => ((∃ v', u = tv ⟨4, 0, emptyB, (0, 0, nilS), nilS, v'⟩ ∧ RKE w' (AS (fun k => A k ∨ k = bl) w12.heap.size) v' (List.map CT.ess [c, v])) ∧ Room w' br) ∧ Ktw br br w12 w') F [_, _, _] E46 rfl (by decide) (joined60 w12 br (by omega) (fun k => A k ∨ k = bl) (fun k hk => by rcases hk with hk | hk; (have := hA k hk; omega); omega) 4 [c, v] _ hrk (by simp) hR) ?_
  rintro _ w14 a ⟨⟨⟨v9, rfl, hy9⟩, hR⟩, k15⟩ F
  have sk15 := k15.size
  have hB := k15.under hB (by omega)
  have m4 := m4.k2 k15 (by omega)
  have hS := hS.trans k15 (by omega)
  have h1v9 := hy9.one
  have hT9 : Tn 2 ⟨4, 0, emptyB, (0, 0, nilS), nilS, v9⟩ := by obtain ⟨a, cp, he, _⟩ := hy9.form; exact ⟨a, cp, he⟩
  refine s_end ⟨hS, ?_⟩
  refine d1 5 none (.store 27 (.tmp 4) (.tmp 9)) fun ty pos af => ?_
  refine s_putW F rfl rfl (size_wide wide27) m4 rfl (one_tc0 _ _ _ _ h1v9) fun w18 m4 o19 => ?_
  have so19 := o19.size
  have hB := hB.trans (o19.below (by omega))
  have hS := hS.only o19 (by omega)
  have hy9 := hy9.only o19 (by intro h; rcases h with (h | h) | h; (have := hA _ h; omega); omega; omega)
  refine s_end ⟨hS, ?_⟩
  refine d_end (by kernel_rfl) (K2 _ _ ?_)
  refine wp_ret (res_cell F rfl rfl m4 wide27 ⟨_, rfl, ⟨_, rfl, RE_two (by decide) (hy9.mono (fun k hk => by rcases hk with (hk | hk) | hk; (· exact .inl hk); (· exact .inr (by omega)); exact .inr (by omega))), hT9⟩, hB⟩)
 ·
  refine d_op 3 (some 8) (.buildSlice 25 2 #[(0, (.tmp 6)), (1, (.tmp 7))]) (by kernel_rfl) fun ty pos af => ?_
  refine s_litG [tv x, tv y] el25 F (by decide) rfl (by simp [Value.cells, tc]) rfl (by decide) (by decide) fun w20 bl a ebl ml B21 zbl F => ?_
  have sB21 := B21.size
  have hB := bt hB B21
  have m4 := m4.old B21
  have hS := hS.below B21
  have ml : Blk w20 bl 27 (tc x ++ tc y) := by simpa [Value.cells] using ml
  refine s_end ⟨hS, ?_⟩
  refine d1 0 (some 5) (.call (.mk (.value (.func 42)) #[] #[])) fun ty pos af => ?_
  refine s_callR (R := fun v w' => ∃ br, v = .pointer (some ⟨br, 0, none⟩) ∧ w20.heap.size ≤ br ∧ Blk w' br 110 [.int .i64 2147483647]) [] F E42 rfl (by decide) (newRoom56 w20) ?_
  rintro _ w22 a ⟨br, rfl, hbrw, mbr⟩ B23 F
  have sB23 := B23.size
  have hB := bt hB B23
  have m4 := m4.old B23
  have ml := ml.old B23
  have hS := hS.below B23
  have hR : Room w22 br := ⟨_, mbr, by decide, by decide⟩
  have hbrl := hR.lt
  refine s_end ⟨hS, ?_⟩
  refine d1 4 (some 9) (.call (.mk (.value (.func 46)) #[(.tmp 5), (.const (.int .i64 4)), (.tmp 8)] #[66, 3, 25])) fun ty pos af => ?_
  have hbl1 := ml.lt
  have hrk : RK w22 (fun k => A k ∨ k = bl) (.slice (some ⟨bl, 0, none⟩) 2 2) [c, v] := ⟨[x, y], ⟨by simpa using Rd.blk ml (n := 2) rfl, fun _ b hb => by simp [Value.ownBlock] at hb; exact .inr hb.symm⟩, rfl, fun i x2 c2 e1 e2 => by rcases i with _ | _ | i; (· simp at e1 e2; subst e1 e2; exact RC.mono (fun k hk => .inl hk) (hx.keep hB.size (fun k hk _ => hB.block k (hA k hk)))); (· simp at e1 e2; subst e1 e2; exact RC.mono (fun k hk => .inl hk) (hv.keep hB.size (fun k hk _ => hB.block k (hA k hk)))); simp at e1⟩
  refine s_call (R := fun u w' => ((∃ v', u = tv ⟨4, 0, emptyB, (0, 0, nilS), nilS, v'⟩ ∧ RKE w' (AS (fun k => A k ∨ k = bl) w22.heap.size) v' (List.map CT.ess [c, v])) ∧ Room w' br) ∧ Ktw br br w22 w') F [_, _, _] E46 rfl (by decide) (joined60 w22 br (by omega) (fun k => A k ∨ k = bl) (fun k hk => by rcases hk with hk | hk; (have := hA k hk; omega); omega) 4 [c, v] _ hrk (by simp) hR) ?_
  rintro _ w24 a ⟨⟨⟨v9, rfl, hy9⟩, hR⟩, k25⟩ F
  have sk25 := k25.size
  have hB := k25.under hB (by omega)
  have m4 := m4.k2 k25 (by omega)
  have hS := hS.trans k25 (by omega)
  have h1v9 := hy9.one
  have hT9 : Tn 2 ⟨4, 0, emptyB, (0, 0, nilS), nilS, v9⟩ := by obtain ⟨a, cp, he, _⟩ := hy9.form; exact ⟨a, cp, he⟩
  refine s_end ⟨hS, ?_⟩
  refine d1 5 none (.store 27 (.tmp 4) (.tmp 9)) fun ty pos af => ?_
  refine s_putW F rfl rfl (size_wide wide27) m4 rfl (one_tc0 _ _ _ _ h1v9) fun w28 m4 o29 => ?_
  have so29 := o29.size
  have hB := hB.trans (o29.below (by omega))
  have hS := hS.only o29 (by omega)
  have hy9 := hy9.only o29 (by intro h; rcases h with (h | h) | h; (have := hA _ h; omega); omega; omega)
  refine s_end ⟨hS, ?_⟩
  refine d_end (by kernel_rfl) (K2 _ _ ?_)
  refine wp_ret (res_cell F rfl rfl m4 wide27 ⟨_, rfl, ⟨_, rfl, RE_two (by decide) (hy9.mono (fun k hk => by rcases hk with (hk | hk) | hk; (· exact .inl hk); (· exact .inr (by omega)); exact .inr (by omega))), hT9⟩, hB⟩)
theorem Lam21 (c v : CT) (x y : C8) (w0 : World) (hx : RC w0 (fun k => k < w0.heap.size) c x) (hv : RC w0 (fun k => k < w0.heap.size) v y) : Calls Try.prog 15 #[tv x, tv y] w0 fun e w' => ∃ u, e = .returned u ∧ (∃ y, u = tv y ∧ RT w' (.two 4 c.ess v.ess) y) ∧ Below w0.heap.size w0 w' :=
 (Lam21t _ c v x y w0 (fun _ h => h) hx hv).mono fun e w' ⟨u, h1, ⟨y, h2, h3, _⟩, h4⟩ => ⟨u, h1, ⟨y, h2, RE.rt h3⟩, h4⟩
end Go.Proofs.Ytbhhbfdoadecgaa

namespace Go.Proofs.Ytbhhbfdoadecgaa
set_option maxRecDepth 100000
set_option maxHeartbeats 1600000
open Go.RowKit Go.Shelf
set_option linter.unusedVariables false
set_option linter.unusedSimpArgs false
def PT.apps (f : PT) (xs : List PT) : PT := xs.foldl (fun t a => .two 6 t a) f
theorem apps_snoc (f : PT) (xs : List PT) (a : PT) : PT.apps f (xs ++ [a]) = .two 6 (PT.apps f xs) a := by simp [PT.apps]
theorem apps_mono (f : PT) (xs : List PT) : ∀ bs : List PT, (PT.apps f (xs ++ bs)).ok → (PT.apps f xs).ok := by
 intro bs
 induction bs generalizing xs with
 | nil => intro h; simpa using h
 | cons b bs ih =>
  intro h
  have h1 := ih (xs ++ [b]) (by simpa using h)
  rw [apps_snoc] at h1
  unfold PT.ok at h1 ⊢
  simp only [PT.size, PT.dep] at h1
  omega
theorem apps_take {f : PT} {xs : List PT} {i : Nat} (h : (PT.apps f xs).ok) : (PT.apps f (xs.take i)).ok := apps_mono f (xs.take i) (xs.drop i) (by rw [List.take_append_drop]; exact h)
def PT.appsR (f : PT) (xs : List PT) : PT := if (PT.apps f xs).ok then PT.apps f xs else .odd 0
theorem CT.mN_ess {a : CT} (h : a.ok) : (a.mN : Int) = a.ess.size ∧ (a.mD : Int) = a.ess.dep := by
 rw [a.ess_size, a.ess_dep, show a.mN = a.size from if_pos h, show a.mD = a.dep from if_pos h]; exact ⟨rfl, rfl⟩
theorem Apps24t (A : Nat → Prop) (c : CT) (x : C8) (cs : List CT) (v : Value) (w0 : World) (hA : ∀ k, A k → k < w0.heap.size) (hxA : RC w0 A c x) (hV : RK w0 A v cs) (hlen : cs.length ≤ 1000000) : Calls Try.prog 18 #[tv x, v] w0 fun e w' => ∃ u, e = .returned u ∧ (∃ y, u = tv y ∧ RE w' (AS A w0.heap.size) (PT.appsR c.ess (cs.map CT.ess)) y) ∧ Below w0.heap.size w0 w' := by
 have hx := hxA.mono hA
 obtain ⟨av, cv, hve, _⟩ := hV.form
 subst hve
 obtain ⟨ps, hps⟩ : ∃ ps, ps = cs.map CT.ess := ⟨_, rfl⟩
 have hpl : ps.length = cs.length := by rw [hps, List.length_map]
 have hB := Below.refl w0.heap.size w0
 have sB := hB.size
 refine calls_fs 54 [(0, tv x), (1, .slice av cs.length cv)] Try.func18 rfl rfl rfl rfl rfl fun a F => ?_
 refine wp_rs fun _ K1 => ?_
 refine s_box (tc x) F (by decide) rfl rfl fun w2 b2 a eb2 m2 B3 zb2 F => ?_
 have sB3 := B3.size
 have hB := bt hB B3
 refine s_alloc F (by decide) zero27 fun w4 b4 a eb4 m4 B5 zb4 F => ?_
 have sB5 := B5.size
 have hB := bt hB B5
 have m2 := m2.old B5
 refine s_end (K1 _ _ ?_)
 refine wp_rs fun _ K2 => F.vl (x_ldW wide27 m2 rfl rfl) fun a F => ?_
 refine s_callB [_] F E48 rfl (by decide) (measure62 c x w4 (hx.bel hB)) fun w6 a B7 F => ?_
 have sB7 := B7.size
 have hB := bt hB B7
 have m2 := m2.old B7
 have m4 := m4.old B7
 refine F.mv rfl fun a F => F.vl (x_ext rfl rfl) fun a F => F.vl (x_ext rfl rfl) fun a F => ?_
 refine s_alloc F (by decide) zero70 fun w8 b5 a eb5 m5 B9 zb5 F => ?_
 have sB9 := B9.size
 have hB := bt hB B9
 have m2 := m2.old B9
 have m4 := m4.old B9
 refine s_putW F rfl rfl (size_wide wide70) m5 rfl (oneII _ _) fun w12 m5 o13 => ?_
 have so13 := o13.size
 have hB := hB.trans (o13.below (by omega))
 have m2 := m2.only o13 (by omega)
 have m4 := m4.only o13 (by omega)
 refine F.sg rfl fun a F => ?_
 refine s_end (K2 _ _ ?_)
 refine wp_seq_k fun _ K3 => ?_
 refine wp_rs fun _ K4 => F.mv rfl fun a F => F.vl (x_len Try.underlying25 rfl) fun a F => F.mv rfl fun a F => ?_
 refine s_end (K4 _ _ ?_)
 refine wp_block ?_
 refine wp_up cs.length (fun i a w => ∃ (fl : Bool) (n d : Int), (fl = true → (PT.apps c.ess (ps.take i)).ok ∧ n = (PT.apps c.ess (ps.take i)).size ∧ d = (PT.apps c.ess (ps.take i)).dep) ∧ (fl = false → ¬ (PT.apps c.ess ps).ok) ∧ Blk w b5 72 [.int .i64 n, .int .i64 d] ∧ Blk w b2 27 (tc x) ∧ Blk w b4 27 z8 ∧ Below w0.heap.size w0 w ∧ Fs 54 a [(1, .slice av cs.length cv), (2, .pointer (some ⟨b2, 0, none⟩)), (4, .pointer (some ⟨b4, 0, none⟩)), (5, .pointer (some ⟨b5, 0, none⟩)), (6, .bool fl), (18, .slice av cs.length cv), (19, .int .i64 (cs.length : Int)), (20, .int .i64 (i : Int))]) ⟨decide c.ok, c.mN, c.mD, (fun h => by have h := of_decide_eq_true h; obtain ⟨e1, e2⟩ := CT.mN_ess h; exact ⟨c.ok_ess.2 h, e1, e2⟩), (fun h h2 => of_decide_eq_false h (c.ok_ess.1 (apps_take (i := 0) h2))), m5, m2, m4, hB, F.sub _ rfl⟩ ?_
 have hne : w0.heap.size ≤ b2 ∧ w0.heap.size ≤ b4 ∧ w0.heap.size ≤ b5 ∧ b2 ≠ b4 ∧ b2 ≠ b5 ∧ b4 ≠ b5 := by omega
 repeat clear F
 clear hB m2 m4 m5
 rintro i a w hi ⟨fl, n, d, hI1, hI2, m5, m2, m4, hB, F⟩ K' hK'
 have sB := hB.size
 have h2l := m2.lt
 have h4l := m4.lt
 have h5l := m5.lt
 refine wp_rs fun _ K5 => F.vl (x_lss (b := decide (i < cs.length)) (decide_eq_decide.2 (by omega)) rfl rfl) fun a F => ?_
 refine s_end (K5 _ _ ?_)
 refine wp_seq_k fun _ K6 => ?_
 refine wp_iff F rfl (fun hc21 => ?_) (fun hc21 => ?_)
 ·
  obtain ⟨b9, off9, c9, y, p, hve, hp, hry, hAb, hbl, hrow⟩ := hV.row (i := i) (by omega)
  cases hve
  have htk : ps.take (i + 1) = ps.take i ++ [p.ess] := take_snoc (by rw [hps, List.getElem?_map, hp]; rfl)
  refine wp_skip (K6 _ _ ?_)
  refine wp_seq_k fun _ K7 => ?_
  refine wp_block ?_
  refine wp_rs fun _ K8 => F.vl (x_ixa rfl rfl (m_ixsK i Try.underlying25 el25.size rfl (by omega))) fun a F => F.vl (x_ldA wide27 (hrow _ (hB.block _ hbl)) rfl rfl) fun a F => ?_
  refine s_alloc F (by decide) zero27 fun w14 b8 a eb8 m8 B15 zb8 F => ?_
  have sB15 := B15.size
  have hB := bt hB B15
  have m2 := m2.old B15
  have m4 := m4.old B15
  have m5 := m5.old B15
  refine s_putW F rfl rfl (size_wide wide27) m8 rfl hry.one fun w18 m8 o19 => ?_
  have so19 := o19.size
  have hB := hB.trans (o19.below (by omega))
  have m2 := m2.only o19 (by omega)
  have m4 := m4.only o19 (by omega)
  have m5 := m5.only o19 (by omega)
  refine s_end (K8 _ _ ?_)
  refine wp_seq_k fun _ K9 => ?_
  refine wp_rs fun _ K10 => F.mv rfl fun a F => F.vl (x_not rfl) fun a F => ?_
  refine s_end (K10 _ _ ?_)
  refine wp_ifb F rfl (fun hc25 => ?_) (fun hc25 => ?_)
  ·
   have hfl : fl = false := by simpa using hc25
   refine wp_exit (K3 _ _ ?_)
   refine wp_seq_k fun _ K11 => ?_
   refine wp_rs fun _ K12 => F.mv rfl fun a F => F.vl (x_not rfl) fun a F => ?_
   refine s_end (K12 _ _ ?_)
   refine wp_ifb F rfl (fun hc34 => ?_) (fun hc34 => ?_)
   ·
    have hfl2 : fl = false := by simpa using hc34
    refine wp_rs fun _ K13 => F.vl (x_build (vs := []) rfl (b27_ _)) fun a F => ?_
    refine s_putW F rfl rfl (size_wide wide27) m4 rfl one8 fun w22 m4 o23 => ?_
    have so23 := o23.size
    have hB := hB.trans (o23.below (by omega))
    refine s_end (K13 _ _ ?_)
    refine wp_ret (then_ret (res_cell F rfl rfl m4 wide27 ⟨_, rfl, ⟨⟨0, 0, emptyB, (0, 0, nilS), nilS, nilS⟩, rfl, by rw [show PT.appsR c.ess (cs.map CT.ess) = .odd 0 from if_neg (by rw [← hps]; exact hI2 hfl2)]; exact RE_bare _ _⟩, hB⟩))
   ·
    simp [hfl] at hc34
  ·
   have hfl : fl = true := by simpa using hc25
   refine wp_skip (K9 _ _ ?_)
   refine wp_region_lit ?_
   refine F.vl (x_ldW wide70 m5 rfl rfl) fun a F => F.vl (x_ldW wide27 m8 rfl rfl) fun a F => ?_
   obtain ⟨hok, hn, hd⟩ := hI1 hfl
   have hk9 := hok.1
   have hk8 := hok.2
   refine s_callB [_, _] F E49 rfl (by decide) (applied63 n d p y w18 ((hry.mono hA).bel hB) (by omega) (by omega)) fun w24 a B25 F => ?_
   have sB25 := B25.size
   have hB := bt hB B25
   have m2 := m2.old B25
   have m4 := m4.old B25
   have m5 := m5.old B25
   refine F.mv rfl fun a F => F.vl (x_ext rfl rfl) fun a F => F.vl (x_ext rfl rfl) fun a F => ?_
   refine s_putW F rfl rfl (size_wide wide70) m5 rfl (oneII _ _) fun w28 m5 o29 => ?_
   have so29 := o29.size
   have hB := hB.trans (o29.below (by omega))
   have m2 := m2.only o29 (by omega)
   have m4 := m4.only o29 (by omega)
   refine F.sg rfl fun a F => ?_
   refine s_end (K7 _ _ ?_)
   refine wp_region_lit ?_
   refine F.vl (x_addn (i + 1) (by omega) (by omega) rfl rfl) fun a F => F.mv rfl fun a F => ?_
   refine s_end (hK' _ _ (by omega) ⟨_, _, _, (fun h => by have h := of_decide_eq_true h; obtain ⟨e1, e2⟩ := CT.mN_ess h.1; rw [htk, apps_snoc]; unfold PT.ok; simp only [PT.size, PT.dep]; omega), (fun h h2 => of_decide_eq_false h (by have h3 := apps_take (i := i + 1) h2; rw [htk, apps_snoc] at h3; unfold PT.ok at h3; simp only [PT.size, PT.dep] at h3; have hpo : p.ok := p.ok_ess.1 ⟨by omega, by omega⟩; obtain ⟨e1, e2⟩ := CT.mN_ess hpo; exact ⟨hpo, by omega, by omega⟩)), m5, m2, m4, hB, F.sub _ rfl⟩)
 ·
  obtain rfl : i = cs.length := by omega
  rw [← hpl, List.take_length] at hI1
  refine wp_exit (K3 _ _ ?_)
  refine wp_seq_k fun _ K14 => ?_
  refine wp_rs fun _ K15 => F.mv rfl fun a F => F.vl (x_not rfl) fun a F => ?_
  refine s_end (K15 _ _ ?_)
  refine wp_ifb F rfl (fun hc34 => ?_) (fun hc34 => ?_)
  ·
   have hfl2 : fl = false := by simpa using hc34
   refine wp_rs fun _ K16 => F.vl (x_build (vs := []) rfl (b27_ _)) fun a F => ?_
   refine s_putW F rfl rfl (size_wide wide27) m4 rfl one8 fun w32 m4 o33 => ?_
   have so33 := o33.size
   have hB := hB.trans (o33.below (by omega))
   refine s_end (K16 _ _ ?_)
   refine wp_ret (then_ret (res_cell F rfl rfl m4 wide27 ⟨_, rfl, ⟨⟨0, 0, emptyB, (0, 0, nilS), nilS, nilS⟩, rfl, by rw [show PT.appsR c.ess (cs.map CT.ess) = .odd 0 from if_neg (by rw [← hps]; exact hI2 hfl2)]; exact RE_bare _ _⟩, hB⟩))
  ·
   have hfl2 : fl = true := by simpa using hc34
   obtain ⟨hokA, hnA, hdA⟩ := hI1 hfl2
   refine wp_skip (K14 _ _ ?_)
   refine wp_rs fun _ K17 => ?_
   refine s_callR (R := fun v w' => ∃ br, v = .pointer (some ⟨br, 0, none⟩) ∧ w.heap.size ≤ br ∧ Blk w' br 110 [.int .i64 2147483647]) [] F E42 rfl (by decide) (newRoom56 w) ?_
   rintro _ w34 a ⟨br, rfl, hbrw, mbr⟩ B35 F
   have sB35 := B35.size
   have hB := bt hB B35
   have m2 := m2.old B35
   have m4 := m4.old B35
   have hR : Room w34 br := ⟨_, mbr, by decide, by decide⟩
   have hbrl := hR.lt
   refine F.sg rfl fun a F => ?_
   refine s_end (K17 _ _ ?_)
   refine wp_rs fun _ K18 => F.mv rfl fun a F => F.vl (x_ldW wide27 m2 rfl rfl) fun a F => ?_
   refine s_call (R := fun u w' => ((∃ y, u = tv y ∧ RE w' (AS A w34.heap.size) (c.ess) y) ∧ Room w' br) ∧ Ktw br br w34 w') F [_, _] E43 rfl (by decide) (owned57 w34 br (by omega) A (fun k hk => by have := hA k hk; exact ⟨by omega, by omega⟩) c x (hxA.keep hB.size (fun k hk _ => hB.block k (hA k hk))) hR) ?_
   rintro _ w36 a ⟨⟨⟨y9, rfl, hy9⟩, hR⟩, k37⟩ F
   have sk37 := k37.size
   have hB := k37.under hB (by omega)
   have m4 := m4.k2 k37 (by omega)
   have hy9 := hy9.valid
   refine s_alloc F (by decide) zero27 fun w38 b10 a eb10 m10 B39 zb10 F => ?_
   have sB39 := B39.size
   have hB := bt hB B39
   have m4 := m4.old B39
   have hR := hR.below B39
   have hy9 := hy9.below B39
   refine s_putW F rfl rfl (size_wide wide27) m10 rfl hy9.one fun w42 m10 o43 => ?_
   have so43 := o43.size
   have hB := hB.trans (o43.below (by omega))
   have m4 := m4.only o43 (by omega)
   have hR := hR.only o43 (by omega)
   have hy9 := hy9.only o43 (by intro h; rcases h.1 with h1 | h1; (have := hA _ h1; omega); omega)
   refine s_end (K18 _ _ ?_)
   refine wp_seq_k fun _ K19 => ?_
   refine wp_rs fun _ K20 => F.mv rfl fun a F => F.vl (x_len Try.underlying25 rfl) fun a F => F.mv rfl fun a F => ?_
   refine s_end (K20 _ _ ?_)
   refine wp_block ?_
   refine wp_up cs.length (fun i a w => ∃ y, REx w (fun k => (k ≠ br ∧ k ≠ b10 ∧ k ≠ b4 ∧ k < w.heap.size) ∧ (A k ∨ w0.heap.size ≤ k)) (PT.apps c.ess (ps.take i)) y ∧ Blk w b10 27 (tc y) ∧ Blk w b4 27 z8 ∧ Room w br ∧ Below w0.heap.size w0 w ∧ Fs 54 a [(4, .pointer (some ⟨b4, 0, none⟩)), (9, .pointer (some ⟨br, 0, none⟩)), (10, .pointer (some ⟨b10, 0, none⟩)), (40, .slice av cs.length cv), (41, .int .i64 (cs.length : Int)), (42, .int .i64 (i : Int))]) ⟨y9, (RE.valid hy9).mono (fun k hk => by rcases hk with ⟨⟨hk, hk2⟩, hk3⟩; rcases hk with hk | hk; (have := hA _ hk; exact ⟨⟨by omega, by omega, by omega, by omega⟩, .inl hk⟩); exact ⟨⟨by omega, by omega, by omega, by omega⟩, .inr (by omega)⟩), m10, m4, hR, hB, F.sub _ rfl⟩ ?_
   have hne : w0.heap.size ≤ br ∧ w0.heap.size ≤ b4 ∧ w0.heap.size ≤ b10 ∧ br ≠ b4 ∧ br ≠ b10 ∧ b4 ≠ b10 := by omega
   repeat clear F
   clear hB m4 m10 hR hy9
   rintro i a w hi ⟨y, hy, m10, m4, hR, hB, F⟩ K' hK'
   have sB := hB.size
   have h4l := m4.lt
   have h10l := m10.lt
   have hbrl := hR.lt
   obtain ⟨top, htop⟩ : ∃ h, h = w.heap.size := ⟨_, rfl⟩
   rw [← htop] at hy
   have h1y := RE.one hy
   refine wp_rs fun _ K21 => F.vl (x_lss (b := decide (i < cs.length)) (decide_eq_decide.2 (by omega)) rfl rfl) fun a F => ?_
   refine s_end (K21 _ _ ?_)
   refine wp_seq_k fun _ K22 => ?_
   refine wp_iff F rfl (fun hc43 => ?_) (fun hc43 => ?_)
   ·
    obtain ⟨b9, off9, c9, y2, p, hve, hp, hry, hAb, hbl, hrow⟩ := hV.row (i := i) (by omega)
    cases hve
    have htk : ps.take (i + 1) = ps.take i ++ [p.ess] := take_snoc (by rw [hps, List.getElem?_map, hp]; rfl)
    refine wp_skip (K22 _ _ ?_)
    refine wp_seq_k fun _ K23 => ?_
    refine wp_block ?_
    refine wp_rs fun _ K24 => F.vl (x_ixa rfl rfl (m_ixsK i Try.underlying25 el25.size rfl (by omega))) fun a F => F.vl (x_ldA wide27 (hrow _ (hB.block _ hbl)) rfl rfl) fun a F => ?_
    refine s_alloc F (by decide) zero27 fun w44 b12 a eb12 m12 B45 zb12 F => ?_
    have sB45 := B45.size
    have hB := bt hB B45
    have m4 := m4.old B45
    have m10 := m10.old B45
    have hy := hy.below B45
    have hR := hR.below B45
    refine s_putW F rfl rfl (size_wide wide27) m12 rfl hry.one fun w48 m12 o49 => ?_
    have so49 := o49.size
    have hB := hB.trans (o49.below (by omega))
    have m4 := m4.only o49 (by omega)
    have m10 := m10.only o49 (by omega)
    have hy := hy.only o49 (fun k (hk : (k ≠ br ∧ k ≠ b10 ∧ k ≠ b4 ∧ k < top) ∧ (A k ∨ w0.heap.size ≤ k)) => by omega)
    have hR := hR.only o49 (by omega)
    refine s_end (K24 _ _ ?_)
    refine dk2_one (br) (b10) (ops := regOps Try.f18 15) (N := 7) (by kernel_rfl) wide_orders (by kernel_rfl) fun w50 hw50 B51 hS K25 hK25 => ?_
    have zw50 : w50.heap.size = w48.heap.size := by rw [hw50]
    have sB51 := B51.size
    have hB := bt hB B51
    have m4 := m4.old B51
    have m10 := m10.old B51
    have hy := hy.below B51
    have m12 := m12.old B51
    have hR := hR.below B51
    have hR_d := hR
    have m4_d := m4
    have m10_d := m10
    have hy_d := hy
    have m12_d := m12
    have hB_d := hB
    refine F.dv 1 47 (.move (.tmp 9)) hS (fun W hW => x_move rfl) fun a F => F.dv 2 48 (.load 27 (.tmp 12)) hS (fun W hW => x_ldW wide27 (m12_d.k2 hW (by omega)) rfl rfl) fun a F => ?_
    refine d_two 0 3 (by kernel_rfl) ?_ ?_
    ·
     refine d_op 0 (some 46) (.load 27 (.tmp 10)) (by kernel_rfl) fun ty pos af => ?_
     refine F.vl (x_ldW wide27 m10 rfl rfl) fun a F => ?_
     refine s_end ⟨hS, ?_⟩
     refine d1 3 (some 49) (.call (.mk (.value (.func 43)) #[(.tmp 47), (.tmp 48)] #[66, 27])) fun ty pos af => ?_
     refine s_call (R := fun u w' => ((∃ z, u = tv z ∧ REx w' (AS A w50.heap.size) p.ess z) ∧ Room w' br) ∧ Ktw br br w50 w') F [_, _] E43 rfl (by decide) (owned57 w50 br (by omega) A (fun k hk => by have := hA k hk; exact ⟨by omega, by omega⟩) p y2 (hry.keep hB.size (fun k hk _ => hB.block k (hA k hk))) hR) ?_
     rintro _ w52 a ⟨⟨⟨z, rfl, hz0⟩, hR⟩, k53⟩ F
     have sk53 := k53.size
     have hB := k53.under hB (by omega)
     have m4 := m4.k2 k53 (by omega)
     have m10 := m10.k2 k53 (by omega)
     have hy := hy.k2 k53 (fun k (hk : (k ≠ br ∧ k ≠ b10 ∧ k ≠ b4 ∧ k < top) ∧ (A k ∨ w0.heap.size ≤ k)) => by omega)
     have hS := hS.trans k53 (by omega)
     have hz : REx w52 (fun k => ((k < w0.heap.size ∧ A k) ∨ w50.heap.size ≤ k) ∧ k < w52.heap.size) p.ess z := (RE.valid hz0).mono (fun k hk => ⟨hk.1.elim (fun h => .inl ⟨hA k h, h⟩) .inr, hk.2⟩)
     clear hz0
     have h1z := RE.one hz
     refine s_end ⟨hS, ?_⟩
     refine d1 4 (some 50) (.buildSlice 25 2 #[(0, (.tmp 46)), (1, (.tmp 49))]) fun ty pos af => ?_
     refine s_litG [tv y, tv z] el25 F (by decide) rfl (by simp [Value.cells, tc]) rfl (by decide) (by decide) fun w54 bl a ebl ml B55 zbl F => ?_
     have sB55 := B55.size
     have hB := bt hB B55
     have m4 := m4.old B55
     have m10 := m10.old B55
     have hy := hy.below B55
     have hz := hz.below B55
     have hS := hS.below B55
     have hR := hR.below B55
     have ml : Blk w54 bl 27 (tc y ++ tc z) := by simpa [Value.cells] using ml
     refine s_end ⟨hS, ?_⟩
     refine F.dv 5 51 (.build 27 #[(0, (.const (.int .i64 6))), (5, (.tmp 50))]) hS (fun W hW => x_build (vs := [(0, _), (5, _)]) rfl (b27_05 _ _ _ _ _)) fun a F => ?_
     refine d1 6 none (.store 27 (.tmp 10) (.tmp 51)) fun ty pos af => ?_
     have hy9 : REx w54 (fun k => (k ≠ br ∧ k ≠ b10 ∧ k ≠ b4 ∧ k < w54.heap.size) ∧ (A k ∨ w0.heap.size ≤ k)) (PT.apps c.ess (ps.take (i + 1))) ⟨6, 0, emptyB, (0, 0, nilS), nilS, .slice (some ⟨bl, 0, none⟩) 2 2⟩ := by
      rw [htk, apps_snoc]
      have hll := ml.lt
      refine RE_two (by decide) ⟨[y, z], ⟨by simpa using Rd.blk ml (n := 2) rfl, fun _ b hb => by simp [Value.ownBlock] at hb; subst hb; exact ⟨⟨by omega, by omega, by omega, by omega⟩, .inr (by omega)⟩⟩, rfl, fun j x3 q e1 e2 => ?_⟩
      rcases j with _ | _ | j
      ·
       simp at e1 e2; subst e1 e2; exact RE.mono (fun k hk => ⟨⟨hk.1.1, hk.1.2.1, hk.1.2.2.1, by have := hk.1.2.2.2; omega⟩, hk.2⟩) hy
      ·
       simp at e1 e2; subst e1 e2; exact RE.mono (fun k hk => by rcases hk with ⟨hk1, hk2⟩; rcases hk1 with hk1 | hk1; (exact ⟨⟨by omega, by omega, by omega, by omega⟩, .inl hk1.2⟩); exact ⟨⟨by omega, by omega, by omega, by omega⟩, .inr (by omega)⟩) hz
      ·
       simp at e1
     refine s_putW F rfl rfl (size_wide wide27) m10 rfl (RE.one hy9) fun w56 m10 o57 => ?_
     have so57 := o57.size
     have hB := hB.trans (o57.below (by omega))
     have m4 := m4.only o57 (by omega)
     have hy9 := hy9.only o57 (fun k (hk : (k ≠ br ∧ k ≠ b10 ∧ k ≠ b4 ∧ k < w54.heap.size) ∧ (A k ∨ w0.heap.size ≤ k)) => by omega)
     have hS := hS.only o57 (by omega)
     have hR := hR.only o57 (by omega)
     refine s_end ⟨hS, ?_⟩
     refine d_end (by kernel_rfl) (hK25 _ _ ?_)
     refine K23 _ _ ?_
     refine wp_region_lit ?_
     refine F.vl (x_addn (i + 1) (by omega) (by omega) rfl rfl) fun a F => F.mv rfl fun a F => ?_
     refine s_end (hK' _ _ (by omega) ⟨_, hy9.mono (fun k hk => ⟨⟨hk.1.1, hk.1.2.1, hk.1.2.2.1, by have := hk.1.2.2.2; omega⟩, hk.2⟩), m10, m4, hR, hB, F.sub _ rfl⟩)
    ·
     refine d_op 3 (some 49) (.call (.mk (.value (.func 43)) #[(.tmp 47), (.tmp 48)] #[66, 27])) (by kernel_rfl) fun ty pos af => ?_
     refine s_call (R := fun u w' => ((∃ z, u = tv z ∧ REx w' (AS A w50.heap.size) p.ess z) ∧ Room w' br) ∧ Ktw br br w50 w') F [_, _] E43 rfl (by decide) (owned57 w50 br (by omega) A (fun k hk => by have := hA k hk; exact ⟨by omega, by omega⟩) p y2 (hry.keep hB.size (fun k hk _ => hB.block k (hA k hk))) hR) ?_
     rintro _ w58 a ⟨⟨⟨z, rfl, hz0⟩, hR⟩, k59⟩ F
     have sk59 := k59.size
     have hB := k59.under hB (by omega)
     have m4 := m4.k2 k59 (by omega)
     have m10 := m10.k2 k59 (by omega)
     have hy := hy.k2 k59 (fun k (hk : (k ≠ br ∧ k ≠ b10 ∧ k ≠ b4 ∧ k < top) ∧ (A k ∨ w0.heap.size ≤ k)) => by omega)
     have hS := hS.trans k59 (by omega)
     have hz : REx w58 (fun k => ((k < w0.heap.size ∧ A k) ∨ w50.heap.size ≤ k) ∧ k < w58.heap.size) p.ess z := (RE.valid hz0).mono (fun k hk => ⟨hk.1.elim (fun h => .inl ⟨hA k h, h⟩) .inr, hk.2⟩)
     clear hz0
     have h1z := RE.one hz
     refine s_end ⟨hS, ?_⟩
     refine d1 0 (some 46) (.load 27 (.tmp 10)) fun ty pos af => ?_
     refine F.vl (x_ldW wide27 m10 rfl rfl) fun a F => ?_
     refine s_end ⟨hS, ?_⟩
     refine d1 4 (some 50) (.buildSlice 25 2 #[(0, (.tmp 46)), (1, (.tmp 49))]) fun ty pos af => ?_
     refine s_litG [tv y, tv z] el25 F (by decide) rfl (by simp [Value.cells, tc]) rfl (by decide) (by decide) fun w60 bl a ebl ml B61 zbl F => ?_
     have sB61 := B61.size
     have hB := bt hB B61
     have m4 := m4.old B61
     have m10 := m10.old B61
     have hy := hy.below B61
     have hz := hz.below B61
     have hS := hS.below B61
     have hR := hR.below B61
     have ml : Blk w60 bl 27 (tc y ++ tc z) := by simpa [Value.cells] using ml
     refine s_end ⟨hS, ?_⟩
     refine F.dv 5 51 (.build 27 #[(0, (.const (.int .i64 6))), (5, (.tmp 50))]) hS (fun W hW => x_build (vs := [(0, _), (5, _)]) rfl (b27_05 _ _ _ _ _)) fun a F => ?_
     refine d1 6 none (.store 27 (.tmp 10) (.tmp 51)) fun ty pos af => ?_
     have hy9 : REx w60 (fun k => (k ≠ br ∧ k ≠ b10 ∧ k ≠ b4 ∧ k < w60.heap.size) ∧ (A k ∨ w0.heap.size ≤ k)) (PT.apps c.ess (ps.take (i + 1))) ⟨6, 0, emptyB, (0, 0, nilS), nilS, .slice (some ⟨bl, 0, none⟩) 2 2⟩ := by
      rw [htk, apps_snoc]
      have hll := ml.lt
      refine RE_two (by decide) ⟨[y, z], ⟨by simpa using Rd.blk ml (n := 2) rfl, fun _ b hb => by simp [Value.ownBlock] at hb; subst hb; exact ⟨⟨by omega, by omega, by omega, by omega⟩, .inr (by omega)⟩⟩, rfl, fun j x3 q e1 e2 => ?_⟩
      rcases j with _ | _ | j
      ·
       simp at e1 e2; subst e1 e2; exact RE.mono (fun k hk => ⟨⟨hk.1.1, hk.1.2.1, hk.1.2.2.1, by have := hk.1.2.2.2; omega⟩, hk.2⟩) hy
      ·
       simp at e1 e2; subst e1 e2; exact RE.mono (fun k hk => by rcases hk with ⟨hk1, hk2⟩; rcases hk1 with hk1 | hk1; (exact ⟨⟨by omega, by omega, by omega, by omega⟩, .inl hk1.2⟩); exact ⟨⟨by omega, by omega, by omega, by omega⟩, .inr (by omega)⟩) hz
      ·
       simp at e1
     refine s_putW F rfl rfl (size_wide wide27) m10 rfl (RE.one hy9) fun w62 m10 o63 => ?_
     have so63 := o63.size
     have hB := hB.trans (o63.below (by omega))
     have m4 := m4.only o63 (by omega)
     have hy9 := hy9.only o63 (fun k (hk : (k ≠ br ∧ k ≠ b10 ∧ k ≠ b4 ∧ k < w60.heap.size) ∧ (A k ∨ w0.heap.size ≤ k)) => by omega)
     have hS := hS.only o63 (by omega)
     have hR := hR.only o63 (by omega)
     refine s_end ⟨hS, ?_⟩
     refine d_end (by kernel_rfl) (hK25 _ _ ?_)
     refine K23 _ _ ?_
     refine wp_region_lit ?_
     refine F.vl (x_addn (i + 1) (by omega) (by omega) rfl rfl) fun a F => F.mv rfl fun a F => ?_
     refine s_end (hK' _ _ (by omega) ⟨_, hy9.mono (fun k hk => ⟨⟨hk.1.1, hk.1.2.1, hk.1.2.2.1, by have := hk.1.2.2.2; omega⟩, hk.2⟩), m10, m4, hR, hB, F.sub _ rfl⟩)
   ·
    obtain rfl : i = cs.length := by omega
    rw [← hpl, List.take_length] at hy
    refine wp_exit (K19 _ _ ?_)
    refine wp_rs fun _ K26 => F.vl (x_ldW wide27 m10 rfl rfl) fun a F => ?_
    refine s_putW F rfl rfl (size_wide wide27) m4 rfl h1y fun w66 m4 o67 => ?_
    have so67 := o67.size
    have hB := hB.trans (o67.below (by omega))
    have hy := hy.only o67 (fun k (hk : (k ≠ br ∧ k ≠ b10 ∧ k ≠ b4 ∧ k < top) ∧ (A k ∨ w0.heap.size ≤ k)) => by omega)
    refine s_end (K26 _ _ ?_)
    refine wp_ret (res_cell F rfl rfl m4 wide27 ⟨_, rfl, ⟨y, rfl, by rw [show PT.appsR c.ess (cs.map CT.ess) = PT.apps c.ess ps from by rw [← hps]; exact if_pos hokA]; exact RE.mono (fun k hk => hk.2) hy⟩, hB⟩)
theorem Apps24 (c : CT) (x : C8) (cs : List CT) (v : Value) (w0 : World) (hx : RC w0 (fun k => k < w0.heap.size) c x) (hV : RK w0 (fun k => k < w0.heap.size) v cs) (hlen : cs.length ≤ 1000000) : Calls Try.prog 18 #[tv x, v] w0 fun e w' => ∃ u, e = .returned u ∧ (∃ y, u = tv y ∧ RT w' (PT.appsR c.ess (cs.map CT.ess)) y) ∧ Below w0.heap.size w0 w' :=
 (Apps24t _ c x cs v w0 (fun _ h => h) hx hV hlen).mono fun e w' ⟨u, h1, ⟨y, h2, h3⟩, h4⟩ => ⟨u, h1, ⟨y, h2, RE.rt h3⟩, h4⟩
end Go.Proofs.Ytbhhbfdoadecgaa

namespace Go.Proofs.Ytbhhbfdoadecgaa
set_option maxRecDepth 100000
set_option maxHeartbeats 1600000
open Go.RowKit Go.Shelf
set_option linter.unusedVariables false
set_option linter.unusedSimpArgs false
theorem RE_two_inv {W : World} {A : Nat → Prop} {k : Int} {p q : PT} {x : C8} (h : RE W A (.two k p q) x) : ∃ b off n cap y z, x.ts = .slice (some ⟨b, off, none⟩) n cap ∧ 2 ≤ n ∧ x.k = k ∧ RE W A p y ∧ RE W A q z ∧ A b ∧ b < W.heap.size ∧ (∀ j u, (tc y)[j]? = some u → W.cell? ⟨b, off + j, none⟩ = some u) ∧ (∀ j u, (tc z)[j]? = some u → W.cell? ⟨b, off + 8 + j, none⟩ = some u) := by
 obtain ⟨c, hc, he⟩ := h
 cases c with
 | two k' a b' m =>
  simp only [CT.ess] at he
  cases he
  obtain ⟨h1, h2, ⟨y, z, cs, hR, ha, hb⟩, _⟩ := hc
  obtain ⟨b, off, cap, hv, hbl⟩ := hR.1.some (by omega)
  refine ⟨b, off, _, cap, y, z, hv, by omega, h1, ⟨_, ha, rfl⟩, ⟨_, hb, rfl⟩, hR.2 (by omega) b (by rw [hv]; rfl), hbl, fun j u hj => ?_, fun j u hj => ?_⟩
  ·
   have hj8 := (List.getElem?_eq_some_iff.1 hj).1
   have := (hv ▸ hR.1).cell (j := j) (u := u) (by rw [List.getElem?_append_left (by simpa [tc] using hj8)]; exact hj)
   exact this
  ·
   have hj8 := (List.getElem?_eq_some_iff.1 hj).1
   have := (hv ▸ hR.1).cell (j := 8 + j) (u := u) (by rw [List.getElem?_append_right (by simp [tc]), show 8 + j - (tc y).length = j by simp [tc], List.getElem?_append_left (by simpa [tc] using hj8)]; exact hj)
   rwa [Nat.add_assoc]
 | _ => simp [CT.ess] at he
theorem RE_cst_s {W : World} {A : Nat → Prop} {s : ByteArray} {os : List (Option SL)} {x : C8} (h : RE W A (.cst s os) x) : x.k = 7 ∧ x.s = s := by
 obtain ⟨c, hc, he⟩ := h
 cases c with
 | cst s' ls m => simp only [CT.ess] at he; cases he; exact ⟨hc.1, hc.2.1⟩
 | _ => simp [CT.ess] at he
theorem RE_var_n {W : World} {A : Nat → Prop} {n : Int} {x : C8} (h : RE W A (.var n) x) : x.k = 1 ∧ x.n = n := by
 obtain ⟨c, hc, he⟩ := h
 cases c with
 | var n' m => simp only [CT.ess] at he; cases he; exact ⟨hc.1, hc.2.1⟩
 | _ => simp [CT.ess] at he
abbrev sA : ByteArray := ByteArray.mk #[97]
abbrev sC : ByteArray := ByteArray.mk #[99]
theorem aw_apps : PT.appsR (.var 1) [.var 0] = .two 6 (.var 1) (.var 0) := by
 unfold PT.appsR
 rw [if_pos (by unfold PT.ok; simp [PT.apps, PT.size, PT.dep])]
 rfl
theorem aw_inst : PT.inst (.two 4 (.cst sA []) (.two 6 (.var 1) (.var 0))) (.cst sC []) = .two 4 (.cst sA []) (.two 6 (.cst sC []) (.var 0)) := by
 have e : PT.put (.cst sC []) (.two 4 (.cst sA []) (.two 6 (.var 1) (.var 0))) 0 = .two 4 (.cst sA []) (.two 6 (.cst sC []) (.var 0)) := by simp [PT.put, PT.lift]
 unfold PT.inst
 rw [e, if_pos]
 unfold PT.ok
 simp [PT.size, PT.dep]
theorem x_eqSt {P : Program} {n : Nat} {l : List (Nat × Value)} {w : World} {t t' : TypeId} {x y : Operand} {s : ByteArray} (hx : ov l x = some (.string s)) (hy : ov l y = some (.string s)) : Runs P n l w (.binOp .eql t x y t') (.bool true) := by
 have := x_eqS (P := P) (n := n) (w := w) (t := t) (t' := t') rfl hx hy
 simpa using this
theorem awake15 (w0 : World) : Calls Try.prog 9 #[] w0 fun e w' => e = .returned (.bool true) ∧ Below w0.heap.size w0 w' := by
 have hB := Below.refl w0.heap.size w0
 have sB := hB.size
 refine calls_fs (vs := []) 35 [] Try.func9 rfl rfl rfl rfl rfl fun a F => ?_
 refine wp_rs fun _ K1 => F.sg rfl fun a F => ?_
 refine s_end (K1 _ _ ?_)
 refine wp_rs fun _ K2 => ?_
 refine s_callR (R := fun u w' => ∃ y, u = tv y ∧ RT w' (.cst sA []) y) [_, _] F E12 rfl (by decide) (Const18 sA [] nilS w0 (RVn.nil _ _)) ?_
 rintro _ w2 a ⟨y2, rfl, h2⟩ B3 F
 have sB3 := B3.size
 have hB := bt hB B3
 refine s_callR (R := fun u w' => ∃ y, u = tv y ∧ RC w' (fun _ => False) (.var 1 0) y) [_] F E10 rfl (by decide) (var16 1 w2 (by unfold in64; omega)) ?_
 rintro _ w4 a ⟨y3, rfl, h30⟩ B5 F
 have sB5 := B5.size
 have hB := bt hB B5
 have h2 := h2.below B5
 have h3 : RT w4 (.var 1) y3 := (RC.re h30).rt
 refine s_callR (R := fun u w' => ∃ y, u = tv y ∧ RC w' (fun _ => False) (.var 0 0) y) [_] F E10 rfl (by decide) (var16 0 w4 (by unfold in64; omega)) ?_
 rintro _ w6 a ⟨y4, rfl, h40⟩ B7 F
 have sB7 := B7.size
 have hB := bt hB B7
 have h2 := h2.below B7
 have h3 := h3.below B7
 have h4 : RT w6 (.var 0) y4 := (RC.re h40).rt
 refine s_litG [tv y4] el25 F (by decide) rfl (by simp [Value.cells, tc]) rfl (by decide) (by decide) fun w8 bl a ebl ml B9 zbl F => ?_
 have sB9 := B9.size
 have hB := bt hB B9
 have h2 := h2.below B9
 have h3 := h3.below B9
 have h4 := h4.below B9
 have ml : Blk w8 bl 27 (tc y4) := by simpa [Value.cells] using ml
 obtain ⟨c3, hc3, he3⟩ := h3
 obtain ⟨c4, hc4, he4⟩ := h4
 have hrk : RK w8 (fun k => k < w8.heap.size) (.slice (some ⟨bl, 0, none⟩) 1 1) [c4] := ⟨[y4], ⟨by simpa using Rd.blk ml (n := 1) rfl, fun _ b hb => by simp [Value.ownBlock] at hb; subst hb; exact ml.lt⟩, rfl, fun i x2 c2 e1 e2 => by rcases i with _ | i; (· simp at e1 e2; subst e1 e2; exact hc4); simp at e1⟩
 refine s_callR (R := fun u w' => ∃ y, u = tv y ∧ RT w' (PT.appsR c3.ess ([c4].map CT.ess)) y) [_, _] F E18 rfl (by decide) (Apps24 c3 y3 [c4] _ w8 hc3 hrk (by simp)) ?_
 rintro _ w10 a ⟨y6, rfl, h6⟩ B11 F
 have sB11 := B11.size
 have hB := bt hB B11
 have h2 := h2.below B11
 simp only [List.map_cons, List.map_nil] at h6
 rw [he3, he4, aw_apps] at h6
 obtain ⟨c2, hc2, he2⟩ := h2
 obtain ⟨c6, hc6, he6⟩ := h6
 refine s_callR (R := fun u w' => ∃ y, u = tv y ∧ RT w' (.two 4 c2.ess c6.ess) y) [_, _] F E15 rfl (by decide) (Lam21 c2 c6 y2 y6 w10 hc2 hc6) ?_
 rintro _ w12 a ⟨y7, rfl, h7⟩ B13 F
 have sB13 := B13.size
 have hB := bt hB B13
 rw [he2, he6] at h7
 refine s_callR (R := fun u w' => ∃ y, u = tv y ∧ RT w' (.cst sC []) y) [_, _] F E12 rfl (by decide) (Const18 sC [] nilS w12 (RVn.nil _ _)) ?_
 rintro _ w14 a ⟨y8, rfl, h8⟩ B15 F
 have sB15 := B15.size
 have hB := bt hB B15
 have h7 := h7.below B15
 obtain ⟨c7, hc7, he7⟩ := h7
 obtain ⟨c8, hc8, he8⟩ := h8
 refine s_callR (R := fun u w' => ∃ y, u = tv y ∧ RT w' (PT.inst c7.ess c8.ess) y) [_, _] F E23 rfl (by decide) (Inst42 c7 c8 y7 y8 w14 hc7 hc8) ?_
 rintro _ w16 a ⟨y9, rfl, h9⟩ B17 F
 have sB17 := B17.size
 have hB := bt hB B17
 rw [he7, he8, aw_inst] at h9
 have h9 : REx w16 (fun k => k < w16.heap.size) _ y9 := h9
 refine s_alloc F (by decide) zero27 fun w18 b1 a eb1 m1 B19 zb1 F => ?_
 have sB19 := B19.size
 have hB := bt hB B19
 have h9 := h9.below B19
 refine s_putW F rfl rfl (size_wide wide27) m1 rfl (RE.one h9) fun w22 m1 o23 => ?_
 have so23 := o23.size
 have hB := hB.trans (o23.below (by omega))
 have h9 := h9.only o23 (fun k (hk : k < w16.heap.size) => by omega)
 refine s_end (K2 _ _ ?_)
 obtain ⟨b9, off9, n9, cap9, ya, yb, hts, hn9, hk9, ha, hb9, _, _, _, hcb⟩ := RE_two_inv h9
 obtain ⟨b8, off8, n8, cap8, yc, yd, hts8, hn8, _, hc, hd, _, _, hcc, hcd⟩ := RE_two_inv hb9
 have hsc := (RE_cst_s hc).2
 have hnd := (RE_var_n hd).2
 have e5 := hcb 7 _ rfl
 rw [hts8] at e5
 have e2 := hcc 2 _ rfl
 rw [hsc] at e2
 have e1 := hcd 1 _ rfl
 rw [hnd] at e1
 have hm0 := m1.cell (j := 0) rfl
 have hm5 := m1.cell (j := 7) rfl
 rw [hts] at hm5
 rw [hk9] at hm0
 refine wp_rs fun _ K3 => F.vl (x_fa0 fa27_0 rfl) fun a F => F.vl (x_load rfl (m_load flat3 (hm0))) fun a F => F.vl (x_eql (b := true) rfl rfl rfl) fun a F => F.mv rfl fun a F => s_grd 13 F rfl rfl rfl <| F.vl (x_fa0 fa27_5 rfl) fun a F => s_grd 13 F rfl rfl rfl <| F.vl (x_load rfl (m_load flat25 (hm5))) fun a F => s_grd 13 F rfl rfl rfl <| F.vl (x_ixa rfl rfl (m_ixsK 1 Try.underlying25 el25.size rfl (by omega))) fun a F => s_grd 13 F rfl rfl rfl <| F.vl (x_fa fa27_5 rfl) fun a F => s_grd 13 F rfl rfl rfl <| F.vl (x_load rfl (m_load flat25 (by rw [Nat.one_mul]; exact e5))) fun a F => s_grd 13 F rfl rfl rfl <| F.vl (x_ixa rfl rfl (m_ixsK 0 Try.underlying25 el25.size rfl (by omega))) fun a F => s_grd 13 F rfl rfl rfl <| F.vl (x_fa fa27_2 rfl) fun a F => s_grd 13 F rfl rfl rfl <| F.vl (x_load rfl (m_load flat9 (by rw [Nat.zero_mul]; exact e2))) fun a F => s_grd 13 F rfl rfl rfl <| F.vl (x_eqSt rfl rfl) fun a F => F.vl (x_pick (b := true) rfl rfl) fun a F => F.mv rfl fun a F => s_grd 24 F rfl rfl rfl <| F.vl (x_fa0 fa27_5 rfl) fun a F => s_grd 24 F rfl rfl rfl <| F.vl (x_load rfl (m_load flat25 (hm5))) fun a F => s_grd 24 F rfl rfl rfl <| F.vl (x_ixa rfl rfl (m_ixsK 1 Try.underlying25 el25.size rfl (by omega))) fun a F => ?_
 refine s_grd 24 F rfl rfl rfl <| F.vl (x_fa fa27_5 rfl) fun a F => s_grd 24 F rfl rfl rfl <| F.vl (x_load rfl (m_load flat25 (by rw [Nat.one_mul]; exact e5))) fun a F => s_grd 24 F rfl rfl rfl <| F.vl (x_ixa rfl rfl (m_ixsK 1 Try.underlying25 el25.size rfl (by omega))) fun a F => s_grd 24 F rfl rfl rfl <| F.vl (x_fa fa27_1 rfl) fun a F => s_grd 24 F rfl rfl rfl <| F.vl (x_load rfl (m_load flat3 (by rw [Nat.one_mul]; exact e1))) fun a F => s_grd 24 F rfl rfl rfl <| F.vl (x_eql (b := true) rfl rfl rfl) fun a F => F.vl (x_pick (b := true) rfl rfl) fun a F => F.sg rfl fun a F => ?_
 refine s_end (K3 _ _ ?_)
 refine wp_ret (res_slot F rfl rfl ⟨rfl, hB⟩)
end Go.Proofs.Ytbhhbfdoadecgaa

namespace Go.Proofs.Ytbhhbfdoadecgaa
set_option maxRecDepth 100000
set_option maxHeartbeats 1600000
open Go.RowKit Go.Shelf
set_option linter.unusedVariables false
set_option linter.unusedSimpArgs false
def letC (c : UInt8) : Prop := 97 ≤ c.toNat ∧ c.toNat ≤ 122
def othC (c : UInt8) : Prop := (48 ≤ c.toNat ∧ c.toNat ≤ 57) ∨ c.toNat = 95 ∨ c.toNat = 46
def okAt (l : List UInt8) (i : Nat) : Prop := ∀ c, l[i]? = some c → letC c ∨ (i ≠ 0 ∧ othC c)
def nameP (l : List UInt8) : Prop := (∀ i, okAt l i) ∧ 1 ≤ l.length ∧ l.length ≤ 32
noncomputable def nameB (s : ByteArray) : Bool := @decide (nameP s.data.toList) (Classical.propDecidable _)
theorem nameB_true {s : ByteArray} : nameB s = true ↔ nameP s.data.toList := by unfold nameB; exact @decide_eq_true_iff _ (Classical.propDecidable _)
theorem nameB_of {s : ByteArray} {b : Bool} (h : b = true ↔ nameP s.data.toList) : nameB s = b := by
 rw [Bool.eq_iff_iff, nameB_true, h]
theorem size_list (s : ByteArray) : s.data.toList.length = s.size := by simp
/-- No name and no list of levels is longer than may be. -/
def CT.fit : CT → Prop
 | .cst s ls _ => s.size ≤ 9223372036854775807 ∧ ls.length ≤ 9223372036854775807
 | .two _ a b _ => a.fit ∧ b.fit
 | .lt a b c _ => a.fit ∧ b.fit ∧ c.fit
 | _ => True
theorem CT.fit_kid : ∀ {c k : CT} {i : Nat}, c.fit → c.kids[i]? = some k → k.fit
 | .two _ a b _, k, i, h, hk => by
  rcases i with _ | _ | i
  ·
   simp [CT.kids] at hk; subst hk; exact h.1
  ·
   simp [CT.kids] at hk; subst hk; exact h.2
  ·
   simp [CT.kids] at hk
 | .lt a b c _, k, i, h, hk => by
  rcases i with _ | _ | _ | i
  ·
   simp [CT.kids] at hk; subst hk; exact h.1
  ·
   simp [CT.kids] at hk; subst hk; exact h.2.1
  ·
   simp [CT.kids] at hk; subst hk; exact h.2.2
  ·
   simp [CT.kids] at hk
 | .var .., k, i, h, hk => by simp [CT.kids] at hk
 | .sort .., k, i, h, hk => by simp [CT.kids] at hk
 | .cst .., k, i, h, hk => by simp [CT.kids] at hk
 | .odd .., k, i, h, hk => by simp [CT.kids] at hk
def fstErr (vars : Int) : List Lv → Int
 | [] => 0
 | l :: ls => if (chk 32 1048576 vars 1 100 l).1 ≠ 0 then (chk 32 1048576 vars 1 100 l).1 else fstErr vars ls
noncomputable def leafErr (vars : Int) : CT → Int
 | .var n _ => if n < 0 ∨ 1048576 < n then 1 else 0
 | .sort l _ => (chk 32 1048576 vars 1 100 l).1
 | .cst s ls _ => if nameB s = false then 8 else if 6 < ls.length then 2 else fstErr vars ls
 | _ => 0
noncomputable def nodeErr (vars d : Int) (n : Nat) (c : CT) : Int := if 64 < d ∨ 400 < n then 2 else if arT c.kd < 0 ∨ (c.len : Int) ≠ arT c.kd then 1 else leafErr vars c
noncomputable def CT.mayT (vars : Int) : CT → Int → Nat → Int × Nat
 | .two k a b m, d, n => if nodeErr vars d (n + 1) (.two k a b m) ≠ 0 then (nodeErr vars d (n + 1) (.two k a b m), n + 1) else
  if (a.mayT vars (d + 1) (n + 1)).1 ≠ 0 then a.mayT vars (d + 1) (n + 1) else b.mayT vars (d + 1) (a.mayT vars (d + 1) (n + 1)).2
 | .lt a b c m, d, n => if nodeErr vars d (n + 1) (.lt a b c m) ≠ 0 then (nodeErr vars d (n + 1) (.lt a b c m), n + 1) else
  if (a.mayT vars (d + 1) (n + 1)).1 ≠ 0 then a.mayT vars (d + 1) (n + 1) else
  if (b.mayT vars (d + 1) (a.mayT vars (d + 1) (n + 1)).2).1 ≠ 0 then b.mayT vars (d + 1) (a.mayT vars (d + 1) (n + 1)).2 else c.mayT vars (d + 1) (b.mayT vars (d + 1) (a.mayT vars (d + 1) (n + 1)).2).2
 | .var z m, d, n => (nodeErr vars d (n + 1) (.var z m), n + 1)
 | .sort l m, d, n => (nodeErr vars d (n + 1) (.sort l m), n + 1)
 | .cst s ls m, d, n => (nodeErr vars d (n + 1) (.cst s ls m), n + 1)
 | .odd k m, d, n => (nodeErr vars d (n + 1) (.odd k m), n + 1)
noncomputable def mayK (vars : Int) : List CT → Int → Nat → Int × Nat
 | [], _, n => (0, n)
 | k :: ks, d, n => if (k.mayT vars d n).1 ≠ 0 then k.mayT vars d n else mayK vars ks d (k.mayT vars d n).2
theorem may_last (p : Int × Nat) : (if p.1 ≠ 0 then p else (0, p.2)) = p := by
  split
  · rfl
  · next h => have : p.1 = 0 := by omega
              rw [← this]
theorem mayT_eq (vars : Int) (c : CT) (d : Int) (n : Nat) : c.mayT vars d n = if nodeErr vars d (n + 1) c ≠ 0 then (nodeErr vars d (n + 1) c, n + 1) else mayK vars c.kids (d + 1) (n + 1) := by
 cases c <;> simp only [CT.mayT, CT.kids, mayK, may_last]
 all_goals (split <;> first | rfl | (rename_i h; rw [show nodeErr vars d (n + 1) _ = 0 by omega]))
theorem nodeErr_two {vars d : Int} {n : Nat} {c : CT} (h : 64 < d ∨ 400 < n) : nodeErr vars d n c = 2 := if_pos h
theorem nodeErr_one {vars d : Int} {n : Nat} {c : CT} (h : ¬ (64 < d ∨ 400 < n)) (h2 : arT c.kd < 0 ∨ (c.len : Int) ≠ arT c.kd) : nodeErr vars d n c = 1 := by unfold nodeErr; rw [if_neg h, if_pos h2]
theorem nodeErr_leaf {vars d : Int} {n : Nat} {c : CT} (h : ¬ (64 < d ∨ 400 < n)) (h2 : ¬ (arT c.kd < 0 ∨ (c.len : Int) ≠ arT c.kd)) : nodeErr vars d n c = leafErr vars c := by unfold nodeErr; rw [if_neg h, if_neg h2]
theorem leafErr_rest {W : World} {A : Nat → Prop} {vars : Int} : ∀ {c : CT} {x : C8}, RC W A c x → (x.k ≠ 1 ∧ x.k ≠ 2 ∧ x.k ≠ 7) → leafErr vars c = 0
 | .var .., x, h, hk => by have := h.1; omega
 | .sort .., x, h, hk => by have := h.1; omega
 | .cst .., x, h, hk => by have := h.1; omega
 | .odd .., x, h, hk => rfl
 | .two .., x, h, hk => rfl
 | .lt .., x, h, hk => rfl
/-- What passes. -/
def CT.okV (vars : Int) : CT → Prop
 | .var n _ => 0 ≤ n ∧ n ≤ 1048576
 | .sort l _ => (chk 32 1048576 vars 1 100 l).1 = 0
 | .cst _ ls _ => ls.length ≤ 6 ∧ ∀ l ∈ ls, (chk 32 1048576 vars 1 100 l).1 = 0
 | .odd .. => False
 | .two _ a b _ => a.okV vars ∧ b.okV vars
 | .lt a b c _ => a.okV vars ∧ b.okV vars ∧ c.okV vars
theorem fstErr_zero {vars : Int} : ∀ {ls : List Lv}, fstErr vars ls = 0 → ∀ l ∈ ls, (chk 32 1048576 vars 1 100 l).1 = 0
 | [], _, l, h => by cases h
 | l' :: ls, h, l, hl => by
  unfold fstErr at h
  split at h
  ·
   next h2 => exact absurd h h2
  ·
   next h2 =>
   rcases List.mem_cons.1 hl with rfl | hl
   ·
    omega
   ·
    exact fstErr_zero h l hl
theorem nodeErr_zero {vars d : Int} {n : Nat} {c : CT} (h : nodeErr vars d n c = 0) : d ≤ 64 ∧ n ≤ 400 ∧ ¬ (arT c.kd < 0 ∨ (c.len : Int) ≠ arT c.kd) ∧ leafErr vars c = 0 := by
 unfold nodeErr at h
 split at h
 ·
  omega
 ·
  split at h
  ·
   omega
  ·
   exact ⟨by omega, by omega, by assumption, h⟩
theorem may_zero {W : World} {A : Nat → Prop} {vars : Int} : ∀ (c : CT) (x : C8) (d : Int) (n : Nat), RC W A c x → (c.mayT vars d n).1 = 0 → c.okV vars ∧ (c.mayT vars d n).2 = n + c.size ∧ n + c.size ≤ 400 ∧ d + c.dep ≤ 65
 | .two k a b m, x, d, n, hx, h => by
  obtain ⟨_, _, ⟨y, z, cs, _, ha, hb⟩, _⟩ := hx
  simp only [CT.mayT] at h ⊢
  split at h
  ·
   next h1 => exact absurd h h1
  ·
   next h1 =>
   rw [if_neg h1]
   have h0 := nodeErr_zero (show nodeErr vars d (n + 1) (.two k a b m) = 0 by omega)
   split at h
   ·
    next h2 => exact absurd h h2
   ·
    next h2 =>
    rw [if_neg h2]
    obtain ⟨a1, a2, a3, a4⟩ := may_zero (vars := vars) a y (d + 1) (n + 1) ha (by omega)
    obtain ⟨b1, b2, b3, b4⟩ := may_zero (vars := vars) b z (d + 1) (a.mayT vars (d + 1) (n + 1)).2 hb h
    refine ⟨⟨a1, b1⟩, ?_, ?_, ?_⟩
    ·
     rw [b2, a2]; simp only [CT.size]; omega
    ·
     rw [a2] at b3; simp only [CT.size]; omega
    ·
     simp only [CT.dep]; omega
 | .lt a b c m, x, d, n, hx, h => by
  obtain ⟨_, ⟨y, z, u, cs, _, ha, hb, hc⟩, _⟩ := hx
  simp only [CT.mayT] at h ⊢
  split at h
  ·
   next h1 => exact absurd h h1
  ·
   next h1 =>
   rw [if_neg h1]
   have h0 := nodeErr_zero (show nodeErr vars d (n + 1) (.lt a b c m) = 0 by omega)
   split at h
   ·
    next h2 => exact absurd h h2
   ·
    next h2 =>
    rw [if_neg h2]
    split at h
    ·
     next h3 => exact absurd h h3
    ·
     next h3 =>
     rw [if_neg h3]
     obtain ⟨a1, a2, a3, a4⟩ := may_zero (vars := vars) a y (d + 1) (n + 1) ha (by omega)
     obtain ⟨b1, b2, b3, b4⟩ := may_zero (vars := vars) b z (d + 1) (a.mayT vars (d + 1) (n + 1)).2 hb (by omega)
     obtain ⟨c1, c2, c3, c4⟩ := may_zero (vars := vars) c u (d + 1) (b.mayT vars (d + 1) (a.mayT vars (d + 1) (n + 1)).2).2 hc h
     refine ⟨⟨a1, b1, c1⟩, ?_, ?_, ?_⟩
     ·
      rw [c2, b2, a2]; simp only [CT.size]; omega
     ·
      rw [b2, a2] at c3; simp only [CT.size]; omega
     ·
      simp only [CT.dep]; omega
 | .var z m, x, d, n, hx, h => by
  obtain ⟨h1, h2, h3, h4⟩ := nodeErr_zero h
  refine ⟨?_, rfl, h2, by simp only [CT.dep]; omega⟩
  simp only [leafErr] at h4
  simp only [CT.okV]
  split at h4 <;> omega
 | .sort l m, x, d, n, hx, h => by
  obtain ⟨h1, h2, h3, h4⟩ := nodeErr_zero h
  exact ⟨h4, rfl, h2, by simp only [CT.dep]; omega⟩
 | .cst s ls m, x, d, n, hx, h => by
  obtain ⟨h1, h2, h3, h4⟩ := nodeErr_zero h
  refine ⟨?_, rfl, h2, by simp only [CT.dep]; omega⟩
  simp only [leafErr] at h4
  split at h4
  ·
   omega
  ·
   split at h4
   ·
    omega
   ·
    exact ⟨by omega, fstErr_zero h4⟩
 | .odd k m, x, d, n, hx, h => by
  obtain ⟨h1, h2, h3, h4⟩ := nodeErr_zero h
  have := hx.2.1
  simp only [CT.kd, CT.len] at h3
  omega
theorem rName32 (s : ByteArray) (w0 : World) (hs : s.size ≤ 9223372036854775807) : Calls Try.prog 81 #[.string s] w0 fun e w' => e = .returned (.bool (nameB s)) ∧ w' = w0 := by
 refine calls_fs 51 [(0, .string s)] Try.func81 rfl rfl rfl rfl rfl fun a F => ?_
 refine wp_rs fun _ K1 => F.sg rfl fun a F => ?_
 refine s_end (K1 _ _ ?_)
 refine wp_seq_k fun _ K2 => ?_
 refine wp_rs fun _ K3 => F.mv rfl fun a F => F.vl (x_lenS Try.underlying9 rfl) fun a F => F.mv rfl fun a F => ?_
 refine s_end (K3 _ _ ?_)
 refine wp_block ?_
 refine wp_up s.size (fun i a w => w = w0 ∧ (∀ j, j < i → okAt s.data.toList j) ∧ Fs 51 a [(0, .string s), (7, .int .i64 (s.size : Int)), (8, .int .i64 (i : Int))]) ⟨rfl, (fun j h => absurd h (by omega)), F.sub _ rfl⟩ ?_
 clear F
 rintro i a w hi ⟨hw, hok, F⟩ K' hK'
 subst hw
 refine wp_rs fun _ K4 => F.vl (x_lss (b := decide (i < s.size)) (decide_eq_decide.2 (by omega)) rfl rfl) fun a F => ?_
 refine s_end (K4 _ _ ?_)
 refine wp_seq_k fun _ K5 => ?_
 refine wp_iff F rfl (fun hc9 => ?_) (fun hc9 => ?_)
 ·
  obtain ⟨q, hq⟩ : ∃ q, s.data.toList[i]? = some q := ⟨_, List.getElem?_eq_getElem (by rw [size_list]; omega)⟩
  refine wp_skip (K5 _ _ ?_)
  refine wp_seq_k fun _ K6 => ?_
  refine wp_block ?_
  refine wp_rs fun _ K7 => F.mv rfl fun a F => F.sg rfl fun a F => ?_
  refine s_end (K7 _ _ ?_)
  refine wp_rs fun _ K8 => F.mv rfl fun a F => F.mv rfl fun a F => F.vl (x_ix rfl rfl (m_ixstr i Try.underlying9 rfl hq)) fun a F => F.sg rfl fun a F => ?_
  refine s_end (K8 _ _ ?_)
  rcases (show (97 ≤ (q.toNat : Int) ∧ (q.toNat : Int) ≤ 122) ∨ (97 ≤ (q.toNat : Int) ∧ 122 < (q.toNat : Int)) ∨ (q.toNat : Int) < 97 by omega) with hq1 | hq1 | hq1
  ·
   skip
   refine wp_rs fun _ K10 => F.mv rfl fun a F => F.vl (geqT (by omega) rfl rfl) fun a F => F.mv rfl fun a F => s_grd 16 F rfl rfl rfl <| F.mv rfl fun a F => s_grd 16 F rfl rfl rfl <| F.vl (leqT (by omega) rfl rfl) fun a F => F.vl (x_pick (b := true) rfl rfl) fun a F => F.sg rfl fun a F => ?_
   refine s_end (K10 _ _ ?_)
   rcases (show (97 ≤ (q.toNat : Int) ∧ (q.toNat : Int) ≤ 122) ∨ (¬ (97 ≤ (q.toNat : Int) ∧ (q.toNat : Int) ≤ 122) ∧ (i : Int) = 0) ∨ (¬ (97 ≤ (q.toNat : Int) ∧ (q.toNat : Int) ≤ 122) ∧ (i : Int) ≠ 0 ∧ (q.toNat : Int) < 48 ∧ (q.toNat : Int) ≠ 46) ∨ (¬ (97 ≤ (q.toNat : Int) ∧ (q.toNat : Int) ≤ 122) ∧ (i : Int) ≠ 0 ∧ (q.toNat : Int) = 46) ∨ (¬ (97 ≤ (q.toNat : Int) ∧ (q.toNat : Int) ≤ 122) ∧ (i : Int) ≠ 0 ∧ 57 < (q.toNat : Int) ∧ (q.toNat : Int) = 95) ∨ (¬ (97 ≤ (q.toNat : Int) ∧ (q.toNat : Int) ≤ 122) ∧ (i : Int) ≠ 0 ∧ 57 < (q.toNat : Int) ∧ (q.toNat : Int) ≠ 95) ∨ (¬ (97 ≤ (q.toNat : Int) ∧ (q.toNat : Int) ≤ 122) ∧ (i : Int) ≠ 0 ∧ 48 ≤ (q.toNat : Int) ∧ (q.toNat : Int) ≤ 57) by omega) with hz | hz | hz | hz | hz | hz | hz
   ·
    have hoki : okAt s.data.toList i := fun c hc => by rw [hq] at hc; cases hc; unfold letC othC; omega
    refine wp_rs fun _ K12 => F.mv rfl fun a F => F.vl (x_not rfl) fun a F => F.mv rfl fun a F => s_grdn 22 F rfl rfl (by decide) fun a F => s_grdn 22 F rfl rfl (by decide) fun a F => s_grdn 22 F rfl rfl (by decide) fun a F => s_grdu 25 F rfl rfl (by decide) fun a F => s_grdu 25 F rfl rfl (by decide) fun a F => s_grdu 25 F rfl rfl (by decide) fun a F => s_grdu 28 F rfl rfl (by decide) fun a F => s_grdu 28 F rfl rfl (by decide) fun a F => s_grdu 25 F rfl rfl (by decide) fun a F => s_grdu 25 F rfl rfl (by decide) fun a F => s_grdu 32 F rfl rfl (by decide) fun a F => s_grdu 32 F rfl rfl (by decide) fun a F => s_grdu 25 F rfl rfl (by decide) fun a F => s_grdu 25 F rfl rfl (by decide) fun a F => s_grdu 36 F rfl rfl (by decide) fun a F => s_grdu 36 F rfl rfl (by decide) fun a F => s_grdu 25 F rfl rfl (by decide) fun a F => s_grdn 22 F rfl rfl (by decide) fun a F => F.vl (x_pick (b := false) rfl rfl) fun a F => ?_
    refine s_end (K12 _ _ ?_)
    refine wp_if F rfl ?_
    refine wp_skip (K6 _ _ ?_)
    refine wp_region_lit ?_
    refine F.vl (x_addn (i + 1) (by omega) (by omega) rfl rfl) fun a F => F.mv rfl fun a F => ?_
    refine s_end (hK' _ _ (by omega) ⟨rfl, (fun j hj => by rcases Nat.lt_or_ge j i with h | h; (· exact hok j h); (· rw [show j = i by omega]; exact hoki)), F.sub _ rfl⟩)
   ·
    exfalso; omega
   ·
    exfalso; omega
   ·
    exfalso; omega
   ·
    exfalso; omega
   ·
    exfalso; omega
   ·
    exfalso; omega
  ·
   skip
   refine wp_rs fun _ K13 => F.mv rfl fun a F => F.vl (geqT (by omega) rfl rfl) fun a F => F.mv rfl fun a F => s_grd 16 F rfl rfl rfl <| F.mv rfl fun a F => s_grd 16 F rfl rfl rfl <| F.vl (leqF (by omega) rfl rfl) fun a F => F.vl (x_pick (b := true) rfl rfl) fun a F => F.sg rfl fun a F => ?_
   refine s_end (K13 _ _ ?_)
   rcases (show (97 ≤ (q.toNat : Int) ∧ (q.toNat : Int) ≤ 122) ∨ (¬ (97 ≤ (q.toNat : Int) ∧ (q.toNat : Int) ≤ 122) ∧ (i : Int) = 0) ∨ (¬ (97 ≤ (q.toNat : Int) ∧ (q.toNat : Int) ≤ 122) ∧ (i : Int) ≠ 0 ∧ (q.toNat : Int) < 48 ∧ (q.toNat : Int) ≠ 46) ∨ (¬ (97 ≤ (q.toNat : Int) ∧ (q.toNat : Int) ≤ 122) ∧ (i : Int) ≠ 0 ∧ (q.toNat : Int) = 46) ∨ (¬ (97 ≤ (q.toNat : Int) ∧ (q.toNat : Int) ≤ 122) ∧ (i : Int) ≠ 0 ∧ 57 < (q.toNat : Int) ∧ (q.toNat : Int) = 95) ∨ (¬ (97 ≤ (q.toNat : Int) ∧ (q.toNat : Int) ≤ 122) ∧ (i : Int) ≠ 0 ∧ 57 < (q.toNat : Int) ∧ (q.toNat : Int) ≠ 95) ∨ (¬ (97 ≤ (q.toNat : Int) ∧ (q.toNat : Int) ≤ 122) ∧ (i : Int) ≠ 0 ∧ 48 ≤ (q.toNat : Int) ∧ (q.toNat : Int) ≤ 57) by omega) with hz | hz | hz | hz | hz | hz | hz
   ·
    exfalso; omega
   ·
    have hbad : nameB s = false := nameB_of ⟨fun h => absurd h (by decide), fun h => by have := h.1 i q hq; unfold letC othC at this; omega⟩
    refine wp_rs fun _ K15 => F.mv rfl fun a F => F.vl (x_not rfl) fun a F => F.mv rfl fun a F => s_grd 22 F rfl rfl rfl <| F.mv rfl fun a F => s_grd 22 F rfl rfl rfl <| F.vl (eqlT (by omega) rfl rfl) fun a F => s_grd 22 F rfl rfl rfl <| F.mv rfl fun a F => s_grdn 25 F rfl rfl (by decide) fun a F => s_grdn 25 F rfl rfl (by decide) fun a F => s_grdn 25 F rfl rfl (by decide) fun a F => s_grdu 28 F rfl rfl (by decide) fun a F => s_grdu 28 F rfl rfl (by decide) fun a F => s_grdn 25 F rfl rfl (by decide) fun a F => s_grdn 25 F rfl rfl (by decide) fun a F => s_grdu 32 F rfl rfl (by decide) fun a F => s_grdu 32 F rfl rfl (by decide) fun a F => s_grdn 25 F rfl rfl (by decide) fun a F => s_grdn 25 F rfl rfl (by decide) fun a F => s_grdu 36 F rfl rfl (by decide) fun a F => s_grdu 36 F rfl rfl (by decide) fun a F => s_grdn 25 F rfl rfl (by decide) fun a F => s_grd 22 F rfl rfl rfl <| F.vl (x_pick (b := true) rfl rfl) fun a F => F.vl (x_pick (b := true) rfl rfl) fun a F => ?_
    refine s_end (K15 _ _ ?_)
    refine wp_if F rfl ?_
    refine wp_rs fun _ K16 => F.sg rfl fun a F => ?_
    refine s_end (K16 _ _ ?_)
    refine wp_ret (inb_ret (then_ret (then_ret (inb_ret (then_ret (res_slot F rfl rfl ⟨by rw [hbad], rfl⟩))))))
   ·
    have hbad : nameB s = false := nameB_of ⟨fun h => absurd h (by decide), fun h => by have := h.1 i q hq; unfold letC othC at this; omega⟩
    refine wp_rs fun _ K17 => F.mv rfl fun a F => F.vl (x_not rfl) fun a F => F.mv rfl fun a F => s_grd 22 F rfl rfl rfl <| F.mv rfl fun a F => s_grd 22 F rfl rfl rfl <| F.vl (eqlF (by omega) rfl rfl) fun a F => s_grd 22 F rfl rfl rfl <| F.mv rfl fun a F => s_grd 25 F rfl rfl rfl <| F.mv rfl fun a F => s_grd 25 F rfl rfl rfl <| F.vl (lssT (by omega) rfl rfl) fun a F => s_grd 25 F rfl rfl rfl <| F.mv rfl fun a F => s_grdn 28 F rfl rfl (by decide) fun a F => s_grdn 28 F rfl rfl (by decide) fun a F => s_grd 25 F rfl rfl rfl <| F.vl (x_pick (b := true) rfl rfl) fun a F => s_grd 25 F rfl rfl rfl <| F.mv rfl fun a F => s_grd 32 F rfl rfl rfl <| F.mv rfl fun a F => s_grd 32 F rfl rfl rfl <| F.vl (neqT (by omega) rfl rfl) fun a F => s_grd 25 F rfl rfl rfl <| F.vl (x_pick (b := true) rfl rfl) fun a F => s_grd 25 F rfl rfl rfl <| F.mv rfl fun a F => s_grd 36 F rfl rfl rfl ?_
    refine F.mv rfl fun a F => s_grd 36 F rfl rfl rfl <| F.vl (neqT (by omega) rfl rfl) fun a F => s_grd 25 F rfl rfl rfl <| F.vl (x_pick (b := true) rfl rfl) fun a F => s_grd 22 F rfl rfl rfl <| F.vl (x_pick (b := false) rfl rfl) fun a F => F.vl (x_pick (b := true) rfl rfl) fun a F => ?_
    refine s_end (K17 _ _ ?_)
    refine wp_if F rfl ?_
    refine wp_rs fun _ K18 => F.sg rfl fun a F => ?_
    refine s_end (K18 _ _ ?_)
    refine wp_ret (inb_ret (then_ret (then_ret (inb_ret (then_ret (res_slot F rfl rfl ⟨by rw [hbad], rfl⟩))))))
   ·
    have hoki : okAt s.data.toList i := fun c hc => by rw [hq] at hc; cases hc; unfold letC othC; omega
    refine wp_rs fun _ K19 => F.mv rfl fun a F => F.vl (x_not rfl) fun a F => F.mv rfl fun a F => s_grd 22 F rfl rfl rfl <| F.mv rfl fun a F => s_grd 22 F rfl rfl rfl <| F.vl (eqlF (by omega) rfl rfl) fun a F => s_grd 22 F rfl rfl rfl <| F.mv rfl fun a F => s_grd 25 F rfl rfl rfl <| F.mv rfl fun a F => s_grd 25 F rfl rfl rfl <| F.vl (lssT (by omega) rfl rfl) fun a F => s_grd 25 F rfl rfl rfl <| F.mv rfl fun a F => s_grdn 28 F rfl rfl (by decide) fun a F => s_grdn 28 F rfl rfl (by decide) fun a F => s_grd 25 F rfl rfl rfl <| F.vl (x_pick (b := true) rfl rfl) fun a F => s_grd 25 F rfl rfl rfl <| F.mv rfl fun a F => s_grd 32 F rfl rfl rfl <| F.mv rfl fun a F => s_grd 32 F rfl rfl rfl <| F.vl (neqT (by omega) rfl rfl) fun a F => s_grd 25 F rfl rfl rfl <| F.vl (x_pick (b := true) rfl rfl) fun a F => s_grd 25 F rfl rfl rfl <| F.mv rfl fun a F => s_grd 36 F rfl rfl rfl ?_
    refine F.mv rfl fun a F => s_grd 36 F rfl rfl rfl <| F.vl (neqF (by omega) rfl rfl) fun a F => s_grd 25 F rfl rfl rfl <| F.vl (x_pick (b := true) rfl rfl) fun a F => s_grd 22 F rfl rfl rfl <| F.vl (x_pick (b := false) rfl rfl) fun a F => F.vl (x_pick (b := true) rfl rfl) fun a F => ?_
    refine s_end (K19 _ _ ?_)
    refine wp_if F rfl ?_
    refine wp_skip (K6 _ _ ?_)
    refine wp_region_lit ?_
    refine F.vl (x_addn (i + 1) (by omega) (by omega) rfl rfl) fun a F => F.mv rfl fun a F => ?_
    refine s_end (hK' _ _ (by omega) ⟨rfl, (fun j hj => by rcases Nat.lt_or_ge j i with h | h; (· exact hok j h); (· rw [show j = i by omega]; exact hoki)), F.sub _ rfl⟩)
   ·
    have hoki : okAt s.data.toList i := fun c hc => by rw [hq] at hc; cases hc; unfold letC othC; omega
    refine wp_rs fun _ K20 => F.mv rfl fun a F => F.vl (x_not rfl) fun a F => F.mv rfl fun a F => s_grd 22 F rfl rfl rfl <| F.mv rfl fun a F => s_grd 22 F rfl rfl rfl <| F.vl (eqlF (by omega) rfl rfl) fun a F => s_grd 22 F rfl rfl rfl <| F.mv rfl fun a F => s_grd 25 F rfl rfl rfl <| F.mv rfl fun a F => s_grd 25 F rfl rfl rfl <| F.vl (lssF (by omega) rfl rfl) fun a F => s_grd 25 F rfl rfl rfl <| F.mv rfl fun a F => s_grd 28 F rfl rfl rfl <| F.mv rfl fun a F => s_grd 28 F rfl rfl rfl <| F.vl (gtrT (by omega) rfl rfl) fun a F => s_grd 25 F rfl rfl rfl <| F.vl (x_pick (b := false) rfl rfl) fun a F => s_grd 25 F rfl rfl rfl <| F.mv rfl fun a F => s_grd 32 F rfl rfl rfl <| F.mv rfl fun a F => s_grd 32 F rfl rfl rfl <| F.vl (neqF (by omega) rfl rfl) fun a F => s_grd 25 F rfl rfl rfl <| F.vl (x_pick (b := true) rfl rfl) fun a F => s_grd 25 F rfl rfl rfl ?_
    refine F.mv rfl fun a F => s_grdn 36 F rfl rfl (by decide) fun a F => s_grdn 36 F rfl rfl (by decide) fun a F => s_grd 25 F rfl rfl rfl <| F.vl (x_pick (b := false) rfl rfl) fun a F => s_grd 22 F rfl rfl rfl <| F.vl (x_pick (b := false) rfl rfl) fun a F => F.vl (x_pick (b := true) rfl rfl) fun a F => ?_
    refine s_end (K20 _ _ ?_)
    refine wp_if F rfl ?_
    refine wp_skip (K6 _ _ ?_)
    refine wp_region_lit ?_
    refine F.vl (x_addn (i + 1) (by omega) (by omega) rfl rfl) fun a F => F.mv rfl fun a F => ?_
    refine s_end (hK' _ _ (by omega) ⟨rfl, (fun j hj => by rcases Nat.lt_or_ge j i with h | h; (· exact hok j h); (· rw [show j = i by omega]; exact hoki)), F.sub _ rfl⟩)
   ·
    have hbad : nameB s = false := nameB_of ⟨fun h => absurd h (by decide), fun h => by have := h.1 i q hq; unfold letC othC at this; omega⟩
    refine wp_rs fun _ K21 => F.mv rfl fun a F => F.vl (x_not rfl) fun a F => F.mv rfl fun a F => s_grd 22 F rfl rfl rfl <| F.mv rfl fun a F => s_grd 22 F rfl rfl rfl <| F.vl (eqlF (by omega) rfl rfl) fun a F => s_grd 22 F rfl rfl rfl <| F.mv rfl fun a F => s_grd 25 F rfl rfl rfl <| F.mv rfl fun a F => s_grd 25 F rfl rfl rfl <| F.vl (lssF (by omega) rfl rfl) fun a F => s_grd 25 F rfl rfl rfl <| F.mv rfl fun a F => s_grd 28 F rfl rfl rfl <| F.mv rfl fun a F => s_grd 28 F rfl rfl rfl <| F.vl (gtrT (by omega) rfl rfl) fun a F => s_grd 25 F rfl rfl rfl <| F.vl (x_pick (b := false) rfl rfl) fun a F => s_grd 25 F rfl rfl rfl <| F.mv rfl fun a F => s_grd 32 F rfl rfl rfl <| F.mv rfl fun a F => s_grd 32 F rfl rfl rfl <| F.vl (neqT (by omega) rfl rfl) fun a F => s_grd 25 F rfl rfl rfl <| F.vl (x_pick (b := true) rfl rfl) fun a F => s_grd 25 F rfl rfl rfl ?_
    refine F.mv rfl fun a F => s_grd 36 F rfl rfl rfl <| F.mv rfl fun a F => s_grd 36 F rfl rfl rfl <| F.vl (neqT (by omega) rfl rfl) fun a F => s_grd 25 F rfl rfl rfl <| F.vl (x_pick (b := true) rfl rfl) fun a F => s_grd 22 F rfl rfl rfl <| F.vl (x_pick (b := false) rfl rfl) fun a F => F.vl (x_pick (b := true) rfl rfl) fun a F => ?_
    refine s_end (K21 _ _ ?_)
    refine wp_if F rfl ?_
    refine wp_rs fun _ K22 => F.sg rfl fun a F => ?_
    refine s_end (K22 _ _ ?_)
    refine wp_ret (inb_ret (then_ret (then_ret (inb_ret (then_ret (res_slot F rfl rfl ⟨by rw [hbad], rfl⟩))))))
   ·
    have hoki : okAt s.data.toList i := fun c hc => by rw [hq] at hc; cases hc; unfold letC othC; omega
    refine wp_rs fun _ K23 => F.mv rfl fun a F => F.vl (x_not rfl) fun a F => F.mv rfl fun a F => s_grd 22 F rfl rfl rfl <| F.mv rfl fun a F => s_grd 22 F rfl rfl rfl <| F.vl (eqlF (by omega) rfl rfl) fun a F => s_grd 22 F rfl rfl rfl <| F.mv rfl fun a F => s_grd 25 F rfl rfl rfl <| F.mv rfl fun a F => s_grd 25 F rfl rfl rfl <| F.vl (lssF (by omega) rfl rfl) fun a F => s_grd 25 F rfl rfl rfl <| F.mv rfl fun a F => s_grd 28 F rfl rfl rfl <| F.mv rfl fun a F => s_grd 28 F rfl rfl rfl <| F.vl (gtrF (by omega) rfl rfl) fun a F => s_grd 25 F rfl rfl rfl <| F.vl (x_pick (b := false) rfl rfl) fun a F => s_grd 25 F rfl rfl rfl <| F.mv rfl fun a F => s_grdn 32 F rfl rfl (by decide) fun a F => s_grdn 32 F rfl rfl (by decide) fun a F => s_grd 25 F rfl rfl rfl <| F.vl (x_pick (b := false) rfl rfl) fun a F => s_grd 25 F rfl rfl rfl <| F.mv rfl fun a F => s_grdn 36 F rfl rfl (by decide) fun a F => ?_
    refine s_grdn 36 F rfl rfl (by decide) fun a F => s_grd 25 F rfl rfl rfl <| F.vl (x_pick (b := false) rfl rfl) fun a F => s_grd 22 F rfl rfl rfl <| F.vl (x_pick (b := false) rfl rfl) fun a F => F.vl (x_pick (b := true) rfl rfl) fun a F => ?_
    refine s_end (K23 _ _ ?_)
    refine wp_if F rfl ?_
    refine wp_skip (K6 _ _ ?_)
    refine wp_region_lit ?_
    refine F.vl (x_addn (i + 1) (by omega) (by omega) rfl rfl) fun a F => F.mv rfl fun a F => ?_
    refine s_end (hK' _ _ (by omega) ⟨rfl, (fun j hj => by rcases Nat.lt_or_ge j i with h | h; (· exact hok j h); (· rw [show j = i by omega]; exact hoki)), F.sub _ rfl⟩)
  ·
   skip
   refine wp_rs fun _ K24 => F.mv rfl fun a F => F.vl (geqF (by omega) rfl rfl) fun a F => F.mv rfl fun a F => s_grdn 16 F rfl rfl (by decide) fun a F => s_grdn 16 F rfl rfl (by decide) fun a F => F.vl (x_pick (b := false) rfl rfl) fun a F => F.sg rfl fun a F => ?_
   refine s_end (K24 _ _ ?_)
   rcases (show (97 ≤ (q.toNat : Int) ∧ (q.toNat : Int) ≤ 122) ∨ (¬ (97 ≤ (q.toNat : Int) ∧ (q.toNat : Int) ≤ 122) ∧ (i : Int) = 0) ∨ (¬ (97 ≤ (q.toNat : Int) ∧ (q.toNat : Int) ≤ 122) ∧ (i : Int) ≠ 0 ∧ (q.toNat : Int) < 48 ∧ (q.toNat : Int) ≠ 46) ∨ (¬ (97 ≤ (q.toNat : Int) ∧ (q.toNat : Int) ≤ 122) ∧ (i : Int) ≠ 0 ∧ (q.toNat : Int) = 46) ∨ (¬ (97 ≤ (q.toNat : Int) ∧ (q.toNat : Int) ≤ 122) ∧ (i : Int) ≠ 0 ∧ 57 < (q.toNat : Int) ∧ (q.toNat : Int) = 95) ∨ (¬ (97 ≤ (q.toNat : Int) ∧ (q.toNat : Int) ≤ 122) ∧ (i : Int) ≠ 0 ∧ 57 < (q.toNat : Int) ∧ (q.toNat : Int) ≠ 95) ∨ (¬ (97 ≤ (q.toNat : Int) ∧ (q.toNat : Int) ≤ 122) ∧ (i : Int) ≠ 0 ∧ 48 ≤ (q.toNat : Int) ∧ (q.toNat : Int) ≤ 57) by omega) with hz | hz | hz | hz | hz | hz | hz
   ·
    exfalso; omega
   ·
    have hbad : nameB s = false := nameB_of ⟨fun h => absurd h (by decide), fun h => by have := h.1 i q hq; unfold letC othC at this; omega⟩
    refine wp_rs fun _ K26 => F.mv rfl fun a F => F.vl (x_not rfl) fun a F => F.mv rfl fun a F => s_grd 22 F rfl rfl rfl <| F.mv rfl fun a F => s_grd 22 F rfl rfl rfl <| F.vl (eqlT (by omega) rfl rfl) fun a F => s_grd 22 F rfl rfl rfl <| F.mv rfl fun a F => s_grdn 25 F rfl rfl (by decide) fun a F => s_grdn 25 F rfl rfl (by decide) fun a F => s_grdn 25 F rfl rfl (by decide) fun a F => s_grdu 28 F rfl rfl (by decide) fun a F => s_grdu 28 F rfl rfl (by decide) fun a F => s_grdn 25 F rfl rfl (by decide) fun a F => s_grdn 25 F rfl rfl (by decide) fun a F => s_grdu 32 F rfl rfl (by decide) fun a F => s_grdu 32 F rfl rfl (by decide) fun a F => s_grdn 25 F rfl rfl (by decide) fun a F => s_grdn 25 F rfl rfl (by decide) fun a F => s_grdu 36 F rfl rfl (by decide) fun a F => s_grdu 36 F rfl rfl (by decide) fun a F => s_grdn 25 F rfl rfl (by decide) fun a F => s_grd 22 F rfl rfl rfl <| F.vl (x_pick (b := true) rfl rfl) fun a F => F.vl (x_pick (b := true) rfl rfl) fun a F => ?_
    refine s_end (K26 _ _ ?_)
    refine wp_if F rfl ?_
    refine wp_rs fun _ K27 => F.sg rfl fun a F => ?_
    refine s_end (K27 _ _ ?_)
    refine wp_ret (inb_ret (then_ret (then_ret (inb_ret (then_ret (res_slot F rfl rfl ⟨by rw [hbad], rfl⟩))))))
   ·
    have hbad : nameB s = false := nameB_of ⟨fun h => absurd h (by decide), fun h => by have := h.1 i q hq; unfold letC othC at this; omega⟩
    refine wp_rs fun _ K28 => F.mv rfl fun a F => F.vl (x_not rfl) fun a F => F.mv rfl fun a F => s_grd 22 F rfl rfl rfl <| F.mv rfl fun a F => s_grd 22 F rfl rfl rfl <| F.vl (eqlF (by omega) rfl rfl) fun a F => s_grd 22 F rfl rfl rfl <| F.mv rfl fun a F => s_grd 25 F rfl rfl rfl <| F.mv rfl fun a F => s_grd 25 F rfl rfl rfl <| F.vl (lssT (by omega) rfl rfl) fun a F => s_grd 25 F rfl rfl rfl <| F.mv rfl fun a F => s_grdn 28 F rfl rfl (by decide) fun a F => s_grdn 28 F rfl rfl (by decide) fun a F => s_grd 25 F rfl rfl rfl <| F.vl (x_pick (b := true) rfl rfl) fun a F => s_grd 25 F rfl rfl rfl <| F.mv rfl fun a F => s_grd 32 F rfl rfl rfl <| F.mv rfl fun a F => s_grd 32 F rfl rfl rfl <| F.vl (neqT (by omega) rfl rfl) fun a F => s_grd 25 F rfl rfl rfl <| F.vl (x_pick (b := true) rfl rfl) fun a F => s_grd 25 F rfl rfl rfl <| F.mv rfl fun a F => s_grd 36 F rfl rfl rfl ?_
    refine F.mv rfl fun a F => s_grd 36 F rfl rfl rfl <| F.vl (neqT (by omega) rfl rfl) fun a F => s_grd 25 F rfl rfl rfl <| F.vl (x_pick (b := true) rfl rfl) fun a F => s_grd 22 F rfl rfl rfl <| F.vl (x_pick (b := false) rfl rfl) fun a F => F.vl (x_pick (b := true) rfl rfl) fun a F => ?_
    refine s_end (K28 _ _ ?_)
    refine wp_if F rfl ?_
    refine wp_rs fun _ K29 => F.sg rfl fun a F => ?_
    refine s_end (K29 _ _ ?_)
    refine wp_ret (inb_ret (then_ret (then_ret (inb_ret (then_ret (res_slot F rfl rfl ⟨by rw [hbad], rfl⟩))))))
   ·
    have hoki : okAt s.data.toList i := fun c hc => by rw [hq] at hc; cases hc; unfold letC othC; omega
    refine wp_rs fun _ K30 => F.mv rfl fun a F => F.vl (x_not rfl) fun a F => F.mv rfl fun a F => s_grd 22 F rfl rfl rfl <| F.mv rfl fun a F => s_grd 22 F rfl rfl rfl <| F.vl (eqlF (by omega) rfl rfl) fun a F => s_grd 22 F rfl rfl rfl <| F.mv rfl fun a F => s_grd 25 F rfl rfl rfl <| F.mv rfl fun a F => s_grd 25 F rfl rfl rfl <| F.vl (lssT (by omega) rfl rfl) fun a F => s_grd 25 F rfl rfl rfl <| F.mv rfl fun a F => s_grdn 28 F rfl rfl (by decide) fun a F => s_grdn 28 F rfl rfl (by decide) fun a F => s_grd 25 F rfl rfl rfl <| F.vl (x_pick (b := true) rfl rfl) fun a F => s_grd 25 F rfl rfl rfl <| F.mv rfl fun a F => s_grd 32 F rfl rfl rfl <| F.mv rfl fun a F => s_grd 32 F rfl rfl rfl <| F.vl (neqT (by omega) rfl rfl) fun a F => s_grd 25 F rfl rfl rfl <| F.vl (x_pick (b := true) rfl rfl) fun a F => s_grd 25 F rfl rfl rfl <| F.mv rfl fun a F => s_grd 36 F rfl rfl rfl ?_
    refine F.mv rfl fun a F => s_grd 36 F rfl rfl rfl <| F.vl (neqF (by omega) rfl rfl) fun a F => s_grd 25 F rfl rfl rfl <| F.vl (x_pick (b := true) rfl rfl) fun a F => s_grd 22 F rfl rfl rfl <| F.vl (x_pick (b := false) rfl rfl) fun a F => F.vl (x_pick (b := true) rfl rfl) fun a F => ?_
    refine s_end (K30 _ _ ?_)
    refine wp_if F rfl ?_
    refine wp_skip (K6 _ _ ?_)
    refine wp_region_lit ?_
    refine F.vl (x_addn (i + 1) (by omega) (by omega) rfl rfl) fun a F => F.mv rfl fun a F => ?_
    refine s_end (hK' _ _ (by omega) ⟨rfl, (fun j hj => by rcases Nat.lt_or_ge j i with h | h; (· exact hok j h); (· rw [show j = i by omega]; exact hoki)), F.sub _ rfl⟩)
   ·
    have hoki : okAt s.data.toList i := fun c hc => by rw [hq] at hc; cases hc; unfold letC othC; omega
    refine wp_rs fun _ K31 => F.mv rfl fun a F => F.vl (x_not rfl) fun a F => F.mv rfl fun a F => s_grd 22 F rfl rfl rfl <| F.mv rfl fun a F => s_grd 22 F rfl rfl rfl <| F.vl (eqlF (by omega) rfl rfl) fun a F => s_grd 22 F rfl rfl rfl <| F.mv rfl fun a F => s_grd 25 F rfl rfl rfl <| F.mv rfl fun a F => s_grd 25 F rfl rfl rfl <| F.vl (lssF (by omega) rfl rfl) fun a F => s_grd 25 F rfl rfl rfl <| F.mv rfl fun a F => s_grd 28 F rfl rfl rfl <| F.mv rfl fun a F => s_grd 28 F rfl rfl rfl <| F.vl (gtrT (by omega) rfl rfl) fun a F => s_grd 25 F rfl rfl rfl <| F.vl (x_pick (b := false) rfl rfl) fun a F => s_grd 25 F rfl rfl rfl <| F.mv rfl fun a F => s_grd 32 F rfl rfl rfl <| F.mv rfl fun a F => s_grd 32 F rfl rfl rfl <| F.vl (neqF (by omega) rfl rfl) fun a F => s_grd 25 F rfl rfl rfl <| F.vl (x_pick (b := true) rfl rfl) fun a F => s_grd 25 F rfl rfl rfl ?_
    refine F.mv rfl fun a F => s_grdn 36 F rfl rfl (by decide) fun a F => s_grdn 36 F rfl rfl (by decide) fun a F => s_grd 25 F rfl rfl rfl <| F.vl (x_pick (b := false) rfl rfl) fun a F => s_grd 22 F rfl rfl rfl <| F.vl (x_pick (b := false) rfl rfl) fun a F => F.vl (x_pick (b := true) rfl rfl) fun a F => ?_
    refine s_end (K31 _ _ ?_)
    refine wp_if F rfl ?_
    refine wp_skip (K6 _ _ ?_)
    refine wp_region_lit ?_
    refine F.vl (x_addn (i + 1) (by omega) (by omega) rfl rfl) fun a F => F.mv rfl fun a F => ?_
    refine s_end (hK' _ _ (by omega) ⟨rfl, (fun j hj => by rcases Nat.lt_or_ge j i with h | h; (· exact hok j h); (· rw [show j = i by omega]; exact hoki)), F.sub _ rfl⟩)
   ·
    have hbad : nameB s = false := nameB_of ⟨fun h => absurd h (by decide), fun h => by have := h.1 i q hq; unfold letC othC at this; omega⟩
    refine wp_rs fun _ K32 => F.mv rfl fun a F => F.vl (x_not rfl) fun a F => F.mv rfl fun a F => s_grd 22 F rfl rfl rfl <| F.mv rfl fun a F => s_grd 22 F rfl rfl rfl <| F.vl (eqlF (by omega) rfl rfl) fun a F => s_grd 22 F rfl rfl rfl <| F.mv rfl fun a F => s_grd 25 F rfl rfl rfl <| F.mv rfl fun a F => s_grd 25 F rfl rfl rfl <| F.vl (lssF (by omega) rfl rfl) fun a F => s_grd 25 F rfl rfl rfl <| F.mv rfl fun a F => s_grd 28 F rfl rfl rfl <| F.mv rfl fun a F => s_grd 28 F rfl rfl rfl <| F.vl (gtrT (by omega) rfl rfl) fun a F => s_grd 25 F rfl rfl rfl <| F.vl (x_pick (b := false) rfl rfl) fun a F => s_grd 25 F rfl rfl rfl <| F.mv rfl fun a F => s_grd 32 F rfl rfl rfl <| F.mv rfl fun a F => s_grd 32 F rfl rfl rfl <| F.vl (neqT (by omega) rfl rfl) fun a F => s_grd 25 F rfl rfl rfl <| F.vl (x_pick (b := true) rfl rfl) fun a F => s_grd 25 F rfl rfl rfl ?_
    refine F.mv rfl fun a F => s_grd 36 F rfl rfl rfl <| F.mv rfl fun a F => s_grd 36 F rfl rfl rfl <| F.vl (neqT (by omega) rfl rfl) fun a F => s_grd 25 F rfl rfl rfl <| F.vl (x_pick (b := true) rfl rfl) fun a F => s_grd 22 F rfl rfl rfl <| F.vl (x_pick (b := false) rfl rfl) fun a F => F.vl (x_pick (b := true) rfl rfl) fun a F => ?_
    refine s_end (K32 _ _ ?_)
    refine wp_if F rfl ?_
    refine wp_rs fun _ K33 => F.sg rfl fun a F => ?_
    refine s_end (K33 _ _ ?_)
    refine wp_ret (inb_ret (then_ret (then_ret (inb_ret (then_ret (res_slot F rfl rfl ⟨by rw [hbad], rfl⟩))))))
   ·
    have hoki : okAt s.data.toList i := fun c hc => by rw [hq] at hc; cases hc; unfold letC othC; omega
    refine wp_rs fun _ K34 => F.mv rfl fun a F => F.vl (x_not rfl) fun a F => F.mv rfl fun a F => s_grd 22 F rfl rfl rfl <| F.mv rfl fun a F => s_grd 22 F rfl rfl rfl <| F.vl (eqlF (by omega) rfl rfl) fun a F => s_grd 22 F rfl rfl rfl <| F.mv rfl fun a F => s_grd 25 F rfl rfl rfl <| F.mv rfl fun a F => s_grd 25 F rfl rfl rfl <| F.vl (lssF (by omega) rfl rfl) fun a F => s_grd 25 F rfl rfl rfl <| F.mv rfl fun a F => s_grd 28 F rfl rfl rfl <| F.mv rfl fun a F => s_grd 28 F rfl rfl rfl <| F.vl (gtrF (by omega) rfl rfl) fun a F => s_grd 25 F rfl rfl rfl <| F.vl (x_pick (b := false) rfl rfl) fun a F => s_grd 25 F rfl rfl rfl <| F.mv rfl fun a F => s_grdn 32 F rfl rfl (by decide) fun a F => s_grdn 32 F rfl rfl (by decide) fun a F => s_grd 25 F rfl rfl rfl <| F.vl (x_pick (b := false) rfl rfl) fun a F => s_grd 25 F rfl rfl rfl <| F.mv rfl fun a F => s_grdn 36 F rfl rfl (by decide) fun a F => ?_
    refine s_grdn 36 F rfl rfl (by decide) fun a F => s_grd 25 F rfl rfl rfl <| F.vl (x_pick (b := false) rfl rfl) fun a F => s_grd 22 F rfl rfl rfl <| F.vl (x_pick (b := false) rfl rfl) fun a F => F.vl (x_pick (b := true) rfl rfl) fun a F => ?_
    refine s_end (K34 _ _ ?_)
    refine wp_if F rfl ?_
    refine wp_skip (K6 _ _ ?_)
    refine wp_region_lit ?_
    refine F.vl (x_addn (i + 1) (by omega) (by omega) rfl rfl) fun a F => F.mv rfl fun a F => ?_
    refine s_end (hK' _ _ (by omega) ⟨rfl, (fun j hj => by rcases Nat.lt_or_ge j i with h | h; (· exact hok j h); (· rw [show j = i by omega]; exact hoki)), F.sub _ rfl⟩)
 ·
  obtain rfl : i = s.size := by omega
  have hall : ∀ j, okAt s.data.toList j := fun j c hc => by have hj := (List.getElem?_eq_some_iff.1 hc).1; rw [size_list] at hj; exact hok j hj c hc
  refine wp_exit (K2 _ _ ?_)
  rcases (show 1 ≤ (s.size : Int) ∧ (s.size : Int) ≤ 32 ∨ (1 ≤ (s.size : Int) ∧ ¬ (s.size : Int) ≤ 32) ∨ ¬ 1 ≤ (s.size : Int) by omega) with hz | hz | hz
  ·
   have hres : nameB s = true := nameB_of ⟨fun _ => ⟨hall, by rw [size_list]; omega, by rw [size_list]; omega⟩, fun _ => rfl⟩
   refine wp_rs fun _ K36 => F.mv rfl fun a F => F.vl (x_lenS Try.underlying9 rfl) fun a F => F.vl (geqT (by omega) rfl rfl) fun a F => F.mv rfl fun a F => s_grd 46 F rfl rfl rfl <| F.mv rfl fun a F => s_grd 46 F rfl rfl rfl <| F.vl (x_lenS Try.underlying9 rfl) fun a F => s_grd 46 F rfl rfl rfl <| F.vl (leqT (by omega) rfl rfl) fun a F => F.vl (x_pick (b := true) rfl rfl) fun a F => F.sg rfl fun a F => ?_
   refine s_end (K36 _ _ ?_)
   refine wp_ret (res_slot F rfl rfl ⟨by rw [hres], rfl⟩)
  ·
   have hres : nameB s = false := nameB_of ⟨fun h => absurd h (by decide), fun h => by have h1 := h.2.1; have h2 := h.2.2; rw [size_list] at h1 h2; omega⟩
   refine wp_rs fun _ K37 => F.mv rfl fun a F => F.vl (x_lenS Try.underlying9 rfl) fun a F => F.vl (geqT (by omega) rfl rfl) fun a F => F.mv rfl fun a F => s_grd 46 F rfl rfl rfl <| F.mv rfl fun a F => s_grd 46 F rfl rfl rfl <| F.vl (x_lenS Try.underlying9 rfl) fun a F => s_grd 46 F rfl rfl rfl <| F.vl (leqF (by omega) rfl rfl) fun a F => F.vl (x_pick (b := true) rfl rfl) fun a F => F.sg rfl fun a F => ?_
   refine s_end (K37 _ _ ?_)
   refine wp_ret (res_slot F rfl rfl ⟨by rw [hres], rfl⟩)
  ·
   have hres : nameB s = false := nameB_of ⟨fun h => absurd h (by decide), fun h => by have h1 := h.2.1; have h2 := h.2.2; rw [size_list] at h1 h2; omega⟩
   refine wp_rs fun _ K38 => F.mv rfl fun a F => F.vl (x_lenS Try.underlying9 rfl) fun a F => F.vl (geqF (by omega) rfl rfl) fun a F => F.mv rfl fun a F => s_grdn 46 F rfl rfl (by decide) fun a F => s_grdn 46 F rfl rfl (by decide) fun a F => s_grdn 46 F rfl rfl (by decide) fun a F => F.vl (x_pick (b := false) rfl rfl) fun a F => F.sg rfl fun a F => ?_
   refine s_end (K38 _ _ ?_)
   refine wp_ret (res_slot F rfl rfl ⟨by rw [hres], rfl⟩)
end Go.Proofs.Ytbhhbfdoadecgaa

namespace Go.Proofs.Ytbhhbfdoadecgaa
set_option maxRecDepth 100000
set_option maxHeartbeats 1600000
open Go.RowKit Go.Shelf
set_option linter.unusedVariables false
set_option linter.unusedSimpArgs false
theorem mayK_at {vars d : Int} {ks : List CT} {i n : Nat} {k : CT} (h : ks[i]? = some k) : mayK vars (ks.drop i) d n = if (k.mayT vars d n).1 ≠ 0 then k.mayT vars d n else mayK vars (ks.drop (i + 1)) d (k.mayT vars d n).2 := by
 have hi : i < ks.length := (List.getElem?_eq_some_iff.1 h).1
 have : ks[i] = k := (List.getElem?_eq_some_iff.1 h).2
 rw [← List.getElem_cons_drop hi, this, mayK]
theorem fstErr_at {vars : Int} {ls : List Lv} {i : Nat} {l : Lv} (h : ls[i]? = some l) : fstErr vars (ls.drop i) = if (chk 32 1048576 vars 1 100 l).1 ≠ 0 then (chk 32 1048576 vars 1 100 l).1 else fstErr vars (ls.drop (i + 1)) := by
 have hi : i < ls.length := (List.getElem?_eq_some_iff.1 h).1
 have : ls[i] = l := (List.getElem?_eq_some_iff.1 h).2
 rw [← List.getElem_cons_drop hi, this, fstErr]
theorem CT.kids_arT2 {W : World} {A : Nat → Prop} {c : CT} {x : C8} (h : RC W A c x) (h2 : ¬ (arT c.kd < 0 ∨ (c.len : Int) ≠ arT c.kd)) : c.kids.length = c.len := by
 rcases CT.kids_arT h with h3 | h3 <;> omega
theorem rmay73 (vars : Int) (w0 : World) (g : Nat) (hg : w0.heap.size ≤ g) : ∀ (N : Nat) (c : CT) (x : C8), c.size < N → RC w0 (fun k => k < w0.heap.size) c x → c.fit → ∀ (d : Int) (n : Nat) (w1 : World), 0 ≤ d → d ≤ 65 → n ≤ 400 → Below w0.heap.size w0 w1 → Blk w1 g 3 [.int .i64 (n : Int)] →
    Calls Try.prog 112 #[tv x, .int .i64 vars, .int .i64 d, .pointer (some ⟨g, 0, none⟩)] w1 fun e w' => ∃ u, e = .returned u ∧ (u = .int .i64 (c.mayT vars d n).1 ∧ Blk w' g 3 [.int .i64 (((c.mayT vars d n).2 : Nat) : Int)]) ∧ Ktw g g w1 w' := by
  intro N
  induction N with
  | zero => intro s x h; omega
  | succ N ih =>
  intro c x hN hx hfit d n w1 hd0 hd1 hn hB mg
  have hK := Ktw.refl g g w1
  have sB := hB.size
  have sK := hK.size
  have hgl := mg.lt
  have heq := mayT_eq vars c d n
  have hrg := arT_rng c.kd
  obtain ⟨av, nv, cv, hts, hle9, hlen9, hcap, hkid⟩ := hx.kids
  obtain ⟨xk, xn, xs, xl, xls, xts⟩ := x
  simp only at hts
  subst hts
  have hkd : xk = c.kd := hx.kd
  have hone := hx.one
  obtain ⟨KC, hKC⟩ : ∃ KC, KC = c.kids := ⟨_, rfl⟩
  rw [← hKC] at heq hkid hle9 hcap
  refine calls_fs 108 [(0, tv ⟨xk, xn, xs, xl, xls, .slice av nv cv⟩), (1, .int .i64 vars), (2, .int .i64 d), (3, .pointer (some ⟨g, 0, none⟩))] Try.func112 rfl rfl rfl rfl rfl fun a F => ?_
  refine wp_rs fun _ K1 => ?_
  refine s_box ([.int .i64 xk, .int .i64 xn, .string xs, .int .i64 xl.1, .int .i64 xl.2.1, xl.2.2, xls, .slice av nv cv]) F (by decide) rfl rfl fun w2 b4 a eb4 m4 B3 zb4 F => ?_
  have sB3 := B3.size
  have hB := bt hB B3
  have hK := hK.below B3
  have mg := mg.old B3
  refine F.sg rfl fun a F => ?_
  refine s_end (K1 _ _ ?_)
  refine wp_rs fun _ K2 => F.mv rfl fun a F => F.vl (x_nil rfl) fun a F => F.ld mg flat3 rfl rfl fun a F => F.vl (x_addn (n + 1) (by omega) (by omega) rfl rfl) fun a F => F.vl (x_nil rfl) fun a F => ?_
  refine s_put F rfl rfl flat3 mg (by first | (simp; done) | (simp [tc, lc]; done) | decide) rfl fun w4 mg o5 => ?_
  have so5 := o5.size
  have hB := hB.trans (o5.below (by omega))
  have hK := hK.only o5 (by omega)
  have m4 := m4.only o5 (by omega)
  refine s_end (K2 _ _ ?_)
  refine wp_seq_k fun _ K3 => ?_
  refine wp_block ?_
  rcases (show 64 < d ∨ (¬ 64 < d ∧ 400 < ((n + 1 : Nat) : Int)) ∨ (¬ 64 < d ∧ ¬ 400 < ((n + 1 : Nat) : Int)) by omega) with hz | hz | hz
  · have hpre : nodeErr vars d (n + 1) c = 2 := nodeErr_two (by omega)
    rw [hpre, if_pos (by decide)] at heq
    refine wp_rs fun _ K5 => F.mv rfl fun a F => F.vl (gtrT (by omega) rfl rfl) fun a F => F.mv rfl fun a F => s_grdn 23 F rfl rfl (by decide) fun a F => s_grdn 23 F rfl rfl (by decide) fun a F => s_grdn 23 F rfl rfl (by decide) fun a F => s_grdn 23 F rfl rfl (by decide) fun a F => F.vl (x_pick (b := true) rfl rfl) fun a F => F.sg rfl fun a F => ?_
    refine s_end (K5 _ _ ?_)
    refine wp_if F rfl ?_
    refine wp_rs fun _ K6 => F.sg rfl fun a F => ?_
    refine s_end (K6 _ _ ?_)
    refine wp_ret (inb_ret (then_ret (res_slot F rfl rfl ⟨_, rfl, ⟨by rw [heq], by rw [heq]; exact mg⟩, hK⟩)))
  · have hpre : nodeErr vars d (n + 1) c = 2 := nodeErr_two (by omega)
    rw [hpre, if_pos (by decide)] at heq
    refine wp_rs fun _ K7 => F.mv rfl fun a F => F.vl (gtrF (by omega) rfl rfl) fun a F => F.mv rfl fun a F => s_grd 23 F rfl rfl rfl <| F.mv rfl fun a F => s_grd 23 F rfl rfl rfl <| F.vl (x_nil rfl) fun a F => s_grd 23 F rfl rfl rfl <| F.ld mg flat3 rfl rfl fun a F => s_grd 23 F rfl rfl rfl <| F.vl (gtrT (by omega) rfl rfl) fun a F => F.vl (x_pick (b := false) rfl rfl) fun a F => F.sg rfl fun a F => ?_
    refine s_end (K7 _ _ ?_)
    refine wp_if F rfl ?_
    refine wp_rs fun _ K8 => F.sg rfl fun a F => ?_
    refine s_end (K8 _ _ ?_)
    refine wp_ret (inb_ret (then_ret (res_slot F rfl rfl ⟨_, rfl, ⟨by rw [heq], by rw [heq]; exact mg⟩, hK⟩)))
  · skip
    refine wp_rs fun _ K9 => F.mv rfl fun a F => F.vl (gtrF (by omega) rfl rfl) fun a F => F.mv rfl fun a F => s_grd 23 F rfl rfl rfl <| F.mv rfl fun a F => s_grd 23 F rfl rfl rfl <| F.vl (x_nil rfl) fun a F => s_grd 23 F rfl rfl rfl <| F.ld mg flat3 rfl rfl fun a F => s_grd 23 F rfl rfl rfl <| F.vl (gtrF (by omega) rfl rfl) fun a F => F.vl (x_pick (b := false) rfl rfl) fun a F => F.sg rfl fun a F => ?_
    refine s_end (K9 _ _ ?_)
    refine wp_if F rfl ?_
    rcases (show arT c.kd < 0 ∨ (¬ arT c.kd < 0 ∧ (nv : Int) ≠ arT c.kd) ∨ (¬ arT c.kd < 0 ∧ (nv : Int) = arT c.kd) by omega) with hy | hy | hy
    · have hpre : nodeErr vars d (n + 1) c = 1 := nodeErr_one (by omega) (by omega)
      rw [hpre, if_pos (by decide)] at heq
      refine dk2_seq (w4.heap.size) (w4.heap.size) (ops := regOps Try.f112 4) (N := 14) (by kernel_rfl) wide_orders (by kernel_rfl) fun w6 hw6 B7 hS K11 hK11 => ?_
      have zw6 : w6.heap.size = w4.heap.size := by rw [hw6]
      have sB7 := B7.size
      have hB := bt hB B7
      have hK := hK.below B7
      have mg := mg.old B7
      have m4 := m4.old B7
      have mg_d := mg
      have m4_d := m4
      have hB_d := hB
      have hK_d := hK
      refine F.dv 0 30 (.fieldAddr 27 (.tmp 4) 0) hS (fun W hW => x_fa0 fa27_0 rfl) fun a F => F.dv 1 31 (.load 3 (.tmp 30)) hS (fun W hW => x_load rfl (m_load flat3 ((m4_d.k2 hW (by omega)).cell (j := 0) rfl))) fun a F => ?_
      refine d1 2 (some 32) (.call (.mk (.value (.func 86)) #[(.tmp 31)] #[3])) fun ty pos af => ?_
      refine s_callS [_] F E86 rfl (by decide) ((kids54 xk w6).mono fun e w' h => ⟨(by rw [h.1, hkd] : e = .returned (.int .i64 (arT c.kd))), h.2⟩) fun a F => ?_
      refine s_end ⟨hS, ?_⟩
      refine F.dv 3 33 (.binOp .lss 3 (.tmp 32) (.const (.int .i64 0)) 3) hS (fun W hW => lssT (by omega) rfl rfl) fun a F => F.dv 4 34 (.move (.tmp 33)) hS (fun W hW => x_move rfl) fun a F => d_skip 5 35 34 (j := 4) (want := false) (op := (.fieldAddr 27 (.tmp 4) 5)) F hS (by kernel_rfl) (by kernel_rfl) rfl (by kernel_rfl) (by decide) fun a F => d_skip 6 36 34 (j := 4) (want := false) (op := (.load 25 (.tmp 35))) F hS (by kernel_rfl) (by kernel_rfl) rfl (by kernel_rfl) (by decide) fun a F => d_skip 7 37 34 (j := 4) (want := false) (op := (.call (.mk (.builtin .len) #[(.tmp 36)] #[25]))) F hS (by kernel_rfl) (by kernel_rfl) rfl (by kernel_rfl) (by decide) fun a F => d_skip 8 38 34 (j := 4) (want := false) (op := (.fieldAddr 27 (.tmp 4) 0)) F hS (by kernel_rfl) (by kernel_rfl) rfl (by kernel_rfl) (by decide) fun a F => d_skip 9 39 34 (j := 4) (want := false) (op := (.load 3 (.tmp 38))) F hS (by kernel_rfl) (by kernel_rfl) rfl (by kernel_rfl) (by decide) fun a F => d_skip 10 40 34 (j := 4) (want := false) (op := (.call (.mk (.value (.func 86)) #[(.tmp 39)] #[3]))) F hS (by kernel_rfl) (by kernel_rfl) rfl (by kernel_rfl) (by decide) fun a F => d_skip 11 41 34 (j := 4) (want := false) (op := (.binOp .neq 3 (.tmp 37) (.tmp 40) 3)) F hS (by kernel_rfl) (by kernel_rfl) rfl (by kernel_rfl) (by decide) fun a F => F.dv 12 42 (.pick (.tmp 34) (.const (.bool true)) (.tmp 41)) hS (fun W hW => x_pick (b := true) rfl rfl) fun a F => F.dv 13 29 (.assign (.tmp 42)) hS (fun W hW => x_assign rfl) fun a F => ?_
      refine d_end (by kernel_rfl) (hK11 _ _ ?_)
      refine wp_if F rfl ?_
      refine wp_rs fun _ K12 => F.sg rfl fun a F => ?_
      refine s_end (K12 _ _ ?_)
      refine wp_ret (inb_ret (then_ret (res_slot F rfl rfl ⟨_, rfl, ⟨by rw [heq], by rw [heq]; exact mg⟩, hK⟩)))
    · have hpre : nodeErr vars d (n + 1) c = 1 := nodeErr_one (by omega) (by omega)
      rw [hpre, if_pos (by decide)] at heq
      refine dk2_seq (w4.heap.size) (w4.heap.size) (ops := regOps Try.f112 4) (N := 14) (by kernel_rfl) wide_orders (by kernel_rfl) fun w8 hw8 B9 hS K13 hK13 => ?_
      have zw8 : w8.heap.size = w4.heap.size := by rw [hw8]
      have sB9 := B9.size
      have hB := bt hB B9
      have hK := hK.below B9
      have mg := mg.old B9
      have m4 := m4.old B9
      have mg_d := mg
      have m4_d := m4
      have hB_d := hB
      have hK_d := hK
      refine F.dv 0 30 (.fieldAddr 27 (.tmp 4) 0) hS (fun W hW => x_fa0 fa27_0 rfl) fun a F => F.dv 1 31 (.load 3 (.tmp 30)) hS (fun W hW => x_load rfl (m_load flat3 ((m4_d.k2 hW (by omega)).cell (j := 0) rfl))) fun a F => ?_
      refine d1 2 (some 32) (.call (.mk (.value (.func 86)) #[(.tmp 31)] #[3])) fun ty pos af => ?_
      refine s_callS [_] F E86 rfl (by decide) ((kids54 xk w8).mono fun e w' h => ⟨(by rw [h.1, hkd] : e = .returned (.int .i64 (arT c.kd))), h.2⟩) fun a F => ?_
      refine s_end ⟨hS, ?_⟩
      refine F.dv 3 33 (.binOp .lss 3 (.tmp 32) (.const (.int .i64 0)) 3) hS (fun W hW => lssF (by omega) rfl rfl) fun a F => F.dv 4 34 (.move (.tmp 33)) hS (fun W hW => x_move rfl) fun a F => F.dg 5 35 34 4 false (.fieldAddr 27 (.tmp 4) 5) hS rfl (fun W hW => x_fa0 fa27_5 rfl) fun a F => F.dg 6 36 34 4 false (.load 25 (.tmp 35)) hS rfl (fun W hW => x_load rfl (m_load flat25 ((m4_d.k2 hW (by omega)).cell (j := 7) rfl))) fun a F => F.dg 7 37 34 4 false (.call (.mk (.builtin .len) #[(.tmp 36)] #[25])) hS rfl (fun W hW => x_len Try.underlying25 rfl) fun a F => F.dg 8 38 34 4 false (.fieldAddr 27 (.tmp 4) 0) hS rfl (fun W hW => x_fa0 fa27_0 rfl) fun a F => F.dg 9 39 34 4 false (.load 3 (.tmp 38)) hS rfl (fun W hW => x_load rfl (m_load flat3 ((m4_d.k2 hW (by omega)).cell (j := 0) rfl))) fun a F => ?_
      refine d_oneg 10 34 (some 40) (.call (.mk (.value (.func 86)) #[(.tmp 39)] #[3])) (j := 4) (want := false) F (by kernel_rfl) (by kernel_rfl) (by kernel_rfl) rfl fun ty pos af => ?_
      refine s_callS [_] F E86 rfl (by decide) ((kids54 xk w8).mono fun e w' h => ⟨(by rw [h.1, hkd] : e = .returned (.int .i64 (arT c.kd))), h.2⟩) fun a F => ?_
      refine s_end ⟨hS, ?_⟩
      refine F.dg 11 41 34 4 false (.binOp .neq 3 (.tmp 37) (.tmp 40) 3) hS rfl (fun W hW => neqT (by omega) rfl rfl) fun a F => F.dv 12 42 (.pick (.tmp 34) (.const (.bool true)) (.tmp 41)) hS (fun W hW => x_pick (b := false) rfl rfl) fun a F => F.dv 13 29 (.assign (.tmp 42)) hS (fun W hW => x_assign rfl) fun a F => ?_
      refine d_end (by kernel_rfl) (hK13 _ _ ?_)
      refine wp_if F rfl ?_
      refine wp_rs fun _ K14 => F.sg rfl fun a F => ?_
      refine s_end (K14 _ _ ?_)
      refine wp_ret (inb_ret (then_ret (res_slot F rfl rfl ⟨_, rfl, ⟨by rw [heq], by rw [heq]; exact mg⟩, hK⟩)))
    · skip
      refine dk2_seq (w4.heap.size) (w4.heap.size) (ops := regOps Try.f112 4) (N := 14) (by kernel_rfl) wide_orders (by kernel_rfl) fun w10 hw10 B11 hS K15 hK15 => ?_
      have zw10 : w10.heap.size = w4.heap.size := by rw [hw10]
      have sB11 := B11.size
      have hB := bt hB B11
      have hK := hK.below B11
      have mg := mg.old B11
      have m4 := m4.old B11
      have mg_d := mg
      have m4_d := m4
      have hB_d := hB
      have hK_d := hK
      refine F.dv 0 30 (.fieldAddr 27 (.tmp 4) 0) hS (fun W hW => x_fa0 fa27_0 rfl) fun a F => F.dv 1 31 (.load 3 (.tmp 30)) hS (fun W hW => x_load rfl (m_load flat3 ((m4_d.k2 hW (by omega)).cell (j := 0) rfl))) fun a F => ?_
      refine d1 2 (some 32) (.call (.mk (.value (.func 86)) #[(.tmp 31)] #[3])) fun ty pos af => ?_
      refine s_callS [_] F E86 rfl (by decide) ((kids54 xk w10).mono fun e w' h => ⟨(by rw [h.1, hkd] : e = .returned (.int .i64 (arT c.kd))), h.2⟩) fun a F => ?_
      refine s_end ⟨hS, ?_⟩
      refine F.dv 3 33 (.binOp .lss 3 (.tmp 32) (.const (.int .i64 0)) 3) hS (fun W hW => lssF (by omega) rfl rfl) fun a F => F.dv 4 34 (.move (.tmp 33)) hS (fun W hW => x_move rfl) fun a F => F.dg 5 35 34 4 false (.fieldAddr 27 (.tmp 4) 5) hS rfl (fun W hW => x_fa0 fa27_5 rfl) fun a F => F.dg 6 36 34 4 false (.load 25 (.tmp 35)) hS rfl (fun W hW => x_load rfl (m_load flat25 ((m4_d.k2 hW (by omega)).cell (j := 7) rfl))) fun a F => F.dg 7 37 34 4 false (.call (.mk (.builtin .len) #[(.tmp 36)] #[25])) hS rfl (fun W hW => x_len Try.underlying25 rfl) fun a F => F.dg 8 38 34 4 false (.fieldAddr 27 (.tmp 4) 0) hS rfl (fun W hW => x_fa0 fa27_0 rfl) fun a F => F.dg 9 39 34 4 false (.load 3 (.tmp 38)) hS rfl (fun W hW => x_load rfl (m_load flat3 ((m4_d.k2 hW (by omega)).cell (j := 0) rfl))) fun a F => ?_
      refine d_oneg 10 34 (some 40) (.call (.mk (.value (.func 86)) #[(.tmp 39)] #[3])) (j := 4) (want := false) F (by kernel_rfl) (by kernel_rfl) (by kernel_rfl) rfl fun ty pos af => ?_
      refine s_callS [_] F E86 rfl (by decide) ((kids54 xk w10).mono fun e w' h => ⟨(by rw [h.1, hkd] : e = .returned (.int .i64 (arT c.kd))), h.2⟩) fun a F => ?_
      refine s_end ⟨hS, ?_⟩
      refine F.dg 11 41 34 4 false (.binOp .neq 3 (.tmp 37) (.tmp 40) 3) hS rfl (fun W hW => neqF (by omega) rfl rfl) fun a F => F.dv 12 42 (.pick (.tmp 34) (.const (.bool true)) (.tmp 41)) hS (fun W hW => x_pick (b := false) rfl rfl) fun a F => F.dv 13 29 (.assign (.tmp 42)) hS (fun W hW => x_assign rfl) fun a F => ?_
      refine d_end (by kernel_rfl) (hK15 _ _ ?_)
      refine wp_if F rfl ?_
      rcases (show (xk = 1 ∧ xn < 0) ∨ (xk = 1 ∧ ¬ xn < 0 ∧ 1048576 < xn) ∨ (xk = 1 ∧ ¬ xn < 0 ∧ ¬ 1048576 < xn) ∨ xk = 2 ∨ xk = 7 ∨ (xk ≠ 1 ∧ xk ≠ 2 ∧ xk ≠ 7) by omega) with hq | hq | hq | hq | hq | hq
      · have hlf := nodeErr_leaf (vars := vars) (n := n + 1) (d := d) (c := c) (by omega) (by omega)
        obtain ⟨z, m, rfl⟩ := hx.var_of hq.1
        have hzn : xn = z := hx.2.1
        have hle : leafErr vars (.var z m) = 1 := by simp only [leafErr]; rw [if_pos (by omega)]
        rw [hle] at hlf
        rw [hlf, if_pos (by decide)] at heq
        refine wp_rs fun _ K17 => F.vl (x_fa0 fa27_0 rfl) fun a F => F.ld m4 flat3 rfl rfl fun a F => F.vl (eqlT (by omega) rfl rfl) fun a F => F.mv rfl fun a F => s_grd 47 F rfl rfl rfl <| F.vl (x_fa0 fa27_1 rfl) fun a F => s_grd 47 F rfl rfl rfl <| F.ld m4 flat3 rfl rfl fun a F => s_grd 47 F rfl rfl rfl <| F.vl (lssT (by omega) rfl rfl) fun a F => s_grd 47 F rfl rfl rfl <| F.mv rfl fun a F => s_grdn 51 F rfl rfl (by decide) fun a F => s_grdn 51 F rfl rfl (by decide) fun a F => s_grdn 51 F rfl rfl (by decide) fun a F => s_grd 47 F rfl rfl rfl <| F.vl (x_pick (b := true) rfl rfl) fun a F => F.vl (x_pick (b := true) rfl rfl) fun a F => F.sg rfl fun a F => ?_
        refine s_end (K17 _ _ ?_)
        refine wp_if F rfl ?_
        refine wp_rs fun _ K18 => F.sg rfl fun a F => ?_
        refine s_end (K18 _ _ ?_)
        refine wp_ret (inb_ret (then_ret (res_slot F rfl rfl ⟨_, rfl, ⟨by rw [heq], by rw [heq]; exact mg⟩, hK⟩)))
      · have hlf := nodeErr_leaf (vars := vars) (n := n + 1) (d := d) (c := c) (by omega) (by omega)
        obtain ⟨z, m, rfl⟩ := hx.var_of hq.1
        have hzn : xn = z := hx.2.1
        have hle : leafErr vars (.var z m) = 1 := by simp only [leafErr]; rw [if_pos (by omega)]
        rw [hle] at hlf
        rw [hlf, if_pos (by decide)] at heq
        refine wp_rs fun _ K19 => F.vl (x_fa0 fa27_0 rfl) fun a F => F.ld m4 flat3 rfl rfl fun a F => F.vl (eqlT (by omega) rfl rfl) fun a F => F.mv rfl fun a F => s_grd 47 F rfl rfl rfl <| F.vl (x_fa0 fa27_1 rfl) fun a F => s_grd 47 F rfl rfl rfl <| F.ld m4 flat3 rfl rfl fun a F => s_grd 47 F rfl rfl rfl <| F.vl (lssF (by omega) rfl rfl) fun a F => s_grd 47 F rfl rfl rfl <| F.mv rfl fun a F => s_grd 51 F rfl rfl rfl <| F.vl (x_fa0 fa27_1 rfl) fun a F => s_grd 51 F rfl rfl rfl <| F.ld m4 flat3 rfl rfl fun a F => s_grd 51 F rfl rfl rfl <| F.vl (gtrT (by omega) rfl rfl) fun a F => s_grd 47 F rfl rfl rfl <| F.vl (x_pick (b := false) rfl rfl) fun a F => F.vl (x_pick (b := true) rfl rfl) fun a F => F.sg rfl fun a F => ?_
        refine s_end (K19 _ _ ?_)
        refine wp_if F rfl ?_
        refine wp_rs fun _ K20 => F.sg rfl fun a F => ?_
        refine s_end (K20 _ _ ?_)
        refine wp_ret (inb_ret (then_ret (res_slot F rfl rfl ⟨_, rfl, ⟨by rw [heq], by rw [heq]; exact mg⟩, hK⟩)))
      · have hlf := nodeErr_leaf (vars := vars) (n := n + 1) (d := d) (c := c) (by omega) (by omega)
        obtain ⟨z, m, rfl⟩ := hx.var_of hq.1
        have hzn : xn = z := hx.2.1
        have hle : leafErr vars (.var z m) = 0 := by simp only [leafErr]; rw [if_neg (by omega)]
        rw [hle] at hlf
        rw [hlf, if_neg (by decide)] at heq
        have hk9 := CT.kids_arT2 hx (by omega)
        rw [← hKC] at hk9
        refine wp_rs fun _ K21 => F.vl (x_fa0 fa27_0 rfl) fun a F => F.ld m4 flat3 rfl rfl fun a F => F.vl (eqlT (by omega) rfl rfl) fun a F => F.mv rfl fun a F => s_grd 47 F rfl rfl rfl <| F.vl (x_fa0 fa27_1 rfl) fun a F => s_grd 47 F rfl rfl rfl <| F.ld m4 flat3 rfl rfl fun a F => s_grd 47 F rfl rfl rfl <| F.vl (lssF (by omega) rfl rfl) fun a F => s_grd 47 F rfl rfl rfl <| F.mv rfl fun a F => s_grd 51 F rfl rfl rfl <| F.vl (x_fa0 fa27_1 rfl) fun a F => s_grd 51 F rfl rfl rfl <| F.ld m4 flat3 rfl rfl fun a F => s_grd 51 F rfl rfl rfl <| F.vl (gtrF (by omega) rfl rfl) fun a F => s_grd 47 F rfl rfl rfl <| F.vl (x_pick (b := false) rfl rfl) fun a F => F.vl (x_pick (b := true) rfl rfl) fun a F => F.sg rfl fun a F => ?_
        refine s_end (K21 _ _ ?_)
        refine wp_if F rfl ?_
        refine wp_rs fun _ K22 => F.vl (x_fa0 fa27_0 rfl) fun a F => F.ld m4 flat3 rfl rfl fun a F => F.vl (eqlF (by omega) rfl rfl) fun a F => F.sg rfl fun a F => ?_
        refine s_end (K22 _ _ ?_)
        refine wp_if F rfl ?_
        refine wp_rs fun _ K23 => F.vl (x_fa0 fa27_0 rfl) fun a F => F.ld m4 flat3 rfl rfl fun a F => F.vl (eqlF (by omega) rfl rfl) fun a F => F.sg rfl fun a F => ?_
        refine s_end (K23 _ _ ?_)
        refine wp_if F rfl ?_
        refine wp_skip (K3 _ _ ?_)
        refine wp_seq_k fun _ K24 => ?_
        refine wp_rs fun _ K25 => F.vl (x_fa0 fa27_5 rfl) fun a F => F.ld m4 flat25 rfl rfl fun a F => F.vl (x_len Try.underlying25 rfl) fun a F => F.mv rfl fun a F => ?_
        refine s_end (K25 _ _ ?_)
        refine wp_block ?_
        refine wp_up nv (fun i a w => ∃ n2 : Nat, mayK vars (KC.drop i) (d + 1) n2 = mayK vars KC (d + 1) (n + 1) ∧ n2 ≤ 400 ∧ Blk w g 3 [.int .i64 (n2 : Int)] ∧ Below w0.heap.size w0 w ∧ Ktw g g w1 w ∧ Fs 108 a [(1, .int .i64 vars), (2, .int .i64 d), (3, .pointer (some ⟨g, 0, none⟩)), (92, .slice av nv cv), (93, .int .i64 (nv : Int)), (94, .int .i64 (i : Int))]) ⟨n + 1, rfl, by omega, mg, hB, hK, F.sub _ rfl⟩ ?_
        repeat clear F
        clear hB hK mg m4
        rintro i a w hi ⟨n2, hn2, hn3, mg, hB, hK, F⟩ K' hK'
        have sB := hB.size
        have sK := hK.size
        have hgl := mg.lt
        refine wp_rs fun _ K26 => F.vl (x_lss (b := decide (i < nv)) (decide_eq_decide.2 (by omega)) rfl rfl) fun a F => ?_
        refine s_end (K26 _ _ ?_)
        refine wp_seq_k fun _ K27 => ?_
        refine wp_iff F rfl (fun hc95 => ?_) (fun hc95 => ?_)
        · obtain ⟨b9, off9, c9, y, kd, hve, hyk, hry, hAb, hbl, hrow⟩ := hkid.row (i := i) (by omega)
          cases hve
          have hks := CT.kid_size (hKC ▸ hyk)
          have hkf := CT.fit_kid hfit (hKC ▸ hyk)
          have hma := mayK_at (vars := vars) (d := d + 1) (n := n2) hyk
          rw [hn2] at hma
          refine wp_skip (K27 _ _ ?_)
          refine wp_seq_k fun _ K28 => ?_
          refine wp_block ?_
          refine wp_rs fun _ K29 => F.vl (x_ixa rfl rfl (m_ixsK i Try.underlying25 el25.size rfl (by omega))) fun a F => F.vl (x_ldA wide27 (hrow _ (hB.block _ hbl)) rfl rfl) fun a F => ?_
          refine s_alloc F (by decide) zero27 fun w12 b13 a eb13 m13 B13 zb13 F => ?_
          have sB13 := B13.size
          have hB := bt hB B13
          have hK := hK.below B13
          have mg := mg.old B13
          refine s_putW F rfl rfl (size_wide wide27) m13 rfl hry.one fun w16 m13 o17 => ?_
          have so17 := o17.size
          have hB := hB.trans (o17.below (by omega))
          have hK := hK.only o17 (by omega)
          have mg := mg.only o17 (by omega)
          refine s_end (K29 _ _ ?_)
          refine wp_rs fun _ K30 => F.vl (x_ldW wide27 m13 rfl rfl) fun a F => F.mv rfl fun a F => F.mv rfl fun a F => F.vl (x_add (by omega) (by omega) rfl rfl) fun a F => F.mv rfl fun a F => ?_
          refine s_call (R := fun u w' => (u = .int .i64 (kd.mayT vars (d + 1) n2).1 ∧ Blk w' g 3 [.int .i64 (((kd.mayT vars (d + 1) n2).2 : Nat) : Int)]) ∧ Ktw g g w16 w') F [_, _, _, _] E112 rfl (by decide) (ih kd y (by omega) hry hkf (d + 1) n2 w16 (by omega) (by omega) hn3 hB mg) ?_
          rintro _ w18 a ⟨⟨rfl, mg⟩, k19⟩ F
          have sk19 := k19.size
          have hB := k19.under hB (by omega)
          have hK := hK.trans k19 (by omega)
          refine F.sg rfl fun a F => ?_
          refine s_end (K30 _ _ ?_)
          refine wp_rs fun _ K31 => F.mv rfl fun a F => F.vl (x_neq rfl rfl rfl) fun a F => ?_
          refine s_end (K31 _ _ ?_)
          refine wp_iff F rfl (fun hc105 => ?_) (fun hc105 => ?_)
          · rw [if_pos hc105] at hma
            rw [hma] at heq
            refine wp_rs fun _ K32 => F.mv rfl fun a F => F.sg rfl fun a F => ?_
            refine s_end (K32 _ _ ?_)
            refine wp_ret (inb_ret (then_ret (then_ret (inb_ret (then_ret (res_slot F rfl rfl ⟨_, rfl, ⟨by rw [heq], by rw [heq]; exact mg⟩, hK⟩))))))
          · rw [if_neg hc105] at hma
            have hmz := may_zero (vars := vars) kd y (d + 1) n2 hry (by omega)
            refine wp_skip (K28 _ _ ?_)
            refine wp_region_lit ?_
            refine F.vl (x_addn (i + 1) (by omega) (by omega) rfl rfl) fun a F => F.mv rfl fun a F => ?_
            refine s_end (hK' _ _ (by omega) ⟨_, hma.symm, by omega, mg, hB, hK, F.sub _ rfl⟩)
        · obtain rfl : i = nv := by omega
          rw [List.drop_of_length_le (by omega), mayK] at hn2
          rw [← hn2] at heq
          refine wp_exit (K24 _ _ ?_)
          refine wp_rs fun _ K33 => F.sg rfl fun a F => ?_
          refine s_end (K33 _ _ ?_)
          refine wp_ret (res_slot F rfl rfl ⟨_, rfl, ⟨by rw [heq], by rw [heq]; exact mg⟩, hK⟩)
      · obtain ⟨l, m, rfl⟩ := hx.sort_of hq
        refine wp_rs fun _ K34 => F.vl (x_fa0 fa27_0 rfl) fun a F => F.ld m4 flat3 rfl rfl fun a F => F.vl (eqlF (by omega) rfl rfl) fun a F => F.mv rfl fun a F => s_grdn 47 F rfl rfl (by decide) fun a F => s_grdn 47 F rfl rfl (by decide) fun a F => s_grdn 47 F rfl rfl (by decide) fun a F => s_grdn 47 F rfl rfl (by decide) fun a F => s_grdu 51 F rfl rfl (by decide) fun a F => s_grdu 51 F rfl rfl (by decide) fun a F => s_grdu 51 F rfl rfl (by decide) fun a F => s_grdn 47 F rfl rfl (by decide) fun a F => F.vl (x_pick (b := false) rfl rfl) fun a F => F.sg rfl fun a F => ?_
        refine s_end (K34 _ _ ?_)
        refine wp_if F rfl ?_
        refine wp_rs fun _ K35 => F.vl (x_fa0 fa27_0 rfl) fun a F => F.ld m4 flat3 rfl rfl fun a F => F.vl (eqlT (by omega) rfl rfl) fun a F => F.sg rfl fun a F => ?_
        refine s_end (K35 _ _ ?_)
        refine wp_if F rfl ?_
        refine wp_rs fun _ K36 => F.vl (x_fa0 fa27_3 rfl) fun a F => F.vl (x_load rfl (m_loadP (vs := [_, _, _]) wide24 m4 rfl)) fun a F => F.mv rfl fun a F => ?_
        have hl9 : RLn w0 _ xl l := hx.2.1
        refine s_callB [_, _] F E28 rfl (by decide) (rmay14 xl l vars w10 ((hl9.keep hB.size (fun k hk _ => hB.block k hk)).rl)) fun w20 a B21 F => ?_
        have sB21 := B21.size
        have hK := hK.below B21
        have mg := mg.old B21
        refine F.sg rfl fun a F => ?_
        refine s_end (K36 _ _ ?_)
        have hcs : (CT.sort l m).mayT vars d n = ((chk 32 1048576 vars 1 100 l).1, n + 1) := by simp only [CT.mayT]; rw [nodeErr_leaf (by omega) (by omega)]; rfl
        refine wp_ret (inb_ret (then_ret (res_slot F rfl rfl ⟨_, rfl, ⟨by rw [hcs], by rw [hcs]; exact mg⟩, hK⟩)))
      · have hlf := nodeErr_leaf (vars := vars) (n := n + 1) (d := d) (c := c) (by omega) (by omega)
        obtain ⟨s, ls, m, rfl⟩ := hx.cst_of hq
        have hs9 : xs = s := hx.2.1
        have hls9 : RVn w0 _ xls ls := hx.2.2.1
        obtain ⟨la, lcp, hlv, _, _⟩ := hls9.form
        subst hs9 hlv
        refine wp_rs fun _ K37 => F.vl (x_fa0 fa27_0 rfl) fun a F => F.ld m4 flat3 rfl rfl fun a F => F.vl (eqlF (by omega) rfl rfl) fun a F => F.mv rfl fun a F => s_grdn 47 F rfl rfl (by decide) fun a F => s_grdn 47 F rfl rfl (by decide) fun a F => s_grdn 47 F rfl rfl (by decide) fun a F => s_grdn 47 F rfl rfl (by decide) fun a F => s_grdu 51 F rfl rfl (by decide) fun a F => s_grdu 51 F rfl rfl (by decide) fun a F => s_grdu 51 F rfl rfl (by decide) fun a F => s_grdn 47 F rfl rfl (by decide) fun a F => F.vl (x_pick (b := false) rfl rfl) fun a F => F.sg rfl fun a F => ?_
        refine s_end (K37 _ _ ?_)
        refine wp_if F rfl ?_
        refine wp_rs fun _ K38 => F.vl (x_fa0 fa27_0 rfl) fun a F => F.ld m4 flat3 rfl rfl fun a F => F.vl (eqlF (by omega) rfl rfl) fun a F => F.sg rfl fun a F => ?_
        refine s_end (K38 _ _ ?_)
        refine wp_if F rfl ?_
        refine wp_rs fun _ K39 => F.vl (x_fa0 fa27_0 rfl) fun a F => F.ld m4 flat3 rfl rfl fun a F => F.vl (eqlT (by omega) rfl rfl) fun a F => F.sg rfl fun a F => ?_
        refine s_end (K39 _ _ ?_)
        refine wp_if F rfl ?_
        refine wp_seq_k fun _ K40 => ?_
        rcases (show nameB xs = false ∨ nameB xs = true by cases nameB xs <;> simp) with hw | hw
        · have hle : leafErr vars (.cst xs ls m) = 8 := by simp only [leafErr]; rw [if_pos hw]
          rw [hle] at hlf
          rw [hlf, if_pos (by decide)] at heq
          refine wp_rs fun _ K42 => F.vl (x_fa0 fa27_2 rfl) fun a F => F.ld m4 flat9 rfl rfl fun a F => ?_
          refine s_callS [_] F E81 rfl (by decide) ((rName32 xs w10 hfit.1).mono fun e w' h => ⟨by rw [h.1, hw], h.2⟩) fun a F => ?_
          refine F.vl (x_not rfl) fun a F => ?_
          refine s_end (K42 _ _ ?_)
          refine wp_if F rfl ?_
          refine wp_rs fun _ K43 => F.sg rfl fun a F => ?_
          refine s_end (K43 _ _ ?_)
          refine wp_ret (then_ret (inb_ret (then_ret (res_slot F rfl rfl ⟨_, rfl, ⟨by rw [heq], by rw [heq]; exact mg⟩, hK⟩))))
        · skip
          refine wp_rs fun _ K44 => F.vl (x_fa0 fa27_2 rfl) fun a F => F.ld m4 flat9 rfl rfl fun a F => ?_
          refine s_callS [_] F E81 rfl (by decide) ((rName32 xs w10 hfit.1).mono fun e w' h => ⟨by rw [h.1, hw], h.2⟩) fun a F => ?_
          refine F.vl (x_not rfl) fun a F => ?_
          refine s_end (K44 _ _ ?_)
          refine wp_if F rfl ?_
          refine wp_skip (K40 _ _ ?_)
          refine wp_seq_k fun _ K45 => ?_
          rcases (show 6 < (ls.length : Int) ∨ ¬ 6 < (ls.length : Int) by omega) with hv | hv
          · have hle : leafErr vars (.cst xs ls m) = 2 := by simp only [leafErr]; rw [if_neg (by rw [hw]; decide), if_pos (by omega)]
            rw [hle] at hlf
            rw [hlf, if_pos (by decide)] at heq
            refine wp_rs fun _ K47 => F.vl (x_fa0 fa27_4 rfl) fun a F => F.ld m4 flat22 rfl rfl fun a F => F.vl (x_len Try.underlying22 rfl) fun a F => F.vl (gtrT (by omega) rfl rfl) fun a F => ?_
            refine s_end (K47 _ _ ?_)
            refine wp_if F rfl ?_
            refine wp_rs fun _ K48 => F.sg rfl fun a F => ?_
            refine s_end (K48 _ _ ?_)
            refine wp_ret (then_ret (inb_ret (then_ret (res_slot F rfl rfl ⟨_, rfl, ⟨by rw [heq], by rw [heq]; exact mg⟩, hK⟩))))
          · have hle0 : leafErr vars (.cst xs ls m) = fstErr vars ls := by simp only [leafErr]; rw [if_neg (by rw [hw]; decide), if_neg (by omega)]
            refine wp_rs fun _ K49 => F.vl (x_fa0 fa27_4 rfl) fun a F => F.ld m4 flat22 rfl rfl fun a F => F.vl (x_len Try.underlying22 rfl) fun a F => F.vl (gtrF (by omega) rfl rfl) fun a F => ?_
            refine s_end (K49 _ _ ?_)
            refine wp_if F rfl ?_
            refine wp_skip (K45 _ _ ?_)
            refine wp_rs fun _ K50 => F.vl (x_fa0 fa27_4 rfl) fun a F => F.ld m4 flat22 rfl rfl fun a F => F.vl (x_len Try.underlying22 rfl) fun a F => F.mv rfl fun a F => ?_
            refine s_end (K50 _ _ ?_)
            refine wp_block ?_
            refine wp_up ls.length (fun i a w => leafErr vars (.cst xs ls m) = fstErr vars (ls.drop i) ∧ Blk w g 3 [.int .i64 ((n + 1 : Nat) : Int)] ∧ Blk w b4 27 [.int .i64 xk, .int .i64 xn, .string xs, .int .i64 xl.1, .int .i64 xl.2.1, xl.2.2, .slice la ls.length lcp, .slice av nv cv] ∧ Below w0.heap.size w0 w ∧ Ktw g g w1 w ∧ Fs 108 a [(1, .int .i64 vars), (2, .int .i64 d), (3, .pointer (some ⟨g, 0, none⟩)), (4, .pointer (some ⟨b4, 0, none⟩)), (78, .slice la ls.length lcp), (79, .int .i64 (ls.length : Int)), (80, .int .i64 (i : Int))]) ⟨by simpa using hle0, mg, m4, hB, hK, F.sub _ rfl⟩ ?_
            have hb4 : b4 ≠ g ∧ w1.heap.size ≤ b4 := by omega
            repeat clear F
            clear hB hK mg m4
            rintro i a w hi ⟨hlei, mg, m4, hB, hK, F⟩ K' hK'
            have sB := hB.size
            have sK := hK.size
            have hgl := mg.lt
            have h4l := m4.lt
            refine wp_rs fun _ K51 => F.vl (x_lss (b := decide (i < ls.length)) (decide_eq_decide.2 (by omega)) rfl rfl) fun a F => ?_
            refine s_end (K51 _ _ ?_)
            refine wp_seq_k fun _ K52 => ?_
            refine wp_iff F rfl (fun hc81 => ?_) (fun hc81 => ?_)
            · obtain ⟨b9, off9, c9, y, l, hve, hl, hry, hAb, hbl, hrow⟩ := hls9.row (i := i) (by omega)
              cases hve
              have hfe := fstErr_at (vars := vars) hl
              have h1y := hry.rl.one1
              refine wp_skip (K52 _ _ ?_)
              refine wp_seq_k fun _ K53 => ?_
              refine wp_block ?_
              refine wp_rs fun _ K54 => F.vl (x_ixa rfl rfl (m_ixsK i Try.underlying22 el22.size rfl (by omega))) fun a F => F.vl (x_ldA wide24 (hrow _ (hB.block _ hbl)) rfl rfl) fun a F => ?_
              refine s_alloc F (by decide) zero24 fun w22 b10 a eb10 m10 B23 zb10 F => ?_
              have sB23 := B23.size
              have hB := bt hB B23
              have hK := hK.below B23
              have mg := mg.old B23
              have m4 := m4.old B23
              refine s_putW F rfl rfl (size_wide wide24) m10 rfl (one_lc h1y) fun w26 m10 o27 => ?_
              have so27 := o27.size
              have hB := hB.trans (o27.below (by omega))
              have hK := hK.only o27 (by omega)
              have mg := mg.only o27 (by omega)
              have m4 := m4.only o27 (by omega)
              refine s_end (K54 _ _ ?_)
              refine wp_rs fun _ K55 => F.vl (x_ldW wide24 m10 rfl rfl) fun a F => F.mv rfl fun a F => ?_
              refine s_callB [_, _] F E28 rfl (by decide) (rmay14 y l vars w26 ((hry.keep hB.size (fun k hk _ => hB.block k hk)).rl)) fun w28 a B29 F => ?_
              have sB29 := B29.size
              have hB := bt hB B29
              have hK := hK.below B29
              have mg := mg.old B29
              have m4 := m4.old B29
              refine F.sg rfl fun a F => ?_
              refine s_end (K55 _ _ ?_)
              refine wp_rs fun _ K56 => F.mv rfl fun a F => F.vl (x_neq rfl rfl rfl) fun a F => ?_
              refine s_end (K56 _ _ ?_)
              refine wp_iff F rfl (fun hc88 => ?_) (fun hc88 => ?_)
              · rw [hfe, if_pos hc88] at hlei
                rw [hlei] at hlf
                rw [hlf, if_pos hc88] at heq
                refine wp_rs fun _ K57 => F.mv rfl fun a F => F.sg rfl fun a F => ?_
                refine s_end (K57 _ _ ?_)
                refine wp_ret (inb_ret (then_ret (then_ret (inb_ret (inb_ret (then_ret (res_slot F rfl rfl ⟨_, rfl, ⟨by rw [heq], by rw [heq]; exact mg⟩, hK⟩)))))))
              · rw [hfe, if_neg hc88] at hlei
                refine wp_skip (K53 _ _ ?_)
                refine wp_region_lit ?_
                refine F.vl (x_addn (i + 1) (by omega) (by have := hfit.2; omega) rfl rfl) fun a F => F.mv rfl fun a F => ?_
                refine s_end (hK' _ _ (by omega) ⟨hlei, mg, m4, hB, hK, F.sub _ rfl⟩)
            · obtain rfl : i = ls.length := by omega
              rw [List.drop_length] at hlei
              rw [hlei] at hlf
              have hlf : nodeErr vars d (n + 1) (.cst xs ls m) = 0 := hlf
              rw [hlf, if_neg (by decide)] at heq
              have hk9 := CT.kids_arT2 hx (by omega)
              rw [← hKC] at hk9
              refine wp_exit (K3 _ _ ?_)
              refine wp_seq_k fun _ K58 => ?_
              refine wp_rs fun _ K59 => F.vl (x_fa0 fa27_5 rfl) fun a F => F.ld m4 flat25 rfl rfl fun a F => F.vl (x_len Try.underlying25 rfl) fun a F => F.mv rfl fun a F => ?_
              refine s_end (K59 _ _ ?_)
              refine wp_block ?_
              refine wp_up nv (fun i a w => ∃ n2 : Nat, mayK vars (KC.drop i) (d + 1) n2 = mayK vars KC (d + 1) (n + 1) ∧ n2 ≤ 400 ∧ Blk w g 3 [.int .i64 (n2 : Int)] ∧ Below w0.heap.size w0 w ∧ Ktw g g w1 w ∧ Fs 108 a [(1, .int .i64 vars), (2, .int .i64 d), (3, .pointer (some ⟨g, 0, none⟩)), (92, .slice av nv cv), (93, .int .i64 (nv : Int)), (94, .int .i64 (i : Int))]) ⟨n + 1, rfl, by omega, mg, hB, hK, F.sub _ rfl⟩ ?_
              repeat clear F
              clear hB hK mg m4
              rintro i a w hi ⟨n2, hn2, hn3, mg, hB, hK, F⟩ K' hK'
              have sB := hB.size
              have sK := hK.size
              have hgl := mg.lt
              refine wp_rs fun _ K60 => F.vl (x_lss (b := decide (i < nv)) (decide_eq_decide.2 (by omega)) rfl rfl) fun a F => ?_
              refine s_end (K60 _ _ ?_)
              refine wp_seq_k fun _ K61 => ?_
              refine wp_iff F rfl (fun hc95 => ?_) (fun hc95 => ?_)
              · obtain ⟨b9, off9, c9, y, kd, hve, hyk, hry, hAb, hbl, hrow⟩ := hkid.row (i := i) (by omega)
                cases hve
                have hks := CT.kid_size (hKC ▸ hyk)
                have hkf := CT.fit_kid hfit (hKC ▸ hyk)
                have hma := mayK_at (vars := vars) (d := d + 1) (n := n2) hyk
                rw [hn2] at hma
                refine wp_skip (K61 _ _ ?_)
                refine wp_seq_k fun _ K62 => ?_
                refine wp_block ?_
                refine wp_rs fun _ K63 => F.vl (x_ixa rfl rfl (m_ixsK i Try.underlying25 el25.size rfl (by omega))) fun a F => F.vl (x_ldA wide27 (hrow _ (hB.block _ hbl)) rfl rfl) fun a F => ?_
                refine s_alloc F (by decide) zero27 fun w30 b13 a eb13 m13 B31 zb13 F => ?_
                have sB31 := B31.size
                have hB := bt hB B31
                have hK := hK.below B31
                have mg := mg.old B31
                refine s_putW F rfl rfl (size_wide wide27) m13 rfl hry.one fun w34 m13 o35 => ?_
                have so35 := o35.size
                have hB := hB.trans (o35.below (by omega))
                have hK := hK.only o35 (by omega)
                have mg := mg.only o35 (by omega)
                refine s_end (K63 _ _ ?_)
                refine wp_rs fun _ K64 => F.vl (x_ldW wide27 m13 rfl rfl) fun a F => F.mv rfl fun a F => F.mv rfl fun a F => F.vl (x_add (by omega) (by omega) rfl rfl) fun a F => F.mv rfl fun a F => ?_
                refine s_call (R := fun u w' => (u = .int .i64 (kd.mayT vars (d + 1) n2).1 ∧ Blk w' g 3 [.int .i64 (((kd.mayT vars (d + 1) n2).2 : Nat) : Int)]) ∧ Ktw g g w34 w') F [_, _, _, _] E112 rfl (by decide) (ih kd y (by omega) hry hkf (d + 1) n2 w34 (by omega) (by omega) hn3 hB mg) ?_
                rintro _ w36 a ⟨⟨rfl, mg⟩, k37⟩ F
                have sk37 := k37.size
                have hB := k37.under hB (by omega)
                have hK := hK.trans k37 (by omega)
                refine F.sg rfl fun a F => ?_
                refine s_end (K64 _ _ ?_)
                refine wp_rs fun _ K65 => F.mv rfl fun a F => F.vl (x_neq rfl rfl rfl) fun a F => ?_
                refine s_end (K65 _ _ ?_)
                refine wp_iff F rfl (fun hc105 => ?_) (fun hc105 => ?_)
                · rw [if_pos hc105] at hma
                  rw [hma] at heq
                  refine wp_rs fun _ K66 => F.mv rfl fun a F => F.sg rfl fun a F => ?_
                  refine s_end (K66 _ _ ?_)
                  refine wp_ret (inb_ret (then_ret (then_ret (inb_ret (then_ret (res_slot F rfl rfl ⟨_, rfl, ⟨by rw [heq], by rw [heq]; exact mg⟩, hK⟩))))))
                · rw [if_neg hc105] at hma
                  have hmz := may_zero (vars := vars) kd y (d + 1) n2 hry (by omega)
                  refine wp_skip (K62 _ _ ?_)
                  refine wp_region_lit ?_
                  refine F.vl (x_addn (i + 1) (by omega) (by omega) rfl rfl) fun a F => F.mv rfl fun a F => ?_
                  refine s_end (hK' _ _ (by omega) ⟨_, hma.symm, by omega, mg, hB, hK, F.sub _ rfl⟩)
              · obtain rfl : i = nv := by omega
                rw [List.drop_of_length_le (by omega), mayK] at hn2
                rw [← hn2] at heq
                refine wp_exit (K58 _ _ ?_)
                refine wp_rs fun _ K67 => F.sg rfl fun a F => ?_
                refine s_end (K67 _ _ ?_)
                refine wp_ret (res_slot F rfl rfl ⟨_, rfl, ⟨by rw [heq], by rw [heq]; exact mg⟩, hK⟩)
      · have hlf := nodeErr_leaf (vars := vars) (n := n + 1) (d := d) (c := c) (by omega) (by omega)
        rw [leafErr_rest hx hq] at hlf
        rw [hlf, if_neg (by decide)] at heq
        have hk9 := CT.kids_arT2 hx (by omega)
        rw [← hKC] at hk9
        refine wp_rs fun _ K68 => F.vl (x_fa0 fa27_0 rfl) fun a F => F.ld m4 flat3 rfl rfl fun a F => F.vl (eqlF (by omega) rfl rfl) fun a F => F.mv rfl fun a F => s_grdn 47 F rfl rfl (by decide) fun a F => s_grdn 47 F rfl rfl (by decide) fun a F => s_grdn 47 F rfl rfl (by decide) fun a F => s_grdn 47 F rfl rfl (by decide) fun a F => s_grdu 51 F rfl rfl (by decide) fun a F => s_grdu 51 F rfl rfl (by decide) fun a F => s_grdu 51 F rfl rfl (by decide) fun a F => s_grdn 47 F rfl rfl (by decide) fun a F => F.vl (x_pick (b := false) rfl rfl) fun a F => F.sg rfl fun a F => ?_
        refine s_end (K68 _ _ ?_)
        refine wp_if F rfl ?_
        refine wp_rs fun _ K69 => F.vl (x_fa0 fa27_0 rfl) fun a F => F.ld m4 flat3 rfl rfl fun a F => F.vl (eqlF (by omega) rfl rfl) fun a F => F.sg rfl fun a F => ?_
        refine s_end (K69 _ _ ?_)
        refine wp_if F rfl ?_
        refine wp_rs fun _ K70 => F.vl (x_fa0 fa27_0 rfl) fun a F => F.ld m4 flat3 rfl rfl fun a F => F.vl (eqlF (by omega) rfl rfl) fun a F => F.sg rfl fun a F => ?_
        refine s_end (K70 _ _ ?_)
        refine wp_if F rfl ?_
        refine wp_skip (K3 _ _ ?_)
        refine wp_seq_k fun _ K71 => ?_
        refine wp_rs fun _ K72 => F.vl (x_fa0 fa27_5 rfl) fun a F => F.ld m4 flat25 rfl rfl fun a F => F.vl (x_len Try.underlying25 rfl) fun a F => F.mv rfl fun a F => ?_
        refine s_end (K72 _ _ ?_)
        refine wp_block ?_
        refine wp_up nv (fun i a w => ∃ n2 : Nat, mayK vars (KC.drop i) (d + 1) n2 = mayK vars KC (d + 1) (n + 1) ∧ n2 ≤ 400 ∧ Blk w g 3 [.int .i64 (n2 : Int)] ∧ Below w0.heap.size w0 w ∧ Ktw g g w1 w ∧ Fs 108 a [(1, .int .i64 vars), (2, .int .i64 d), (3, .pointer (some ⟨g, 0, none⟩)), (92, .slice av nv cv), (93, .int .i64 (nv : Int)), (94, .int .i64 (i : Int))]) ⟨n + 1, rfl, by omega, mg, hB, hK, F.sub _ rfl⟩ ?_
        repeat clear F
        clear hB hK mg m4
        rintro i a w hi ⟨n2, hn2, hn3, mg, hB, hK, F⟩ K' hK'
        have sB := hB.size
        have sK := hK.size
        have hgl := mg.lt
        refine wp_rs fun _ K73 => F.vl (x_lss (b := decide (i < nv)) (decide_eq_decide.2 (by omega)) rfl rfl) fun a F => ?_
        refine s_end (K73 _ _ ?_)
        refine wp_seq_k fun _ K74 => ?_
        refine wp_iff F rfl (fun hc95 => ?_) (fun hc95 => ?_)
        · obtain ⟨b9, off9, c9, y, kd, hve, hyk, hry, hAb, hbl, hrow⟩ := hkid.row (i := i) (by omega)
          cases hve
          have hks := CT.kid_size (hKC ▸ hyk)
          have hkf := CT.fit_kid hfit (hKC ▸ hyk)
          have hma := mayK_at (vars := vars) (d := d + 1) (n := n2) hyk
          rw [hn2] at hma
          refine wp_skip (K74 _ _ ?_)
          refine wp_seq_k fun _ K75 => ?_
          refine wp_block ?_
          refine wp_rs fun _ K76 => F.vl (x_ixa rfl rfl (m_ixsK i Try.underlying25 el25.size rfl (by omega))) fun a F => F.vl (x_ldA wide27 (hrow _ (hB.block _ hbl)) rfl rfl) fun a F => ?_
          refine s_alloc F (by decide) zero27 fun w38 b13 a eb13 m13 B39 zb13 F => ?_
          have sB39 := B39.size
          have hB := bt hB B39
          have hK := hK.below B39
          have mg := mg.old B39
          refine s_putW F rfl rfl (size_wide wide27) m13 rfl hry.one fun w42 m13 o43 => ?_
          have so43 := o43.size
          have hB := hB.trans (o43.below (by omega))
          have hK := hK.only o43 (by omega)
          have mg := mg.only o43 (by omega)
          refine s_end (K76 _ _ ?_)
          refine wp_rs fun _ K77 => F.vl (x_ldW wide27 m13 rfl rfl) fun a F => F.mv rfl fun a F => F.mv rfl fun a F => F.vl (x_add (by omega) (by omega) rfl rfl) fun a F => F.mv rfl fun a F => ?_
          refine s_call (R := fun u w' => (u = .int .i64 (kd.mayT vars (d + 1) n2).1 ∧ Blk w' g 3 [.int .i64 (((kd.mayT vars (d + 1) n2).2 : Nat) : Int)]) ∧ Ktw g g w42 w') F [_, _, _, _] E112 rfl (by decide) (ih kd y (by omega) hry hkf (d + 1) n2 w42 (by omega) (by omega) hn3 hB mg) ?_
          rintro _ w44 a ⟨⟨rfl, mg⟩, k45⟩ F
          have sk45 := k45.size
          have hB := k45.under hB (by omega)
          have hK := hK.trans k45 (by omega)
          refine F.sg rfl fun a F => ?_
          refine s_end (K77 _ _ ?_)
          refine wp_rs fun _ K78 => F.mv rfl fun a F => F.vl (x_neq rfl rfl rfl) fun a F => ?_
          refine s_end (K78 _ _ ?_)
          refine wp_iff F rfl (fun hc105 => ?_) (fun hc105 => ?_)
          · rw [if_pos hc105] at hma
            rw [hma] at heq
            refine wp_rs fun _ K79 => F.mv rfl fun a F => F.sg rfl fun a F => ?_
            refine s_end (K79 _ _ ?_)
            refine wp_ret (inb_ret (then_ret (then_ret (inb_ret (then_ret (res_slot F rfl rfl ⟨_, rfl, ⟨by rw [heq], by rw [heq]; exact mg⟩, hK⟩))))))
          · rw [if_neg hc105] at hma
            have hmz := may_zero (vars := vars) kd y (d + 1) n2 hry (by omega)
            refine wp_skip (K75 _ _ ?_)
            refine wp_region_lit ?_
            refine F.vl (x_addn (i + 1) (by omega) (by omega) rfl rfl) fun a F => F.mv rfl fun a F => ?_
            refine s_end (hK' _ _ (by omega) ⟨_, hma.symm, by omega, mg, hB, hK, F.sub _ rfl⟩)
        · obtain rfl : i = nv := by omega
          rw [List.drop_of_length_le (by omega), mayK] at hn2
          rw [← hn2] at heq
          refine wp_exit (K71 _ _ ?_)
          refine wp_rs fun _ K80 => F.sg rfl fun a F => ?_
          refine s_end (K80 _ _ ?_)
          refine wp_ret (res_slot F rfl rfl ⟨_, rfl, ⟨by rw [heq], by rw [heq]; exact mg⟩, hK⟩)
end Go.Proofs.Ytbhhbfdoadecgaa

namespace Go.Proofs.Ytbhhbfdoadecgaa
set_option maxRecDepth 100000
set_option maxHeartbeats 1600000
open Go.RowKit Go.Shelf
set_option linter.unusedVariables false
set_option linter.unusedSimpArgs false
/-- What whole lets pass. -/
def CT.wf (c : CT) : Prop := c.okV 6 ∧ c.size ≤ 400 ∧ c.dep ≤ 64
theorem CT.wf.ok {c : CT} (h : c.wf) : c.ok := ⟨by have := h.2.1; omega, by have := h.2.2; omega⟩
def PT.loose : PT → Int → Int
 | .var n, d => if d ≤ n then min (n - d + 1) 9223372036854775807 else 0
 | .two k p q, d => max (p.loose d) (q.loose (d + if k = 3 ∨ k = 4 then 1 else 0))
 | .lt p q r, d => max (p.loose d) (max (q.loose d) (r.loose (d + 1)))
 | .sort _, _ => 0
 | .cst _ _, _ => 0
 | .odd _, _ => 0
def mostL (ps : List Int) : Int := if ps.length = 0 then 0 else mxl ps
def Glo (c : CT) (d : Int) (ps : List Int) : Int := match c with
 | .var n _ => if d ≤ n then min (n - d + 1) 9223372036854775807 else 0
 | _ => mostL ps
theorem rMay30 (vars : Int) (c : CT) (x : C8) (w0 : World) (hx : RC w0 (fun k => k < w0.heap.size) c x) (hfit : c.fit) : Calls Try.prog 67 #[tv x, .int .i64 vars] w0 fun e w' => e = .returned (.int .i64 (c.mayT vars 1 0).1) ∧ Below w0.heap.size w0 w' := by
 have hB := Below.refl w0.heap.size w0
 have sB := hB.size
 refine calls_fs 9 [(0, tv x), (1, .int .i64 vars)] Try.func67 rfl rfl rfl rfl rfl fun a F => ?_
 refine wp_rs fun _ K1 => ?_
 refine s_box (tc x) F (by decide) rfl rfl fun w2 b2 a eb2 m2 B3 zb2 F => ?_
 have sB3 := B3.size
 have hB := bt hB B3
 refine F.sg rfl fun a F => ?_
 refine s_end (K1 _ _ ?_)
 refine wp_rs fun _ K2 => ?_
 refine s_alloc1 F (by decide) zero3 rfl fun w4 b5 a eb5 m5 B5 zb5 F => ?_
 have sB5 := B5.size
 have hB := bt hB B5
 have m2 := m2.old B5
 refine s_put F rfl rfl flat3 m5 (by first | (simp; done) | (simp [tc, lc]; done) | decide) rfl fun w6 m5 o7 => ?_
 have so7 := o7.size
 have hB := hB.trans (o7.below (by omega))
 have m2 := m2.only o7 (by omega)
 refine s_end (K2 _ _ ?_)
 refine wp_rs fun _ K3 => F.vl (x_ldW wide27 m2 rfl rfl) fun a F => F.mv rfl fun a F => ?_
 refine s_call (R := fun u w' => (u = .int .i64 (c.mayT vars 1 0).1 ∧ Blk w' b5 3 [.int .i64 (((c.mayT vars 1 0).2 : Nat) : Int)]) ∧ Ktw b5 b5 w6 w') F [_, _, _, _] E112 rfl (by decide) (rmay73 vars w0 b5 (by omega) (c.size + 1) c x (by omega) hx hfit 1 0 w6 (by decide) (by decide) (by decide) hB m5) ?_
 rintro _ w8 a ⟨⟨rfl, m5⟩, k9⟩ F
 have sk9 := k9.size
 have hB := k9.under hB (by omega)
 refine F.sg rfl fun a F => ?_
 refine s_end (K3 _ _ ?_)
 refine wp_ret (res_slot F rfl rfl ⟨rfl, hB⟩)
def CT.looseR (c : CT) : Int := if c.ok then c.ess.loose 0 else 0
end Go.Proofs.Ytbhhbfdoadecgaa

namespace Go.Proofs.Ytbhhbfdoadecgaa
open Go.RowKit Go.Shelf
set_option linter.unusedVariables false
set_option linter.unusedSimpArgs false
def szs (ks : List CT) : Nat := (ks.map CT.size).sum
/-- What count tells: that it goes, and how many there are then; that it doesn't. -/
def cntR (c : CT) (d : Int) (n : Nat) (b : Bool) (m : Nat) : Prop := m ≤ 20001 ∧ (b = true → m = n + c.size ∧ d + c.dep ≤ 2001 ∧ (m ≤ 20000 ∨ c.size = 1)) ∧ (b = false → ¬ (n + c.size ≤ 20000 ∧ d + c.dep ≤ 2001))
end Go.Proofs.Ytbhhbfdoadecgaa

namespace Go.Proofs.Ytbhhbfdoadecgaa
open Go.RowKit Go.Shelf
set_option linter.unusedVariables false
set_option linter.unusedSimpArgs false
def dps (ks : List CT) : Nat := ks.foldl (fun m k => max m k.dep) 0
end Go.Proofs.Ytbhhbfdoadecgaa

namespace Go.Proofs.Ytbhhbfdoadecgaa
open Go.RowKit Go.Shelf
set_option linter.unusedVariables false
set_option linter.unusedSimpArgs false
def CT.leaves : CT → Int → List (CT × Int)
 | .two k a b m, d => a.leaves (d + (CT.two k a b m).bnd 0) ++ b.leaves (d + (CT.two k a b m).bnd 1)
 | .lt a b c m, d => a.leaves (d + (CT.lt a b c m).bnd 0) ++ (b.leaves (d + (CT.lt a b c m).bnd 1) ++ c.leaves (d + (CT.lt a b c m).bnd 2))
 | c, d => [(c, d)]
/-- The leaves of the first i kids. -/
def CT.lvK (c : CT) (d : Int) : Nat → List (CT × Int)
 | 0 => []
 | i + 1 => c.lvK d i ++ (match c.kids[i]? with | some k => k.leaves (d + c.bnd i) | none => [])
def enc9 (e : C8 × Int) : List Value := tc e.1 ++ [.int .i64 e.2]
/-- The elements are these leaves, which lie where w0's own blocks lie. -/
def LTw (w0 : World) (es : List (C8 × Int)) (ls : List (CT × Int)) : Prop := es.length = ls.length ∧ ∀ (j : Nat) e l, es[j]? = some e → ls[j]? = some l → RC w0 (fun k => k < w0.heap.size) l.1 e.1 ∧ e.2 = l.2
theorem LTw.nil (w0 : World) : LTw w0 [] [] := ⟨rfl, fun j e l h => by simp at h⟩
theorem LTw.snoc {w0 : World} {es : List (C8 × Int)} {ls : List (CT × Int)} {c : CT} {x : C8} {d : Int} (h : LTw w0 es ls) (hx : RC w0 (fun k => k < w0.heap.size) c x) : LTw w0 (es ++ [(x, d)]) (ls ++ [(c, d)]) := by
 refine ⟨by simp [h.1], fun j e l e1 e2 => ?_⟩
 rcases Nat.lt_or_ge j es.length with hj | hj
 ·
  rw [List.getElem?_append_left hj] at e1
  rw [List.getElem?_append_left (by have := h.1; omega)] at e2
  exact h.2 j e l e1 e2
 ·
  rw [List.getElem?_append_right hj] at e1
  rw [List.getElem?_append_right (by have := h.1; omega)] at e2
  have h0 : j - es.length = 0 := by have := (List.getElem?_eq_some_iff.1 e1).1; simp at this; omega
  have h1 : j - ls.length = 0 := by have := h.1; omega
  rw [h0] at e1
  rw [h1] at e2
  simp at e1 e2
  subst e1 e2
  exact ⟨hx, rfl⟩
end Go.Proofs.Ytbhhbfdoadecgaa

namespace Go.Proofs.Ytbhhbfdoadecgaa
open Go.RowKit Go.Shelf
set_option linter.unusedVariables false
set_option linter.unusedSimpArgs false
def lstL (n : Int) (l : CT × Int) : Int := max n (match l.1 with | .var k _ => if l.2 ≤ k then min (k - l.2 + 1) 9223372036854775807 else 0 | _ => 0)
def isC (s : ByteArray) : CT → Bool
 | .cst t _ _ => decide (t = s)
 | _ => false
def CT.menR (c : CT) (s : ByteArray) : Bool := decide c.ok && (c.leaves 0).any (fun l => isC s l.1)
end Go.Proofs.Ytbhhbfdoadecgaa

namespace Go.Proofs.Ytbhhbfdoadecgaa
set_option linter.unusedVariables false
set_option linter.unusedSimpArgs false
/-- Lifting without an end: by b what is d or more. -/
def PT.sh (b : Int) : PT → Int → PT
 | .var n, d => .var (if d ≤ n then n + b else n)
 | .two k p q, d => .two k (p.sh b d) (q.sh b (d + if k = 3 ∨ k = 4 then 1 else 0))
 | .lt p q r, d => .lt (p.sh b d) (q.sh b d) (r.sh b (d + 1))
 | .sort o, _ => .sort o
 | .cst s os, _ => .cst s os
 | .odd k, _ => .odd k
def PT.pu (v : PT) : PT → Int → PT
 | .var n, d => if n = d then v.sh d 0 else .var (if d < n then n - 1 else n)
 | .two k p q, d => .two k (PT.pu v p d) (PT.pu v q (d + if k = 3 ∨ k = 4 then 1 else 0))
 | .lt p q r, d => .lt (PT.pu v p d) (PT.pu v q d) (PT.pu v r (d + 1))
 | .sort o, _ => .sort o
 | .cst s os, _ => .cst s os
 | .odd k, _ => .odd k
/-- Its variables are from 0 to M. -/
def PT.bd (M : Int) : PT → Prop
 | .var n => 0 ≤ n ∧ n ≤ M
 | .two _ p q => p.bd M ∧ q.bd M
 | .lt p q r => p.bd M ∧ q.bd M ∧ r.bd M
 | _ => True
theorem PT.bd.mono {M N : Int} (h : M ≤ N) : ∀ {p : PT}, p.bd M → p.bd N
 | .var n, h1 => ⟨h1.1, by have := h1.2; omega⟩
 | .two _ p q, h1 => ⟨PT.bd.mono h h1.1, PT.bd.mono h h1.2⟩
 | .lt p q r, h1 => ⟨PT.bd.mono h h1.1, PT.bd.mono h h1.2.1, PT.bd.mono h h1.2.2⟩
 | .sort _, _ => trivial
 | .cst _ _, _ => trivial
 | .odd _, _ => trivial
/-- How often variable d stands in it, as seen beneath d binders. -/
def PT.occ : PT → Int → Nat
 | .var n, d => if n = d then 1 else 0
 | .two k p q, d => p.occ d + q.occ (d + if k = 3 ∨ k = 4 then 1 else 0)
 | .lt p q r, d => p.occ d + q.occ d + r.occ (d + 1)
 | _, _ => 0
end Go.Proofs.Ytbhhbfdoadecgaa

namespace Go.Proofs.Ytbhhbfdoadecgaa
open Go.RowKit Go.Shelf
set_option linter.unusedVariables false
set_option linter.unusedSimpArgs false
def occL (l : CT × Int) : Nat := match l.1 with | .var n _ => if n = l.2 then 1 else 0 | _ => 0
end Go.Proofs.Ytbhhbfdoadecgaa

namespace Go.Proofs.Ytbhhbfdoadecgaa
set_option maxRecDepth 100000
set_option maxHeartbeats 1600000
open Go.RowKit Go.Shelf
set_option linter.unusedVariables false
set_option linter.unusedSimpArgs false
/-- What formOf tells. -/
def FF (w0 : World) (x : C3) (l : Lv) (w' : World) (c : Int) (vk : Value) (ks : List Int) : Prop := Rd w' vk 1 ks.length (ints ks) ∧ (¬ sndL l → c = 0 ∧ ks = []) ∧ ∀ s, RS w0 s x → s.good → c = nfC s ∧ ks = nfK s
theorem formOf38 (x : C3) (l : Lv) (w0 : World) (hL : RL w0 x l) : Calls Try.prog 106 #[lv x] w0 fun e w' => ∃ v, e = .returned v ∧ (∃ c vk ks, v = .tuple #[.agg [.int .i64 c, vk].toArray, .bool (decide (sndL l))] ∧ FF w0 x l w' c vk ks) ∧ Below w0.heap.size w0 w' := by
 have hB := Below.refl w0.heap.size w0
 have sB := hB.size
 refine calls_fs 13 [(0, lv x)] Try.func106 rfl rfl rfl rfl rfl fun a F => ?_
 refine wp_rs fun _ K1 => ?_
 refine s_box (lc x) F (by decide) rfl rfl fun w2 b1 a eb1 m1 B3 zb1 F => ?_
 have sB3 := B3.size
 have hB := bt hB B3
 refine s_alloc F (by decide) zero59 fun w4 b2 a eb2 m2 B5 zb2 F => ?_
 have sB5 := B5.size
 have hB := bt hB B5
 have m1 := m1.old B5
 refine F.sg rfl fun a F => ?_
 refine s_end (K1 _ _ ?_)
 refine wp_seq_k fun _ K2 => ?_
 rcases (show decide (sndL l) = false ∨ decide (sndL l) = true by cases decide (sndL l) <;> simp) with hd | hd
 ·
  have hn : ¬ sndL l := of_decide_eq_false hd
  refine wp_rs fun _ K4 => F.vl (x_ldW wide24 m1 rfl rfl) fun a F => ?_
  refine s_callB [_] F E136 rfl (by decide) (isSound49 x l w4 (hL.old hB)) fun w6 a B7 F => ?_
  have sB7 := B7.size
  have hB := bt hB B7
  have m2 := m2.old B7
  rw [hd] at F
  refine F.vl (x_not rfl) fun a F => ?_
  refine s_end (K4 _ _ ?_)
  refine wp_if F rfl ?_
  refine wp_rs fun _ K5 => F.vl (x_build (vs := []) rfl (b59_ _)) fun a F => ?_
  refine s_putW F rfl rfl (size_wide wide59) m2 rfl (one2 rfl) fun w8 m2 o9 => ?_
  have so9 := o9.size
  have hB := hB.trans (o9.below (by omega))
  refine F.sg rfl fun a F => ?_
  refine s_end (K5 _ _ ?_)
  refine wp_ret (then_ret (res_ct F rfl rfl m2 wide59 rfl ⟨_, rfl, ⟨_, _, [], by rw [hd], Rd.nil _ _, fun _ => ⟨rfl, rfl⟩, fun s hs hsg => absurd (rs_snd hL hs hsg) hn⟩, hB⟩))
 ·
  have hn : sndL l := of_decide_eq_true hd
  obtain ⟨s, hs, hsg⟩ := sound_sl hL hn
  refine wp_rs fun _ K6 => F.vl (x_ldW wide24 m1 rfl rfl) fun a F => ?_
  refine s_callB [_] F E136 rfl (by decide) (isSound49 x l w4 (hL.old hB)) fun w10 a B11 F => ?_
  have sB11 := B11.size
  have hB := bt hB B11
  have m1 := m1.old B11
  have m2 := m2.old B11
  rw [hd] at F
  refine F.vl (x_not rfl) fun a F => ?_
  refine s_end (K6 _ _ ?_)
  refine wp_if F rfl ?_
  refine wp_skip (K2 _ _ ?_)
  refine wp_rs fun _ K7 => ?_
  refine s_alloc F (by decide) zero59 fun w12 b4 a eb4 m4 B13 zb4 F => ?_
  have sB13 := B13.size
  have hB := bt hB B13
  have m1 := m1.old B13
  have m2 := m2.old B13
  refine s_end (K7 _ _ ?_)
  refine wp_rs fun _ K8 => F.vl (x_ldW wide24 m1 rfl rfl) fun a F => ?_
  have hA : FA 126 w0.heap.size w12 b4 b4 (.slice none 0 0) 0 [] := FA.start m4 (by omega)
  refine s_call (R := fun u w' => (u = .tuple #[] ∧ ∃ v' o', FA 126 w0.heap.size w' b4 o' v' (rc s 0 0) (nfK s) ∧ (o' = b4 ∨ w12.heap.size ≤ o')) ∧ Ktw b4 b4 w12 w') F [_, _, _] E137 rfl (by decide) (raise59 w0 b4 s x hs hsg.2.2 0 b4 _ 0 [] w12 (by decide) (by decide) (by decide) (by decide) (by decide) hB hA) ?_
  rintro _ w14 a ⟨⟨rfl, v2, o2, hA, ho2⟩, k15⟩ F
  have sk15 := k15.size
  have hB := k15.under hB (by omega)
  have m2 := m2.k2 k15 (by omega)
  have hlo := hA.lo
  refine s_end (K8 _ _ ?_)
  refine wp_rs fun _ K9 => ?_
  refine s_call (R := fun u w' => (u = .tuple #[] ∧ FA 126 w0.heap.size w' b4 o2 v2 (setl (rc s 0 0) (nfK s)) (nfK s)) ∧ Ktw b4 o2 w14 w') F [_] E109 rfl (by decide) (settle47 w0.heap.size b4 o2 v2 _ (nfK s) w14 hA (by have := nfK_len s hsg; omega) (nfK_lo s) (rc_bd (by decide) (by decide) (by decide) (by decide)).1) ?_
  rintro _ w16 a ⟨⟨rfl, hA⟩, k17⟩ F
  have sk17 := k17.size
  have hB := k17.under hB (by omega)
  have m2 := m2.k2 k17 (by omega)
  rw [nfC_setl] at hA
  have m4 := hA.blk
  have hlo2 := hA.lo
  have h1v := hA.rd.one
  refine s_end (K9 _ _ ?_)
  refine wp_rs fun _ K10 => F.vl (x_ldW wide59 m4 rfl rfl) fun a F => ?_
  refine s_putW F rfl rfl (size_wide wide59) m2 rfl (one2 h1v) fun w18 m2 o19 => ?_
  have so19 := o19.size
  have hB := hB.trans (o19.below (by omega))
  have hA := hA.only o19 (by omega)
  refine F.sg rfl fun a F => ?_
  refine s_end (K10 _ _ ?_)
  refine wp_ret (res_ct F rfl rfl m2 wide59 rfl ⟨_, rfl, ⟨_, v2, nfK s, by rw [hd], hA.rd, fun h => absurd hn h, fun s' hs' _ => by rw [RS.inj hs hs']; exact ⟨rfl, rfl⟩⟩, hB⟩)
theorem same44 (c d : Int) (v u : Value) (ks ls : List Int) (w0 : World) (hl : ks.length ≤ 9223372036854775807) (hV : Rd w0 v 1 ks.length (ints ks)) (hU : Rd w0 u 1 ls.length (ints ls)) : Calls Try.prog 145 #[.agg [.int .i64 c, v].toArray, .agg [.int .i64 d, u].toArray] w0 fun e w' => e = .returned (.bool (decide (c = d ∧ ks = ls))) ∧ Below w0.heap.size w0 w' := by
 have hB := Below.refl w0.heap.size w0
 have sB := hB.size
 refine calls_fs 17 [(0, .agg [.int .i64 c, v].toArray), (1, .agg [.int .i64 d, u].toArray)] Try.func145 rfl rfl rfl rfl rfl fun a F => ?_
 refine wp_rs fun _ K1 => ?_
 refine s_box ([.int .i64 c, v]) F (by decide) rfl rfl fun w2 b2 a eb2 m2 B3 zb2 F => ?_
 have sB3 := B3.size
 have hB := bt hB B3
 refine s_box ([.int .i64 d, u]) F (by decide) rfl rfl fun w4 b3 a eb3 m3 B5 zb3 F => ?_
 have sB5 := B5.size
 have hB := bt hB B5
 have m2 := m2.old B5
 refine F.sg rfl fun a F => ?_
 refine s_end (K1 _ _ ?_)
 rcases (show c ≠ d ∨ c = d by omega) with hq | hq
 ·
  skip
  refine wp_rs fun _ K3 => F.vl (x_fa0 fa59_0 rfl) fun a F => F.ld m2 flat3 rfl rfl fun a F => F.vl (x_fa0 fa59_0 rfl) fun a F => F.ld m3 flat3 rfl rfl fun a F => F.vl (eqlF (by omega) rfl rfl) fun a F => F.mv rfl fun a F => s_grdn 10 F rfl rfl (by decide) fun a F => s_grdn 10 F rfl rfl (by decide) fun a F => s_grdn 10 F rfl rfl (by decide) fun a F => s_grdn 10 F rfl rfl (by decide) fun a F => s_grdn 10 F rfl rfl (by decide) fun a F => F.vl (x_pick (b := false) rfl rfl) fun a F => F.sg rfl fun a F => ?_
  refine s_end (K3 _ _ ?_)
  refine wp_ret (res_slot F rfl rfl ⟨by simp [hq], hB⟩)
 ·
  skip
  refine wp_rs fun _ K4 => F.vl (x_fa0 fa59_0 rfl) fun a F => F.ld m2 flat3 rfl rfl fun a F => F.vl (x_fa0 fa59_0 rfl) fun a F => F.ld m3 flat3 rfl rfl fun a F => F.vl (eqlT (by omega) rfl rfl) fun a F => F.mv rfl fun a F => s_grd 10 F rfl rfl rfl <| F.vl (x_fa0 fa59_1 rfl) fun a F => s_grd 10 F rfl rfl rfl <| F.ld m2 flat29 rfl rfl fun a F => s_grd 10 F rfl rfl rfl <| F.vl (x_fa0 fa59_1 rfl) fun a F => s_grd 10 F rfl rfl rfl <| F.ld m3 flat29 rfl rfl fun a F => s_grd 10 F rfl rfl rfl ?_
  refine s_callB [_, _] F E159 rfl (by decide) (equal62 ks ls v u w4 hl (hV.below hB) (hU.below hB)) fun w6 a B7 F => ?_
  have sB7 := B7.size
  have hB := bt hB B7
  refine F.vl (x_pick (b := true) rfl rfl) fun a F => F.sg rfl fun a F => ?_
  refine s_end (K4 _ _ ?_)
  refine wp_ret (res_slot F rfl rfl ⟨by simp [hq], hB⟩)
/-- Two come to one form. -/
def eqF (a b : SL) : Prop := nfC a = nfC b ∧ nfK a = nfK b
instance (a b : SL) : Decidable (eqF a b) := inferInstanceAs (Decidable (_ ∧ _))
/-- What Equal and Leq tell. -/
def TB (w0 : World) (x y : C3) (la lb : Lv) (P : SL → SL → Prop) [∀ s t, Decidable (P s t)] (b : Bool) : Prop := (¬ (sndL la ∧ sndL lb) → b = false) ∧ ∀ s t, RS w0 s x → RS w0 t y → s.good → t.good → b = decide (P s t)
def leS (s t : SL) : Prop := eqF (.mx s t) t
instance (a b : SL) : Decidable (leS a b) := inferInstanceAs (Decidable (eqF _ _))
theorem Equal23 (x y : C3) (la lb : Lv) (w0 : World) (hLa : RL w0 x la) (hLb : RL w0 y lb) : Calls Try.prog 114 #[lv x, lv y] w0 fun e w' => ∃ v, e = .returned v ∧ (∃ b, v = .bool b ∧ TB w0 x y la lb eqF b) ∧ Below w0.heap.size w0 w' := by
 have hB := Below.refl w0.heap.size w0
 have sB := hB.size
 refine calls_fs 28 [(0, lv x), (1, lv y)] Try.func114 rfl rfl rfl rfl rfl fun a F => ?_
 refine wp_rs fun _ K1 => ?_
 refine s_box (lc x) F (by decide) rfl rfl fun w2 b2 a eb2 m2 B3 zb2 F => ?_
 have sB3 := B3.size
 have hB := bt hB B3
 refine s_box (lc y) F (by decide) rfl rfl fun w4 b3 a eb3 m3 B5 zb3 F => ?_
 have sB5 := B5.size
 have hB := bt hB B5
 have m2 := m2.old B5
 refine F.sg rfl fun a F => ?_
 refine s_end (K1 _ _ ?_)
 rcases (show (decide (sndL la) = false ∧ decide (sndL lb) = false) ∨ (decide (sndL la) = false ∧ decide (sndL lb) = true) ∨ (decide (sndL la) = true ∧ decide (sndL lb) = false) ∨ (decide (sndL la) = true ∧ decide (sndL lb) = true) by cases decide (sndL la) <;> cases decide (sndL lb) <;> simp) with ⟨hd1, hd2⟩ | ⟨hd1, hd2⟩ | ⟨hd1, hd2⟩ | ⟨hd1, hd2⟩
 ·
  have hn : ¬ (sndL la ∧ sndL lb) := fun h => by exact absurd h.1 (of_decide_eq_false hd1)
  have hB9 := hB
  refine wp_rs fun _ K3 => F.vl (x_ldW wide24 m2 rfl rfl) fun a F => ?_
  refine s_callR (R := fun v w' => ∃ c vk ks, v = .tuple #[.agg [.int .i64 c, vk].toArray, .bool (decide (sndL la))] ∧ FF w4 x la w' c vk ks) [_] F E106 rfl (by decide) (formOf38 x la w4 (hLa.old hB)) ?_
  rintro _ w6 a ⟨c1, vk1, ks1, rfl, hf1⟩ B7 F
  have sB7 := B7.size
  have hB := bt hB B7
  have m3 := m3.old B7
  have h1v1 := hf1.1.one
  have hB1 := Below.refl w6.heap.size w6
  rw [hd1] at F
  refine F.mv rfl fun a F => F.vl (x_ext rfl rfl) fun a F => F.vl (x_ext rfl rfl) fun a F => ?_
  refine s_alloc F (by decide) zero59 fun w8 b5 a eb5 m5 B9 zb5 F => ?_
  have sB9 := B9.size
  have hB := bt hB B9
  have m3 := m3.old B9
  refine s_putW F rfl rfl (size_wide wide59) m5 rfl (one2 h1v1) fun w10 m5 o11 => ?_
  have so11 := o11.size
  have hB := hB.trans (o11.below (by omega))
  have m3 := m3.only o11 (by omega)
  refine F.sg rfl fun a F => ?_
  refine s_end (K3 _ _ ?_)
  have hB8 := hB
  refine wp_rs fun _ K4 => F.vl (x_ldW wide24 m3 rfl rfl) fun a F => ?_
  refine s_callR (R := fun v w' => ∃ c vk ks, v = .tuple #[.agg [.int .i64 c, vk].toArray, .bool (decide (sndL lb))] ∧ FF w10 y lb w' c vk ks) [_] F E106 rfl (by decide) (formOf38 y lb w10 (hLb.old hB)) ?_
  rintro _ w12 a ⟨c2, vk2, ks2, rfl, hf2⟩ B13 F
  have sB13 := B13.size
  have hB := bt hB B13
  have h1v2 := hf2.1.one
  have hB2 := Below.refl w12.heap.size w12
  rw [hd2] at F
  refine F.mv rfl fun a F => F.vl (x_ext rfl rfl) fun a F => F.vl (x_ext rfl rfl) fun a F => ?_
  refine s_alloc F (by decide) zero59 fun w14 b7 a eb7 m7 B15 zb7 F => ?_
  have sB15 := B15.size
  have hB := bt hB B15
  refine s_putW F rfl rfl (size_wide wide59) m7 rfl (one2 h1v2) fun w16 m7 o17 => ?_
  have so17 := o17.size
  have hB := hB.trans (o17.below (by omega))
  refine F.sg rfl fun a F => ?_
  refine s_end (K4 _ _ ?_)
  refine wp_rs fun _ K5 => F.mv rfl fun a F => F.mv rfl fun a F => s_grdn 20 F rfl rfl (by decide) fun a F => F.vl (x_pick (b := false) rfl rfl) fun a F => F.mv rfl fun a F => s_grdn 23 F rfl rfl (by decide) fun a F => s_grdn 23 F rfl rfl (by decide) fun a F => s_grdn 23 F rfl rfl (by decide) fun a F => F.vl (x_pick (b := false) rfl rfl) fun a F => F.sg rfl fun a F => ?_
  refine s_end (K5 _ _ ?_)
  refine wp_ret (res_slot F rfl rfl ⟨_, rfl, ⟨_, rfl, fun _ => rfl, fun s t hs ht g1 g2 => absurd ⟨rs_snd hLa hs g1, rs_snd hLb ht g2⟩ hn⟩, hB⟩)
 ·
  have hn : ¬ (sndL la ∧ sndL lb) := fun h => by exact absurd h.1 (of_decide_eq_false hd1)
  have hB9 := hB
  refine wp_rs fun _ K6 => F.vl (x_ldW wide24 m2 rfl rfl) fun a F => ?_
  refine s_callR (R := fun v w' => ∃ c vk ks, v = .tuple #[.agg [.int .i64 c, vk].toArray, .bool (decide (sndL la))] ∧ FF w4 x la w' c vk ks) [_] F E106 rfl (by decide) (formOf38 x la w4 (hLa.old hB)) ?_
  rintro _ w18 a ⟨c1, vk1, ks1, rfl, hf1⟩ B19 F
  have sB19 := B19.size
  have hB := bt hB B19
  have m3 := m3.old B19
  have h1v1 := hf1.1.one
  have hB1 := Below.refl w18.heap.size w18
  rw [hd1] at F
  refine F.mv rfl fun a F => F.vl (x_ext rfl rfl) fun a F => F.vl (x_ext rfl rfl) fun a F => ?_
  refine s_alloc F (by decide) zero59 fun w20 b5 a eb5 m5 B21 zb5 F => ?_
  have sB21 := B21.size
  have hB := bt hB B21
  have m3 := m3.old B21
  refine s_putW F rfl rfl (size_wide wide59) m5 rfl (one2 h1v1) fun w22 m5 o23 => ?_
  have so23 := o23.size
  have hB := hB.trans (o23.below (by omega))
  have m3 := m3.only o23 (by omega)
  refine F.sg rfl fun a F => ?_
  refine s_end (K6 _ _ ?_)
  have hB8 := hB
  refine wp_rs fun _ K7 => F.vl (x_ldW wide24 m3 rfl rfl) fun a F => ?_
  refine s_callR (R := fun v w' => ∃ c vk ks, v = .tuple #[.agg [.int .i64 c, vk].toArray, .bool (decide (sndL lb))] ∧ FF w22 y lb w' c vk ks) [_] F E106 rfl (by decide) (formOf38 y lb w22 (hLb.old hB)) ?_
  rintro _ w24 a ⟨c2, vk2, ks2, rfl, hf2⟩ B25 F
  have sB25 := B25.size
  have hB := bt hB B25
  have h1v2 := hf2.1.one
  have hB2 := Below.refl w24.heap.size w24
  rw [hd2] at F
  refine F.mv rfl fun a F => F.vl (x_ext rfl rfl) fun a F => F.vl (x_ext rfl rfl) fun a F => ?_
  refine s_alloc F (by decide) zero59 fun w26 b7 a eb7 m7 B27 zb7 F => ?_
  have sB27 := B27.size
  have hB := bt hB B27
  refine s_putW F rfl rfl (size_wide wide59) m7 rfl (one2 h1v2) fun w28 m7 o29 => ?_
  have so29 := o29.size
  have hB := hB.trans (o29.below (by omega))
  refine F.sg rfl fun a F => ?_
  refine s_end (K7 _ _ ?_)
  refine wp_rs fun _ K8 => F.mv rfl fun a F => F.mv rfl fun a F => s_grdn 20 F rfl rfl (by decide) fun a F => F.vl (x_pick (b := false) rfl rfl) fun a F => F.mv rfl fun a F => s_grdn 23 F rfl rfl (by decide) fun a F => s_grdn 23 F rfl rfl (by decide) fun a F => s_grdn 23 F rfl rfl (by decide) fun a F => F.vl (x_pick (b := false) rfl rfl) fun a F => F.sg rfl fun a F => ?_
  refine s_end (K8 _ _ ?_)
  refine wp_ret (res_slot F rfl rfl ⟨_, rfl, ⟨_, rfl, fun _ => rfl, fun s t hs ht g1 g2 => absurd ⟨rs_snd hLa hs g1, rs_snd hLb ht g2⟩ hn⟩, hB⟩)
 ·
  have hn : ¬ (sndL la ∧ sndL lb) := fun h => by exact absurd h.2 (of_decide_eq_false hd2)
  have hB9 := hB
  refine wp_rs fun _ K9 => F.vl (x_ldW wide24 m2 rfl rfl) fun a F => ?_
  refine s_callR (R := fun v w' => ∃ c vk ks, v = .tuple #[.agg [.int .i64 c, vk].toArray, .bool (decide (sndL la))] ∧ FF w4 x la w' c vk ks) [_] F E106 rfl (by decide) (formOf38 x la w4 (hLa.old hB)) ?_
  rintro _ w30 a ⟨c1, vk1, ks1, rfl, hf1⟩ B31 F
  have sB31 := B31.size
  have hB := bt hB B31
  have m3 := m3.old B31
  have h1v1 := hf1.1.one
  have hB1 := Below.refl w30.heap.size w30
  rw [hd1] at F
  refine F.mv rfl fun a F => F.vl (x_ext rfl rfl) fun a F => F.vl (x_ext rfl rfl) fun a F => ?_
  refine s_alloc F (by decide) zero59 fun w32 b5 a eb5 m5 B33 zb5 F => ?_
  have sB33 := B33.size
  have hB := bt hB B33
  have m3 := m3.old B33
  refine s_putW F rfl rfl (size_wide wide59) m5 rfl (one2 h1v1) fun w34 m5 o35 => ?_
  have so35 := o35.size
  have hB := hB.trans (o35.below (by omega))
  have m3 := m3.only o35 (by omega)
  refine F.sg rfl fun a F => ?_
  refine s_end (K9 _ _ ?_)
  have hB8 := hB
  refine wp_rs fun _ K10 => F.vl (x_ldW wide24 m3 rfl rfl) fun a F => ?_
  refine s_callR (R := fun v w' => ∃ c vk ks, v = .tuple #[.agg [.int .i64 c, vk].toArray, .bool (decide (sndL lb))] ∧ FF w34 y lb w' c vk ks) [_] F E106 rfl (by decide) (formOf38 y lb w34 (hLb.old hB)) ?_
  rintro _ w36 a ⟨c2, vk2, ks2, rfl, hf2⟩ B37 F
  have sB37 := B37.size
  have hB := bt hB B37
  have h1v2 := hf2.1.one
  have hB2 := Below.refl w36.heap.size w36
  rw [hd2] at F
  refine F.mv rfl fun a F => F.vl (x_ext rfl rfl) fun a F => F.vl (x_ext rfl rfl) fun a F => ?_
  refine s_alloc F (by decide) zero59 fun w38 b7 a eb7 m7 B39 zb7 F => ?_
  have sB39 := B39.size
  have hB := bt hB B39
  refine s_putW F rfl rfl (size_wide wide59) m7 rfl (one2 h1v2) fun w40 m7 o41 => ?_
  have so41 := o41.size
  have hB := hB.trans (o41.below (by omega))
  refine F.sg rfl fun a F => ?_
  refine s_end (K10 _ _ ?_)
  refine wp_rs fun _ K11 => F.mv rfl fun a F => F.mv rfl fun a F => s_grd 20 F rfl rfl rfl <| F.mv rfl fun a F => F.vl (x_pick (b := true) rfl rfl) fun a F => F.mv rfl fun a F => s_grdn 23 F rfl rfl (by decide) fun a F => s_grdn 23 F rfl rfl (by decide) fun a F => s_grdn 23 F rfl rfl (by decide) fun a F => F.vl (x_pick (b := false) rfl rfl) fun a F => F.sg rfl fun a F => ?_
  refine s_end (K11 _ _ ?_)
  refine wp_ret (res_slot F rfl rfl ⟨_, rfl, ⟨_, rfl, fun _ => rfl, fun s t hs ht g1 g2 => absurd ⟨rs_snd hLa hs g1, rs_snd hLb ht g2⟩ hn⟩, hB⟩)
 ·
  have hsa : sndL la := of_decide_eq_true hd1
  have hsb : sndL lb := of_decide_eq_true hd2
  obtain ⟨s, hs, hsg⟩ := sound_sl hLa hsa
  obtain ⟨t, ht, htg⟩ := sound_sl hLb hsb
  have hns := nfK_len s hsg
  have hnt := nfK_len t htg
  have hB9 := hB
  refine wp_rs fun _ K12 => F.vl (x_ldW wide24 m2 rfl rfl) fun a F => ?_
  refine s_callR (R := fun v w' => ∃ c vk ks, v = .tuple #[.agg [.int .i64 c, vk].toArray, .bool (decide (sndL la))] ∧ FF w4 x la w' c vk ks) [_] F E106 rfl (by decide) (formOf38 x la w4 (hLa.old hB)) ?_
  rintro _ w42 a ⟨c1, vk1, ks1, rfl, hf1⟩ B43 F
  have sB43 := B43.size
  have hB := bt hB B43
  have m3 := m3.old B43
  have h1v1 := hf1.1.one
  have hB1 := Below.refl w42.heap.size w42
  rw [hd1] at F
  obtain ⟨rfl, rfl⟩ := hf1.2.2 s (RS.below hB9 hs) hsg
  refine F.mv rfl fun a F => F.vl (x_ext rfl rfl) fun a F => F.vl (x_ext rfl rfl) fun a F => ?_
  refine s_alloc F (by decide) zero59 fun w44 b5 a eb5 m5 B45 zb5 F => ?_
  have sB45 := B45.size
  have hB := bt hB B45
  have hB1 := bt hB1 B45
  have m3 := m3.old B45
  refine s_putW F rfl rfl (size_wide wide59) m5 rfl (one2 h1v1) fun w46 m5 o47 => ?_
  have so47 := o47.size
  have hB := hB.trans (o47.below (by omega))
  have hB1 := hB1.trans (o47.below (by omega))
  have m3 := m3.only o47 (by omega)
  refine F.sg rfl fun a F => ?_
  refine s_end (K12 _ _ ?_)
  have hB8 := hB
  refine wp_rs fun _ K13 => F.vl (x_ldW wide24 m3 rfl rfl) fun a F => ?_
  refine s_callR (R := fun v w' => ∃ c vk ks, v = .tuple #[.agg [.int .i64 c, vk].toArray, .bool (decide (sndL lb))] ∧ FF w46 y lb w' c vk ks) [_] F E106 rfl (by decide) (formOf38 y lb w46 (hLb.old hB)) ?_
  rintro _ w48 a ⟨c2, vk2, ks2, rfl, hf2⟩ B49 F
  have sB49 := B49.size
  have hB := bt hB B49
  have hB1 := bt hB1 B49
  have m5 := m5.old B49
  have h1v2 := hf2.1.one
  have hB2 := Below.refl w48.heap.size w48
  rw [hd2] at F
  obtain ⟨rfl, rfl⟩ := hf2.2.2 t (RS.below hB8 ht) htg
  refine F.mv rfl fun a F => F.vl (x_ext rfl rfl) fun a F => F.vl (x_ext rfl rfl) fun a F => ?_
  refine s_alloc F (by decide) zero59 fun w50 b7 a eb7 m7 B51 zb7 F => ?_
  have sB51 := B51.size
  have hB := bt hB B51
  have hB1 := bt hB1 B51
  have hB2 := bt hB2 B51
  have m5 := m5.old B51
  refine s_putW F rfl rfl (size_wide wide59) m7 rfl (one2 h1v2) fun w52 m7 o53 => ?_
  have so53 := o53.size
  have hB := hB.trans (o53.below (by omega))
  have hB1 := hB1.trans (o53.below (by omega))
  have hB2 := hB2.trans (o53.below (by omega))
  have m5 := m5.only o53 (by omega)
  refine F.sg rfl fun a F => ?_
  refine s_end (K13 _ _ ?_)
  refine wp_rs fun _ K14 => F.mv rfl fun a F => F.mv rfl fun a F => s_grd 20 F rfl rfl rfl <| F.mv rfl fun a F => F.vl (x_pick (b := true) rfl rfl) fun a F => F.mv rfl fun a F => s_grd 23 F rfl rfl rfl <| F.vl (x_ldW wide59 m5 rfl rfl) fun a F => s_grd 23 F rfl rfl rfl <| F.vl (x_ldW wide59 m7 rfl rfl) fun a F => s_grd 23 F rfl rfl rfl ?_
  refine s_callB [_, _] F E145 rfl (by decide) (same44 _ _ _ _ (nfK s) (nfK t) w52 (by omega) (hf1.1.below hB1) (hf2.1.below hB2)) fun w54 a B55 F => ?_
  have sB55 := B55.size
  have hB := bt hB B55
  refine F.vl (x_pick (b := true) rfl rfl) fun a F => F.sg rfl fun a F => ?_
  refine s_end (K14 _ _ ?_)
  refine wp_ret (res_slot F rfl rfl ⟨_, rfl, ⟨_, rfl, fun h => absurd ⟨hsa, hsb⟩ h, fun s' t' hs' ht' _ _ => by rw [RS.inj hs' hs, RS.inj ht' ht]; rfl⟩, hB⟩)
end Go.Proofs.Ytbhhbfdoadecgaa
