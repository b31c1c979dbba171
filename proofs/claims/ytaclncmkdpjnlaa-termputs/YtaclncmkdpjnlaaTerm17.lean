/- Inst, Lift, the kinds of terms, Apps; awake. -/
import Derived.Test.YtaclncmkdpjnlaaTerm11
namespace Go.Proofs.Ytaclncmkdpjnlaa
open Go.RowKit Go.Shelf
set_option linter.unusedVariables false
set_option linter.unusedSimpArgs false

/-- x reads as a term that says p. -/
def RT (W : World) (p : PT) (x : C8) : Prop := RE W (fun k => k < W.heap.size) p x
theorem RE.rt {W : World} {A : Nat → Prop} {p : PT} {x : C8} (h : RE W A p x) : RT W p x := h.valid.mono (fun k hk => hk.2)
theorem RT.below {W W' : World} {p : PT} {x : C8} (h : RT W p x) (hB : Below W.heap.size W W') : RT W' p x := (RE.below h hB).rt
theorem RE_bare (W : World) (A : Nat → Prop) : RE W A (.odd 0) ⟨0, 0, emptyB, (0, 0, nilS), nilS, nilS⟩ := RE_odd (by left; simp [arT]) (RKE.nil W A)
theorem holds83q (n dp vn vd : Int) (q : Int × Int) (w0 : World) (h1 : 0 ≤ n ∧ n ≤ 20000) (h2 : 0 ≤ dp ∧ dp ≤ 20000) (h3 : 0 ≤ vn ∧ vn ≤ 20000) (h4 : 0 ≤ vd ∧ vd ≤ 20000) (h5 : 0 ≤ q.1 ∧ q.1 ≤ 20000) (h6 : 0 ≤ q.2 ∧ q.2 ≤ 20000) :
    Calls Try.prog 64 #[.agg [.int .i64 n, .int .i64 dp].toArray, .agg [.int .i64 vn, .int .i64 vd].toArray, .agg (enc2 q).toArray] w0 fun e w' => e = .returned (.bool (decide (holdsP n dp vn vd q.1 q.2))) ∧ Below w0.heap.size w0 w' := by
  obtain ⟨cnt, pd⟩ := q
  exact holds83 n dp vn vd cnt pd w0 h1 h2 h3 h4 h5 h6
def PT.inst (t v : PT) : PT := if t.ok ∧ v.ok ∧ (PT.put v t 0).ok then PT.put v t 0 else .odd 0
def cut20 (b : Int) : Int := min (max b (-1048576)) 1048576
def PT.Lift (t : PT) (f b : Int) : PT := if t.ok then t.lift (max f 0) (cut20 b) 0 else .odd 0

set_option maxRecDepth 100000 in
set_option maxHeartbeats 1600000 in
theorem Inst42t (A : Nat → Prop) (c v : CT) (x y : C8) (w0 : World) (hA : ∀ k, A k → k < w0.heap.size) (hxA : RC w0 A c x) (hvA : RC w0 A v y) : Calls Try.prog 29 #[tv x, tv y] w0 fun e w' => ∃ u, e = .returned u ∧ (∃ y, u = tv y ∧ RE w' (AS A w0.heap.size) (PT.inst c.ess v.ess) y ∧ (c.ok ∧ v.ok ∧ (PT.put v.ess c.ess 0).ok → Tt c y)) ∧ Below w0.heap.size w0 w' := by
  have hx := hxA.mono hA
  have hv := hvA.mono hA
  have hin : c.ok ∧ v.ok ∧ (PT.put v.ess c.ess 0).ok → PT.inst c.ess v.ess = PT.put v.ess c.ess 0 := fun h => if_pos ⟨c.ok_ess.2 h.1, v.ok_ess.2 h.2.1, h.2.2⟩
  have hno : ¬ (c.ok ∧ v.ok ∧ (PT.put v.ess c.ess 0).ok) → PT.inst c.ess v.ess = .odd 0 := fun h => if_neg (fun h' => h ⟨c.ok_ess.1 h'.1, v.ok_ess.1 h'.2.1, h'.2.2⟩)
  obtain ⟨q, hq⟩ : ∃ q, q = c.fold Gpl 0 := ⟨_, rfl⟩
  have hg := Gpl_rng c 0
  have hh := holdsP_iff (c := c) (v := v)
  rw [← hq] at hg hh
  have hcd := c.dep_pos
  have hvd := v.dep_pos
  have hB := Below.refl w0.heap.size w0
  have sB := hB.size
  refine calls_fs 38 [(0, tv x), (1, tv y)] Try.func29 rfl rfl rfl rfl rfl fun a hF => ?_
  refine wp_rs fun K1 hK1 => ?_
  refine s_box (tc x) hF (by decide) rfl rfl fun w2 b2 a eb2 m2 B3 zb2 hF => ?_
  have sB3 := B3.size
  have hB := hB.trans (B3.mono hB.size)
  refine s_box (tc y) hF (by decide) rfl rfl fun w4 b3 a eb3 m3 B5 zb3 hF => ?_
  have sB5 := B5.size
  have hB := hB.trans (B5.mono hB.size)
  have m2 := m2.old B5
  refine s_alloc hF (by decide) zero27 fun w6 b4 a eb4 m4 B7 zb4 hF => ?_
  have sB7 := B7.size
  have hB := hB.trans (B7.mono hB.size)
  have m2 := m2.old B7
  have m3 := m3.old B7
  refine s_end (hK1 _ _ ?_)
  refine wp_rs fun K2 hK2 => ?_
  refine s_val hF (x_ldW wide27 m2 rfl rfl) (by decide) fun a hF => ?_
  refine s_callB [_] hF (enters_of Try.func51 (by kernel_rfl) rfl) rfl (by decide) (measure62 c x w6 (hx.bel hB)) fun w8 a B9 hF => ?_
  have sB9 := B9.size
  have hB := hB.trans (B9.mono hB.size)
  have m2 := m2.old B9
  have m3 := m3.old B9
  have m4 := m4.old B9
  refine s_val hF (x_move rfl) (by decide) fun a hF => ?_
  refine s_val hF (x_ext rfl rfl) (by decide) fun a hF => ?_
  refine s_val hF (x_ext rfl rfl) (by decide) fun a hF => ?_
  refine s_alloc hF (by decide) zero70 fun w10 b5 a eb5 m5 B11 zb5 hF => ?_
  have sB11 := B11.size
  have hB := hB.trans (B11.mono hB.size)
  have m2 := m2.old B11
  have m3 := m3.old B11
  have m4 := m4.old B11
  refine s_putW hF rfl rfl (size_wide wide70) m5 rfl (oneII _ _) fun w14 m5 o15 => ?_
  have so15 := o15.size
  have hB := hB.trans (o15.below (by omega))
  have m2 := m2.only o15 (by omega)
  have m3 := m3.only o15 (by omega)
  have m4 := m4.only o15 (by omega)
  refine s_val hF (x_assign rfl) (by decide) fun a hF => ?_
  refine s_end (hK2 _ _ ?_)
  refine wp_rs fun K3 hK3 => ?_
  refine s_val hF (x_ldW wide27 m3 rfl rfl) (by decide) fun a hF => ?_
  refine s_callB [_] hF (enters_of Try.func51 (by kernel_rfl) rfl) rfl (by decide) (measure62 v y w14 (hv.bel hB)) fun w16 a B17 hF => ?_
  have sB17 := B17.size
  have hB := hB.trans (B17.mono hB.size)
  have m2 := m2.old B17
  have m3 := m3.old B17
  have m4 := m4.old B17
  have m5 := m5.old B17
  refine s_val hF (x_move rfl) (by decide) fun a hF => ?_
  refine s_val hF (x_ext rfl rfl) (by decide) fun a hF => ?_
  refine s_val hF (x_ext rfl rfl) (by decide) fun a hF => ?_
  refine s_alloc hF (by decide) zero70 fun w18 b7 a eb7 m7 B19 zb7 hF => ?_
  have sB19 := B19.size
  have hB := hB.trans (B19.mono hB.size)
  have m2 := m2.old B19
  have m3 := m3.old B19
  have m4 := m4.old B19
  have m5 := m5.old B19
  refine s_putW hF rfl rfl (size_wide wide70) m7 rfl (oneII _ _) fun w22 m7 o23 => ?_
  have so23 := o23.size
  have hB := hB.trans (o23.below (by omega))
  have m2 := m2.only o23 (by omega)
  have m3 := m3.only o23 (by omega)
  have m4 := m4.only o23 (by omega)
  have m5 := m5.only o23 (by omega)
  refine s_val hF (x_assign rfl) (by decide) fun a hF => ?_
  refine s_end (hK3 _ _ ?_)
  refine wp_seq_k fun K4 hK4 => ?_
  rcases (show ¬ c.ok ∨ (c.ok ∧ ¬ v.ok) ∨ (c.ok ∧ v.ok ∧ (PT.put v.ess c.ess 0).ok) ∨ (c.ok ∧ v.ok ∧ ¬ (PT.put v.ess c.ess 0).ok) by by_cases h1 : c.ok <;> by_cases h2 : v.ok <;> by_cases h3 : (PT.put v.ess c.ess 0).ok <;> simp [h1, h2, h3]) with hk1 | ⟨hk1, hk2⟩ | ⟨hk1, hk2, hk3⟩ | ⟨hk1, hk2, hk3⟩
  · rw [decide_eq_false hk1] at hF
    refine dk2_seq (b4) (b4) (ops := regOps Try.f29 3) (N := 14) (by kernel_rfl) wide_orders (by kernel_rfl) fun w24 hw24 B25 hS K6 hK6 => ?_
    have zw24 : w24.heap.size = w22.heap.size := by rw [hw24]
    have sB25 := B25.size
    have hB := hB.trans (B25.mono hB.size)
    have m2 := m2.old B25
    have m3 := m3.old B25
    have m4 := m4.old B25
    have m5 := m5.old B25
    have m7 := m7.old B25
    have m2_d := m2
    have m3_d := m3
    have m4_d := m4
    have m5_d := m5
    have m7_d := m7
    have hB_d := hB
    refine d_val 0 19 (op := (Go.Op.move (Go.Operand.tmp 6))) hF hS (by kernel_rfl) (fun W hW => x_move rfl) (by kernel_rfl) (by decide) fun a hF => ?_
    refine d_val 1 20 (op := (Go.Op.unOp Go.UnOp.not 4 (Go.Operand.tmp 19))) hF hS (by kernel_rfl) (fun W hW => x_not rfl) (by kernel_rfl) (by decide) fun a hF => ?_
    refine d_val 2 21 (op := (Go.Op.move (Go.Operand.tmp 20))) hF hS (by kernel_rfl) (fun W hW => x_move rfl) (by kernel_rfl) (by decide) fun a hF => ?_
    refine d_skip 3 22 21 (j := 2) (want := false) (op := (Go.Op.move (Go.Operand.tmp 8))) hF hS (by kernel_rfl) (by kernel_rfl) rfl (by kernel_rfl) (by decide) fun a hF => ?_
    refine d_skip 4 23 21 (j := 2) (want := false) (op := (Go.Op.unOp Go.UnOp.not 4 (Go.Operand.tmp 22))) hF hS (by kernel_rfl) (by kernel_rfl) rfl (by kernel_rfl) (by decide) fun a hF => ?_
    refine d_val 5 24 (op := (Go.Op.pick (Go.Operand.tmp 21) (Go.Operand.const (Go.Value.bool true)) (Go.Operand.tmp 23))) hF hS (by kernel_rfl) (fun W hW => x_pick (b := true) rfl rfl) (by kernel_rfl) (by decide) fun a hF => ?_
    refine d_val 6 25 (op := (Go.Op.move (Go.Operand.tmp 24))) hF hS (by kernel_rfl) (fun W hW => x_move rfl) (by kernel_rfl) (by decide) fun a hF => ?_
    refine d_skip 7 26 25 (j := 6) (want := false) (op := (Go.Op.load 67 (Go.Operand.tmp 5))) hF hS (by kernel_rfl) (by kernel_rfl) rfl (by kernel_rfl) (by decide) fun a hF => ?_
    refine d_skip 8 27 25 (j := 6) (want := false) (op := (Go.Op.load 67 (Go.Operand.tmp 7))) hF hS (by kernel_rfl) (by kernel_rfl) rfl (by kernel_rfl) (by decide) fun a hF => ?_
    refine d_skip 9 28 25 (j := 6) (want := false) (op := (Go.Op.load 27 (Go.Operand.tmp 2))) hF hS (by kernel_rfl) (by kernel_rfl) rfl (by kernel_rfl) (by decide) fun a hF => ?_
    refine d_skip 10 29 25 (j := 6) (want := false) (op := (Go.Op.call (Go.Call.mk (Go.Callee.value (Go.Operand.func 65)) #[(Go.Operand.tmp 28)] #[27]))) hF hS (by kernel_rfl) (by kernel_rfl) rfl (by kernel_rfl) (by decide) fun a hF => ?_
    refine d_skip 11 30 25 (j := 6) (want := false) (op := (Go.Op.call (Go.Call.mk (Go.Callee.value (Go.Operand.func 64)) #[(Go.Operand.tmp 26), (Go.Operand.tmp 27), (Go.Operand.tmp 29)] #[67, 67, 81]))) hF hS (by kernel_rfl) (by kernel_rfl) rfl (by kernel_rfl) (by decide) fun a hF => ?_
    refine d_skip 12 31 25 (j := 6) (want := false) (op := (Go.Op.unOp Go.UnOp.not 4 (Go.Operand.tmp 30))) hF hS (by kernel_rfl) (by kernel_rfl) rfl (by kernel_rfl) (by decide) fun a hF => ?_
    refine d_val 13 32 (op := (Go.Op.pick (Go.Operand.tmp 25) (Go.Operand.const (Go.Value.bool true)) (Go.Operand.tmp 31))) hF hS (by kernel_rfl) (fun W hW => x_pick (b := true) rfl rfl) (by kernel_rfl) (by decide) fun a hF => ?_
    refine d_end (by kernel_rfl) (hK6 _ _ ?_)
    refine wp_if hF rfl ?_
    refine wp_rs fun K7 hK7 => ?_
    refine s_val hF (x_build (vs := []) rfl (b27_ _)) (by decide) fun a hF => ?_
    refine s_putW hF rfl rfl (size_wide wide27) m4 rfl one8 fun w28 m4 o29 => ?_
    have so29 := o29.size
    have hB := hB.trans (o29.below (by omega))
    have m2 := m2.only o29 (by omega)
    have m3 := m3.only o29 (by omega)
    have m5 := m5.only o29 (by omega)
    have m7 := m7.only o29 (by omega)
    refine s_end (hK7 _ _ ?_)
    refine wp_ret (then_ret (res_cell hF rfl rfl m4 wide27 ⟨_, rfl, ⟨⟨0, 0, emptyB, (0, 0, nilS), nilS, nilS⟩, rfl, by rw [hno (fun h => hk1 h.1)]; exact RE_bare _ _, fun h => absurd h (fun h => hk1 h.1)⟩, hB⟩))
  · rw [decide_eq_true hk1, decide_eq_false hk2] at hF
    refine dk2_seq (b4) (b4) (ops := regOps Try.f29 3) (N := 14) (by kernel_rfl) wide_orders (by kernel_rfl) fun w30 hw30 B31 hS K8 hK8 => ?_
    have zw30 : w30.heap.size = w22.heap.size := by rw [hw30]
    have sB31 := B31.size
    have hB := hB.trans (B31.mono hB.size)
    have m2 := m2.old B31
    have m3 := m3.old B31
    have m4 := m4.old B31
    have m5 := m5.old B31
    have m7 := m7.old B31
    have m2_d := m2
    have m3_d := m3
    have m4_d := m4
    have m5_d := m5
    have m7_d := m7
    have hB_d := hB
    refine d_val 0 19 (op := (Go.Op.move (Go.Operand.tmp 6))) hF hS (by kernel_rfl) (fun W hW => x_move rfl) (by kernel_rfl) (by decide) fun a hF => ?_
    refine d_val 1 20 (op := (Go.Op.unOp Go.UnOp.not 4 (Go.Operand.tmp 19))) hF hS (by kernel_rfl) (fun W hW => x_not rfl) (by kernel_rfl) (by decide) fun a hF => ?_
    refine d_val 2 21 (op := (Go.Op.move (Go.Operand.tmp 20))) hF hS (by kernel_rfl) (fun W hW => x_move rfl) (by kernel_rfl) (by decide) fun a hF => ?_
    refine d_valg 3 22 21 (j := 2) (want := false) (op := (Go.Op.move (Go.Operand.tmp 8))) hF hS (by kernel_rfl) (by kernel_rfl) rfl (fun W hW => x_move rfl) (by kernel_rfl) (by decide) fun a hF => ?_
    refine d_valg 4 23 21 (j := 2) (want := false) (op := (Go.Op.unOp Go.UnOp.not 4 (Go.Operand.tmp 22))) hF hS (by kernel_rfl) (by kernel_rfl) rfl (fun W hW => x_not rfl) (by kernel_rfl) (by decide) fun a hF => ?_
    refine d_val 5 24 (op := (Go.Op.pick (Go.Operand.tmp 21) (Go.Operand.const (Go.Value.bool true)) (Go.Operand.tmp 23))) hF hS (by kernel_rfl) (fun W hW => x_pick (b := false) rfl rfl) (by kernel_rfl) (by decide) fun a hF => ?_
    refine d_val 6 25 (op := (Go.Op.move (Go.Operand.tmp 24))) hF hS (by kernel_rfl) (fun W hW => x_move rfl) (by kernel_rfl) (by decide) fun a hF => ?_
    refine d_skip 7 26 25 (j := 6) (want := false) (op := (Go.Op.load 67 (Go.Operand.tmp 5))) hF hS (by kernel_rfl) (by kernel_rfl) rfl (by kernel_rfl) (by decide) fun a hF => ?_
    refine d_skip 8 27 25 (j := 6) (want := false) (op := (Go.Op.load 67 (Go.Operand.tmp 7))) hF hS (by kernel_rfl) (by kernel_rfl) rfl (by kernel_rfl) (by decide) fun a hF => ?_
    refine d_skip 9 28 25 (j := 6) (want := false) (op := (Go.Op.load 27 (Go.Operand.tmp 2))) hF hS (by kernel_rfl) (by kernel_rfl) rfl (by kernel_rfl) (by decide) fun a hF => ?_
    refine d_skip 10 29 25 (j := 6) (want := false) (op := (Go.Op.call (Go.Call.mk (Go.Callee.value (Go.Operand.func 65)) #[(Go.Operand.tmp 28)] #[27]))) hF hS (by kernel_rfl) (by kernel_rfl) rfl (by kernel_rfl) (by decide) fun a hF => ?_
    refine d_skip 11 30 25 (j := 6) (want := false) (op := (Go.Op.call (Go.Call.mk (Go.Callee.value (Go.Operand.func 64)) #[(Go.Operand.tmp 26), (Go.Operand.tmp 27), (Go.Operand.tmp 29)] #[67, 67, 81]))) hF hS (by kernel_rfl) (by kernel_rfl) rfl (by kernel_rfl) (by decide) fun a hF => ?_
    refine d_skip 12 31 25 (j := 6) (want := false) (op := (Go.Op.unOp Go.UnOp.not 4 (Go.Operand.tmp 30))) hF hS (by kernel_rfl) (by kernel_rfl) rfl (by kernel_rfl) (by decide) fun a hF => ?_
    refine d_val 13 32 (op := (Go.Op.pick (Go.Operand.tmp 25) (Go.Operand.const (Go.Value.bool true)) (Go.Operand.tmp 31))) hF hS (by kernel_rfl) (fun W hW => x_pick (b := true) rfl rfl) (by kernel_rfl) (by decide) fun a hF => ?_
    refine d_end (by kernel_rfl) (hK8 _ _ ?_)
    refine wp_if hF rfl ?_
    refine wp_rs fun K9 hK9 => ?_
    refine s_val hF (x_build (vs := []) rfl (b27_ _)) (by decide) fun a hF => ?_
    refine s_putW hF rfl rfl (size_wide wide27) m4 rfl one8 fun w34 m4 o35 => ?_
    have so35 := o35.size
    have hB := hB.trans (o35.below (by omega))
    have m2 := m2.only o35 (by omega)
    have m3 := m3.only o35 (by omega)
    have m5 := m5.only o35 (by omega)
    have m7 := m7.only o35 (by omega)
    refine s_end (hK9 _ _ ?_)
    refine wp_ret (then_ret (res_cell hF rfl rfl m4 wide27 ⟨_, rfl, ⟨⟨0, 0, emptyB, (0, 0, nilS), nilS, nilS⟩, rfl, by rw [hno (fun h => hk2 h.2.1)]; exact RE_bare _ _, fun h => absurd h (fun h => hk2 h.2.1)⟩, hB⟩))
  · rw [decide_eq_true hk1, decide_eq_true hk2] at hF
    rw [show c.mN = c.size from if_pos hk1, show c.mD = c.dep from if_pos hk1] at m5
    rw [show v.mN = v.size from if_pos hk2, show v.mD = v.dep from if_pos hk2] at m7
    have hk3b := decide_eq_true (hh.2 hk3)
    refine dk2_seq (b4) (b4) (ops := regOps Try.f29 3) (N := 14) (by kernel_rfl) wide_orders (by kernel_rfl) fun w36 hw36 B37 hS K10 hK10 => ?_
    have zw36 : w36.heap.size = w22.heap.size := by rw [hw36]
    have sB37 := B37.size
    have hB := hB.trans (B37.mono hB.size)
    have m2 := m2.old B37
    have m3 := m3.old B37
    have m4 := m4.old B37
    have m5 := m5.old B37
    have m7 := m7.old B37
    have m2_d := m2
    have m3_d := m3
    have m4_d := m4
    have m5_d := m5
    have m7_d := m7
    have hB_d := hB
    refine d_val 0 19 (op := (Go.Op.move (Go.Operand.tmp 6))) hF hS (by kernel_rfl) (fun W hW => x_move rfl) (by kernel_rfl) (by decide) fun a hF => ?_
    refine d_val 1 20 (op := (Go.Op.unOp Go.UnOp.not 4 (Go.Operand.tmp 19))) hF hS (by kernel_rfl) (fun W hW => x_not rfl) (by kernel_rfl) (by decide) fun a hF => ?_
    refine d_val 2 21 (op := (Go.Op.move (Go.Operand.tmp 20))) hF hS (by kernel_rfl) (fun W hW => x_move rfl) (by kernel_rfl) (by decide) fun a hF => ?_
    refine d_valg 3 22 21 (j := 2) (want := false) (op := (Go.Op.move (Go.Operand.tmp 8))) hF hS (by kernel_rfl) (by kernel_rfl) rfl (fun W hW => x_move rfl) (by kernel_rfl) (by decide) fun a hF => ?_
    refine d_valg 4 23 21 (j := 2) (want := false) (op := (Go.Op.unOp Go.UnOp.not 4 (Go.Operand.tmp 22))) hF hS (by kernel_rfl) (by kernel_rfl) rfl (fun W hW => x_not rfl) (by kernel_rfl) (by decide) fun a hF => ?_
    refine d_val 5 24 (op := (Go.Op.pick (Go.Operand.tmp 21) (Go.Operand.const (Go.Value.bool true)) (Go.Operand.tmp 23))) hF hS (by kernel_rfl) (fun W hW => x_pick (b := false) rfl rfl) (by kernel_rfl) (by decide) fun a hF => ?_
    refine d_val 6 25 (op := (Go.Op.move (Go.Operand.tmp 24))) hF hS (by kernel_rfl) (fun W hW => x_move rfl) (by kernel_rfl) (by decide) fun a hF => ?_
    refine d_valg 7 26 25 (j := 6) (want := false) (op := (Go.Op.load 67 (Go.Operand.tmp 5))) hF hS (by kernel_rfl) (by kernel_rfl) rfl (fun W hW => x_ldW wide70 (m5_d.k2 hW (by omega)) rfl rfl) (by kernel_rfl) (by decide) fun a hF => ?_
    refine d_valg 8 27 25 (j := 6) (want := false) (op := (Go.Op.load 67 (Go.Operand.tmp 7))) hF hS (by kernel_rfl) (by kernel_rfl) rfl (fun W hW => x_ldW wide70 (m7_d.k2 hW (by omega)) rfl rfl) (by kernel_rfl) (by decide) fun a hF => ?_
    refine d_valg 9 28 25 (j := 6) (want := false) (op := (Go.Op.load 27 (Go.Operand.tmp 2))) hF hS (by kernel_rfl) (by kernel_rfl) rfl (fun W hW => x_ldW wide27 (m2_d.k2 hW (by omega)) rfl rfl) (by kernel_rfl) (by decide) fun a hF => ?_
    refine d_oneg 10 25 (some 29) (Go.Op.call (Go.Call.mk (Go.Callee.value (Go.Operand.func 65)) #[(Go.Operand.tmp 28)] #[27])) (j := 6) (want := false) hF (by kernel_rfl) (by kernel_rfl) (by kernel_rfl) rfl fun ty pos af => ?_
    refine s_callB [_] hF (enters_of Try.func65 (by kernel_rfl) rfl) rfl (by decide) ((placesOf84 c x w36 (hx.bel hB) hk1).mono fun e w' h => ⟨by rw [h.1, ← hq], h.2⟩) fun w38 a B39 hF => ?_
    have sB39 := B39.size
    have hB := hB.trans (B39.mono hB.size)
    have m2 := m2.old B39
    have m3 := m3.old B39
    have m4 := m4.old B39
    have m5 := m5.old B39
    have m7 := m7.old B39
    have hS := hS.below B39
    refine s_end ⟨hS, ?_⟩
    refine d_oneg 11 25 (some 30) (Go.Op.call (Go.Call.mk (Go.Callee.value (Go.Operand.func 64)) #[(Go.Operand.tmp 26), (Go.Operand.tmp 27), (Go.Operand.tmp 29)] #[67, 67, 81])) (j := 6) (want := false) hF (by kernel_rfl) (by kernel_rfl) (by kernel_rfl) rfl fun ty pos af => ?_
    refine s_callB [_, _, _] hF (enters_of Try.func64 (by kernel_rfl) rfl) rfl (by decide) ((holds83q c.size c.dep v.size v.dep q w38 (by have := hk1.1; omega) (by have := hk1.2; omega) (by have := hk2.1; omega) (by have := hk2.2; omega) (by have := hk1.1; omega) (by have := hk1.2; omega)).mono fun e w' h => ⟨by rw [h.1, hk3b], h.2⟩) fun w40 a B41 hF => ?_
    have sB41 := B41.size
    have hB := hB.trans (B41.mono hB.size)
    have m2 := m2.old B41
    have m3 := m3.old B41
    have m4 := m4.old B41
    have m5 := m5.old B41
    have m7 := m7.old B41
    have hS := hS.below B41
    refine s_end ⟨hS, ?_⟩
    refine d_valg 12 31 25 (j := 6) (want := false) (op := (Go.Op.unOp Go.UnOp.not 4 (Go.Operand.tmp 30))) hF hS (by kernel_rfl) (by kernel_rfl) rfl (fun W hW => x_not rfl) (by kernel_rfl) (by decide) fun a hF => ?_
    refine d_val 13 32 (op := (Go.Op.pick (Go.Operand.tmp 25) (Go.Operand.const (Go.Value.bool true)) (Go.Operand.tmp 31))) hF hS (by kernel_rfl) (fun W hW => x_pick (b := false) rfl rfl) (by kernel_rfl) (by decide) fun a hF => ?_
    refine d_end (by kernel_rfl) (hK10 _ _ ?_)
    refine wp_if hF rfl ?_
    refine wp_skip (hK4 _ _ ?_)
    refine dk2_seq (b4) (b4) (ops := regOps Try.f29 5) (N := 5) (by kernel_rfl) wide_orders (by kernel_rfl) fun w42 hw42 B43 hS K11 hK11 => ?_
    have zw42 : w42.heap.size = w40.heap.size := by rw [hw42]
    have sB43 := B43.size
    have hB := hB.trans (B43.mono hB.size)
    have m2 := m2.old B43
    have m3 := m3.old B43
    have m4 := m4.old B43
    have m5 := m5.old B43
    have m7 := m7.old B43
    have m2_d := m2
    have m3_d := m3
    have m4_d := m4
    have m5_d := m5
    have m7_d := m7
    have hB_d := hB
    refine d_val 1 35 (op := (Go.Op.load 27 (Go.Operand.tmp 2))) hF hS (by kernel_rfl) (fun W hW => x_ldW wide27 (m2_d.k2 hW (by omega)) rfl rfl) (by kernel_rfl) (by decide) fun a hF => ?_
    refine d_val 2 36 (op := (Go.Op.load 27 (Go.Operand.tmp 3))) hF hS (by kernel_rfl) (fun W hW => x_ldW wide27 (m3_d.k2 hW (by omega)) rfl rfl) (by kernel_rfl) (by decide) fun a hF => ?_
    refine d_one 0 (some 34) (Go.Op.call (Go.Call.mk (Go.Callee.value (Go.Operand.func 45)) #[] #[])) (by kernel_rfl) (by kernel_rfl) fun ty pos af => ?_
    refine s_callR (R := fun v w' => ∃ br, v = .pointer (some ⟨br, 0, none⟩) ∧ w42.heap.size ≤ br ∧ Blk w' br 108 [.int .i64 2147483647]) [] hF (enters_of Try.func45 (by kernel_rfl) rfl) rfl (by decide) (newRoom56 w42) ?_
    rintro _ w44 a ⟨br, rfl, hbrw, mbr⟩ B45 hF
    have sB45 := B45.size
    have hB := hB.trans (B45.mono hB.size)
    have m2 := m2.old B45
    have m3 := m3.old B45
    have m4 := m4.old B45
    have m5 := m5.old B45
    have m7 := m7.old B45
    have hS := hS.below B45
    have hR : Room w44 br := ⟨_, mbr, by decide, by decide⟩
    have hbrl := hR.lt
    refine s_end ⟨hS, ?_⟩
    refine d_one 3 (some 37) (Go.Op.call (Go.Call.mk (Go.Callee.value (Go.Operand.func 66)) #[(Go.Operand.tmp 34), (Go.Operand.tmp 35), (Go.Operand.tmp 36)] #[61, 27, 27])) (by kernel_rfl) (by kernel_rfl) fun ty pos af => ?_
    refine s_call (R := fun u w' => ((∃ y, u = tv y ∧ RE w' (AS A w44.heap.size) (PT.put v.ess c.ess 0) y ∧ Tt c y) ∧ Room w' br) ∧ Ktw br br w44 w') hF [_, _, _] (enters_of Try.func66 (by kernel_rfl) rfl) rfl (by decide) (put85 w44 br (by omega) A (fun k hk => by have := hA k hk; exact ⟨by omega, by omega⟩) c x (hxA.keep hB.size (fun k hk _ => hB.block k (hA k hk))) v y (hvA.keep hB.size (fun k hk _ => hB.block k (hA k hk))) (by have := hk2.2; omega) (by have := hk1.2; omega) hR) ?_
    rintro _ w46 a ⟨⟨⟨y9, rfl, hy9, hT9⟩, hR⟩, k47⟩ hF
    have sk47 := k47.size
    have hB := k47.under hB (by omega)
    have m2 := m2.k2 k47 (by omega)
    have m3 := m3.k2 k47 (by omega)
    have m4 := m4.k2 k47 (by omega)
    have m5 := m5.k2 k47 (by omega)
    have m7 := m7.k2 k47 (by omega)
    have hS := hS.trans k47 (by omega)
    refine s_end ⟨hS, ?_⟩
    refine d_one 4 none (Go.Op.store 27 (Go.Operand.tmp 4) (Go.Operand.tmp 37)) (by kernel_rfl) (by kernel_rfl) fun ty pos af => ?_
    refine s_putW hF rfl rfl (size_wide wide27) m4 rfl hy9.one fun w50 m4 o51 => ?_
    have so51 := o51.size
    have hB := hB.trans (o51.below (by omega))
    have m2 := m2.only o51 (by omega)
    have m3 := m3.only o51 (by omega)
    have m5 := m5.only o51 (by omega)
    have m7 := m7.only o51 (by omega)
    have hS := hS.only o51 (by omega)
    have hR := hR.only o51 (by omega)
    have hy9 := hy9.only o51 (by intro h; rcases h with h | h; (have := hA _ h; omega); omega)
    refine s_end ⟨hS, ?_⟩
    refine d_end (by kernel_rfl) (hK11 _ _ ?_)
    refine wp_ret (res_cell hF rfl rfl m4 wide27 ⟨_, rfl, ⟨y9, rfl, by rw [hin ⟨hk1, hk2, hk3⟩]; exact hy9.mono (AS.mono (by omega)), fun _ => hT9⟩, hB⟩)
  · rw [decide_eq_true hk1, decide_eq_true hk2] at hF
    rw [show c.mN = c.size from if_pos hk1, show c.mD = c.dep from if_pos hk1] at m5
    rw [show v.mN = v.size from if_pos hk2, show v.mD = v.dep from if_pos hk2] at m7
    have hk3b := decide_eq_false (fun h => hk3 (hh.1 h))
    refine dk2_seq (b4) (b4) (ops := regOps Try.f29 3) (N := 14) (by kernel_rfl) wide_orders (by kernel_rfl) fun w52 hw52 B53 hS K12 hK12 => ?_
    have zw52 : w52.heap.size = w22.heap.size := by rw [hw52]
    have sB53 := B53.size
    have hB := hB.trans (B53.mono hB.size)
    have m2 := m2.old B53
    have m3 := m3.old B53
    have m4 := m4.old B53
    have m5 := m5.old B53
    have m7 := m7.old B53
    have m2_d := m2
    have m3_d := m3
    have m4_d := m4
    have m5_d := m5
    have m7_d := m7
    have hB_d := hB
    refine d_val 0 19 (op := (Go.Op.move (Go.Operand.tmp 6))) hF hS (by kernel_rfl) (fun W hW => x_move rfl) (by kernel_rfl) (by decide) fun a hF => ?_
    refine d_val 1 20 (op := (Go.Op.unOp Go.UnOp.not 4 (Go.Operand.tmp 19))) hF hS (by kernel_rfl) (fun W hW => x_not rfl) (by kernel_rfl) (by decide) fun a hF => ?_
    refine d_val 2 21 (op := (Go.Op.move (Go.Operand.tmp 20))) hF hS (by kernel_rfl) (fun W hW => x_move rfl) (by kernel_rfl) (by decide) fun a hF => ?_
    refine d_valg 3 22 21 (j := 2) (want := false) (op := (Go.Op.move (Go.Operand.tmp 8))) hF hS (by kernel_rfl) (by kernel_rfl) rfl (fun W hW => x_move rfl) (by kernel_rfl) (by decide) fun a hF => ?_
    refine d_valg 4 23 21 (j := 2) (want := false) (op := (Go.Op.unOp Go.UnOp.not 4 (Go.Operand.tmp 22))) hF hS (by kernel_rfl) (by kernel_rfl) rfl (fun W hW => x_not rfl) (by kernel_rfl) (by decide) fun a hF => ?_
    refine d_val 5 24 (op := (Go.Op.pick (Go.Operand.tmp 21) (Go.Operand.const (Go.Value.bool true)) (Go.Operand.tmp 23))) hF hS (by kernel_rfl) (fun W hW => x_pick (b := false) rfl rfl) (by kernel_rfl) (by decide) fun a hF => ?_
    refine d_val 6 25 (op := (Go.Op.move (Go.Operand.tmp 24))) hF hS (by kernel_rfl) (fun W hW => x_move rfl) (by kernel_rfl) (by decide) fun a hF => ?_
    refine d_valg 7 26 25 (j := 6) (want := false) (op := (Go.Op.load 67 (Go.Operand.tmp 5))) hF hS (by kernel_rfl) (by kernel_rfl) rfl (fun W hW => x_ldW wide70 (m5_d.k2 hW (by omega)) rfl rfl) (by kernel_rfl) (by decide) fun a hF => ?_
    refine d_valg 8 27 25 (j := 6) (want := false) (op := (Go.Op.load 67 (Go.Operand.tmp 7))) hF hS (by kernel_rfl) (by kernel_rfl) rfl (fun W hW => x_ldW wide70 (m7_d.k2 hW (by omega)) rfl rfl) (by kernel_rfl) (by decide) fun a hF => ?_
    refine d_valg 9 28 25 (j := 6) (want := false) (op := (Go.Op.load 27 (Go.Operand.tmp 2))) hF hS (by kernel_rfl) (by kernel_rfl) rfl (fun W hW => x_ldW wide27 (m2_d.k2 hW (by omega)) rfl rfl) (by kernel_rfl) (by decide) fun a hF => ?_
    refine d_oneg 10 25 (some 29) (Go.Op.call (Go.Call.mk (Go.Callee.value (Go.Operand.func 65)) #[(Go.Operand.tmp 28)] #[27])) (j := 6) (want := false) hF (by kernel_rfl) (by kernel_rfl) (by kernel_rfl) rfl fun ty pos af => ?_
    refine s_callB [_] hF (enters_of Try.func65 (by kernel_rfl) rfl) rfl (by decide) ((placesOf84 c x w52 (hx.bel hB) hk1).mono fun e w' h => ⟨by rw [h.1, ← hq], h.2⟩) fun w54 a B55 hF => ?_
    have sB55 := B55.size
    have hB := hB.trans (B55.mono hB.size)
    have m2 := m2.old B55
    have m3 := m3.old B55
    have m4 := m4.old B55
    have m5 := m5.old B55
    have m7 := m7.old B55
    have hS := hS.below B55
    refine s_end ⟨hS, ?_⟩
    refine d_oneg 11 25 (some 30) (Go.Op.call (Go.Call.mk (Go.Callee.value (Go.Operand.func 64)) #[(Go.Operand.tmp 26), (Go.Operand.tmp 27), (Go.Operand.tmp 29)] #[67, 67, 81])) (j := 6) (want := false) hF (by kernel_rfl) (by kernel_rfl) (by kernel_rfl) rfl fun ty pos af => ?_
    refine s_callB [_, _, _] hF (enters_of Try.func64 (by kernel_rfl) rfl) rfl (by decide) ((holds83q c.size c.dep v.size v.dep q w54 (by have := hk1.1; omega) (by have := hk1.2; omega) (by have := hk2.1; omega) (by have := hk2.2; omega) (by have := hk1.1; omega) (by have := hk1.2; omega)).mono fun e w' h => ⟨by rw [h.1, hk3b], h.2⟩) fun w56 a B57 hF => ?_
    have sB57 := B57.size
    have hB := hB.trans (B57.mono hB.size)
    have m2 := m2.old B57
    have m3 := m3.old B57
    have m4 := m4.old B57
    have m5 := m5.old B57
    have m7 := m7.old B57
    have hS := hS.below B57
    refine s_end ⟨hS, ?_⟩
    refine d_valg 12 31 25 (j := 6) (want := false) (op := (Go.Op.unOp Go.UnOp.not 4 (Go.Operand.tmp 30))) hF hS (by kernel_rfl) (by kernel_rfl) rfl (fun W hW => x_not rfl) (by kernel_rfl) (by decide) fun a hF => ?_
    refine d_val 13 32 (op := (Go.Op.pick (Go.Operand.tmp 25) (Go.Operand.const (Go.Value.bool true)) (Go.Operand.tmp 31))) hF hS (by kernel_rfl) (fun W hW => x_pick (b := false) rfl rfl) (by kernel_rfl) (by decide) fun a hF => ?_
    refine d_end (by kernel_rfl) (hK12 _ _ ?_)
    refine wp_if hF rfl ?_
    refine wp_rs fun K13 hK13 => ?_
    refine s_val hF (x_build (vs := []) rfl (b27_ _)) (by decide) fun a hF => ?_
    refine s_putW hF rfl rfl (size_wide wide27) m4 rfl one8 fun w60 m4 o61 => ?_
    have so61 := o61.size
    have hB := hB.trans (o61.below (by omega))
    have m2 := m2.only o61 (by omega)
    have m3 := m3.only o61 (by omega)
    have m5 := m5.only o61 (by omega)
    have m7 := m7.only o61 (by omega)
    refine s_end (hK13 _ _ ?_)
    refine wp_ret (then_ret (res_cell hF rfl rfl m4 wide27 ⟨_, rfl, ⟨⟨0, 0, emptyB, (0, 0, nilS), nilS, nilS⟩, rfl, by rw [hno (fun h => hk3 h.2.2)]; exact RE_bare _ _, fun h => absurd h (fun h => hk3 h.2.2)⟩, hB⟩))

theorem Inst42 (c v : CT) (x y : C8) (w0 : World) (hx : RC w0 (fun k => k < w0.heap.size) c x) (hv : RC w0 (fun k => k < w0.heap.size) v y) : Calls Try.prog 29 #[tv x, tv y] w0 fun e w' => ∃ u, e = .returned u ∧ (∃ y, u = tv y ∧ RT w' (PT.inst c.ess v.ess) y) ∧ Below w0.heap.size w0 w' :=
  (Inst42t _ c v x y w0 (fun _ h => h) hx hv).mono fun e w' ⟨u, h1, ⟨y, h2, h3, _⟩, h4⟩ => ⟨u, h1, ⟨y, h2, RE.rt h3⟩, h4⟩

set_option maxRecDepth 100000 in
set_option maxHeartbeats 1600000 in
theorem Const18t (A : Nat → Prop) (s : ByteArray) (ls : List Lv) (v : Value) (w0 : World) (hA : ∀ k, A k → k < w0.heap.size) (hv : RVn w0 A v ls) : Calls Try.prog 14 #[.string s, v] w0 fun e w' => ∃ u, e = .returned u ∧ (∃ y, u = tv y ∧ RE w' (AS A w0.heap.size) (.cst s (ls.map slO)) y) ∧ Below w0.heap.size w0 w' := by
  obtain ⟨av, cv, hve, _⟩ := hv.form
  subst hve
  have hB := Below.refl w0.heap.size w0
  have sB := hB.size
  refine calls_fs 10 [(0, .string s), (1, .slice av ls.length cv)] Try.func14 rfl rfl rfl rfl rfl fun a hF => ?_
  refine wp_rs fun K1 hK1 => ?_
  refine s_alloc hF (by decide) zero27 fun w2 b4 a eb4 m4 B3 zb4 hF => ?_
  have sB3 := B3.size
  have hB := hB.trans (B3.mono hB.size)
  refine s_end (hK1 _ _ ?_)
  refine wp_rs fun K2 hK2 => ?_
  refine s_callR (R := fun v w' => ∃ br, v = .pointer (some ⟨br, 0, none⟩) ∧ w2.heap.size ≤ br ∧ Blk w' br 108 [.int .i64 2147483647]) [] hF (enters_of Try.func45 (by kernel_rfl) rfl) rfl (by decide) (newRoom56 w2) ?_
  rintro _ w4 a ⟨br, rfl, hbrw, mbr⟩ B5 hF
  have sB5 := B5.size
  have hB := hB.trans (B5.mono hB.size)
  have m4 := m4.old B5
  have hR : Room w4 br := ⟨_, mbr, by decide, by decide⟩
  have hbrl := hR.lt
  refine s_val hF (x_move rfl) (by decide) fun a hF => ?_
  refine s_val hF (x_move rfl) (by decide) fun a hF => ?_
  refine s_val hF (x_build (vs := [(0, _), (2, _), (4, _)]) rfl (b27_024 _ _ _ _ _ _)) (by decide) fun a hF => ?_
  refine s_call (R := fun u w' => ((∃ y, u = tv y ∧ RE w' (AS A w4.heap.size) (CT.ess (.cst s ls 0)) y) ∧ Room w' br) ∧ Ktw br br w4 w') hF [_, _] (enters_of Try.func46 (by kernel_rfl) rfl) rfl (by decide) (owned57 w4 br (by omega) A (fun k hk => by have := hA k hk; exact ⟨by omega, by omega⟩) (.cst s ls 0) ⟨7, 0, s, (0, 0, nilS), .slice av ls.length cv, nilS⟩ ⟨rfl, rfl, hv.keep hB.size (fun k hk _ => hB.block k (hA k hk)), ⟨_, Rn.nil _ _ 8⟩, ⟨.mk 0 0 [], .mk (xs := []) (Rn.nil _ _ 3) rfl (fun i x l h => by simp at h)⟩, _, hv.keep hB.size (fun k hk _ => hB.block k (hA k hk))⟩ hR) ?_
  rintro _ w6 a ⟨⟨⟨y9, rfl, hy9⟩, hR⟩, k7⟩ hF
  have sk7 := k7.size
  have hB := k7.under hB (by omega)
  have m4 := m4.k2 k7 (by omega)
  refine s_putW hF rfl rfl (size_wide wide27) m4 rfl hy9.one fun w10 m4 o11 => ?_
  have so11 := o11.size
  have hB := hB.trans (o11.below (by omega))
  have hR := hR.only o11 (by omega)
  have hy9 := hy9.only o11 (by intro h; rcases h with h | h; (have := hA _ h; omega); omega)
  refine s_end (hK2 _ _ ?_)
  refine wp_ret (res_cell hF rfl rfl m4 wide27 ⟨_, rfl, ⟨y9, rfl, hy9.mono (AS.mono (by omega))⟩, hB⟩)

theorem Const18 (s : ByteArray) (ls : List Lv) (v : Value) (w0 : World) (hv : RVn w0 (fun k => k < w0.heap.size) v ls) : Calls Try.prog 14 #[.string s, v] w0 fun e w' => ∃ u, e = .returned u ∧ (∃ y, u = tv y ∧ RT w' (.cst s (ls.map slO)) y) ∧ Below w0.heap.size w0 w' :=
  (Const18t _ s ls v w0 (fun _ h => h) hv).mono fun e w' ⟨u, h1, ⟨y, h2, h3⟩, h4⟩ => ⟨u, h1, ⟨y, h2, RE.rt h3⟩, h4⟩

set_option maxRecDepth 100000 in
set_option maxHeartbeats 1600000 in
theorem Lam21t (A : Nat → Prop) (c v : CT) (x y : C8) (w0 : World) (hA : ∀ k, A k → k < w0.heap.size) (hx : RC w0 A c x) (hv : RC w0 A v y) : Calls Try.prog 17 #[tv x, tv y] w0 fun e w' => ∃ u, e = .returned u ∧ (∃ y, u = tv y ∧ RE w' (AS A w0.heap.size) (.two 4 c.ess v.ess) y ∧ Tn 2 y) ∧ Below w0.heap.size w0 w' := by
  have hB := Below.refl w0.heap.size w0
  have sB := hB.size
  refine calls_fs 10 [(0, tv x), (1, tv y)] Try.func17 rfl rfl rfl rfl rfl fun a hF => ?_
  refine wp_rs fun K1 hK1 => ?_
  refine s_box (tc x) hF (by decide) rfl rfl fun w2 b2 a eb2 m2 B3 zb2 hF => ?_
  have sB3 := B3.size
  have hB := hB.trans (B3.mono hB.size)
  refine s_box (tc y) hF (by decide) rfl rfl fun w4 b3 a eb3 m3 B5 zb3 hF => ?_
  have sB5 := B5.size
  have hB := hB.trans (B5.mono hB.size)
  have m2 := m2.old B5
  refine s_alloc hF (by decide) zero27 fun w6 b4 a eb4 m4 B7 zb4 hF => ?_
  have sB7 := B7.size
  have hB := hB.trans (B7.mono hB.size)
  have m2 := m2.old B7
  have m3 := m3.old B7
  refine s_end (hK1 _ _ ?_)
  refine dk2_seq (b4) (b4) (ops := regOps Try.f17 1) (N := 6) (by kernel_rfl) wide_orders (by kernel_rfl) fun w8 hw8 B9 hS K2 hK2 => ?_
  have zw8 : w8.heap.size = w6.heap.size := by rw [hw8]
  have sB9 := B9.size
  have hB := hB.trans (B9.mono hB.size)
  have m2 := m2.old B9
  have m3 := m3.old B9
  have m4 := m4.old B9
  have m2_d := m2
  have m3_d := m3
  have m4_d := m4
  have hB_d := hB
  refine d_val 1 6 (op := (Go.Op.load 27 (Go.Operand.tmp 2))) hF hS (by kernel_rfl) (fun W hW => x_ldW wide27 (m2_d.k2 hW (by omega)) rfl rfl) (by kernel_rfl) (by decide) fun a hF => ?_
  refine d_val 2 7 (op := (Go.Op.load 27 (Go.Operand.tmp 3))) hF hS (by kernel_rfl) (fun W hW => x_ldW wide27 (m3_d.k2 hW (by omega)) rfl rfl) (by kernel_rfl) (by decide) fun a hF => ?_
  refine d_two 0 3 (by kernel_rfl) ?_ ?_
  · refine d_op 0 (some 5) (Go.Op.call (Go.Call.mk (Go.Callee.value (Go.Operand.func 45)) #[] #[])) (by kernel_rfl) fun ty pos af => ?_
    refine s_callR (R := fun v w' => ∃ br, v = .pointer (some ⟨br, 0, none⟩) ∧ w8.heap.size ≤ br ∧ Blk w' br 108 [.int .i64 2147483647]) [] hF (enters_of Try.func45 (by kernel_rfl) rfl) rfl (by decide) (newRoom56 w8) ?_
    rintro _ w10 a ⟨br, rfl, hbrw, mbr⟩ B11 hF
    have sB11 := B11.size
    have hB := hB.trans (B11.mono hB.size)
    have m2 := m2.old B11
    have m3 := m3.old B11
    have m4 := m4.old B11
    have hS := hS.below B11
    have hR : Room w10 br := ⟨_, mbr, by decide, by decide⟩
    have hbrl := hR.lt
    refine s_end ⟨hS, ?_⟩
    refine d_one 3 (some 8) (Go.Op.buildSlice 25 2 #[(0, (Go.Operand.tmp 6)), (1, (Go.Operand.tmp 7))]) (by kernel_rfl) (by kernel_rfl) fun ty pos af => ?_
    refine s_litG [tv x, tv y] el25 hF (by decide) rfl (by simp [Value.cells, tc]) rfl (by decide) (by decide) fun w12 bl a ebl ml B13 zbl hF => ?_
    have sB13 := B13.size
    have hB := hB.trans (B13.mono hB.size)
    have m2 := m2.old B13
    have m3 := m3.old B13
    have m4 := m4.old B13
    have hS := hS.below B13
    have hR := hR.below B13
    have ml : Blk w12 bl 27 (tc x ++ tc y) := by simpa [Value.cells] using ml
    refine s_end ⟨hS, ?_⟩
    refine d_one 4 (some 9) (Go.Op.call (Go.Call.mk (Go.Callee.value (Go.Operand.func 49)) #[(Go.Operand.tmp 5), (Go.Operand.const (Go.Value.int Go.IntKind.i64 4)), (Go.Operand.tmp 8)] #[61, 3, 25])) (by kernel_rfl) (by kernel_rfl) fun ty pos af => ?_
    have hbl1 := ml.lt
    have hrk : RK w12 (fun k => A k ∨ k = bl) (.slice (some ⟨bl, 0, none⟩) 2 2) [c, v] := ⟨[x, y], ⟨by simpa using Rd.blk ml (n := 2) rfl, fun _ b hb => by simp [Value.ownBlock] at hb; exact .inr hb.symm⟩, rfl, fun i x2 c2 e1 e2 => by rcases i with _ | _ | i; (· simp at e1 e2; subst e1 e2; exact RC.mono (fun k hk => .inl hk) (hx.keep hB.size (fun k hk _ => hB.block k (hA k hk)))); (· simp at e1 e2; subst e1 e2; exact RC.mono (fun k hk => .inl hk) (hv.keep hB.size (fun k hk _ => hB.block k (hA k hk)))); simp at e1⟩
    refine s_call (R := fun u w' => ((∃ v', u = tv ⟨4, 0, emptyB, (0, 0, nilS), nilS, v'⟩ ∧ RKE w' (AS (fun k => A k ∨ k = bl) w12.heap.size) v' (List.map CT.ess [c, v])) ∧ Room w' br) ∧ Ktw br br w12 w') hF [_, _, _] (enters_of Try.func49 (by kernel_rfl) rfl) rfl (by decide) (joined60 w12 br (by omega) (fun k => A k ∨ k = bl) (fun k hk => by rcases hk with hk | hk; (have := hA k hk; omega); omega) 4 [c, v] _ hrk (by simp) hR) ?_
    rintro _ w14 a ⟨⟨⟨v9, rfl, hy9⟩, hR⟩, k15⟩ hF
    have sk15 := k15.size
    have hB := k15.under hB (by omega)
    have m2 := m2.k2 k15 (by omega)
    have m3 := m3.k2 k15 (by omega)
    have m4 := m4.k2 k15 (by omega)
    have ml := ml.k2 k15 (by omega)
    have hS := hS.trans k15 (by omega)
    have h1v9 := hy9.one
    have hT9 : Tn 2 ⟨4, 0, emptyB, (0, 0, nilS), nilS, v9⟩ := by obtain ⟨a, cp, he, _⟩ := hy9.form; exact ⟨a, cp, he⟩
    refine s_end ⟨hS, ?_⟩
    refine d_one 5 none (Go.Op.store 27 (Go.Operand.tmp 4) (Go.Operand.tmp 9)) (by kernel_rfl) (by kernel_rfl) fun ty pos af => ?_
    refine s_putW hF rfl rfl (size_wide wide27) m4 rfl (one_tc0 _ _ _ _ h1v9) fun w18 m4 o19 => ?_
    have so19 := o19.size
    have hB := hB.trans (o19.below (by omega))
    have m2 := m2.only o19 (by omega)
    have m3 := m3.only o19 (by omega)
    have hS := hS.only o19 (by omega)
    have hR := hR.only o19 (by omega)
    have hy9 := hy9.only o19 (by intro h; rcases h with (h | h) | h; (have := hA _ h; omega); omega; omega)
    refine s_end ⟨hS, ?_⟩
    refine d_end (by kernel_rfl) (hK2 _ _ ?_)
    refine wp_ret (res_cell hF rfl rfl m4 wide27 ⟨_, rfl, ⟨_, rfl, RE_two (by decide) (hy9.mono (fun k hk => by rcases hk with (hk | hk) | hk; (· exact .inl hk); (· exact .inr (by omega)); exact .inr (by omega))), hT9⟩, hB⟩)
  · refine d_op 3 (some 8) (Go.Op.buildSlice 25 2 #[(0, (Go.Operand.tmp 6)), (1, (Go.Operand.tmp 7))]) (by kernel_rfl) fun ty pos af => ?_
    refine s_litG [tv x, tv y] el25 hF (by decide) rfl (by simp [Value.cells, tc]) rfl (by decide) (by decide) fun w20 bl a ebl ml B21 zbl hF => ?_
    have sB21 := B21.size
    have hB := hB.trans (B21.mono hB.size)
    have m2 := m2.old B21
    have m3 := m3.old B21
    have m4 := m4.old B21
    have hS := hS.below B21
    have ml : Blk w20 bl 27 (tc x ++ tc y) := by simpa [Value.cells] using ml
    refine s_end ⟨hS, ?_⟩
    refine d_one 0 (some 5) (Go.Op.call (Go.Call.mk (Go.Callee.value (Go.Operand.func 45)) #[] #[])) (by kernel_rfl) (by kernel_rfl) fun ty pos af => ?_
    refine s_callR (R := fun v w' => ∃ br, v = .pointer (some ⟨br, 0, none⟩) ∧ w20.heap.size ≤ br ∧ Blk w' br 108 [.int .i64 2147483647]) [] hF (enters_of Try.func45 (by kernel_rfl) rfl) rfl (by decide) (newRoom56 w20) ?_
    rintro _ w22 a ⟨br, rfl, hbrw, mbr⟩ B23 hF
    have sB23 := B23.size
    have hB := hB.trans (B23.mono hB.size)
    have m2 := m2.old B23
    have m3 := m3.old B23
    have m4 := m4.old B23
    have ml := ml.old B23
    have hS := hS.below B23
    have hR : Room w22 br := ⟨_, mbr, by decide, by decide⟩
    have hbrl := hR.lt
    refine s_end ⟨hS, ?_⟩
    refine d_one 4 (some 9) (Go.Op.call (Go.Call.mk (Go.Callee.value (Go.Operand.func 49)) #[(Go.Operand.tmp 5), (Go.Operand.const (Go.Value.int Go.IntKind.i64 4)), (Go.Operand.tmp 8)] #[61, 3, 25])) (by kernel_rfl) (by kernel_rfl) fun ty pos af => ?_
    have hbl1 := ml.lt
    have hrk : RK w22 (fun k => A k ∨ k = bl) (.slice (some ⟨bl, 0, none⟩) 2 2) [c, v] := ⟨[x, y], ⟨by simpa using Rd.blk ml (n := 2) rfl, fun _ b hb => by simp [Value.ownBlock] at hb; exact .inr hb.symm⟩, rfl, fun i x2 c2 e1 e2 => by rcases i with _ | _ | i; (· simp at e1 e2; subst e1 e2; exact RC.mono (fun k hk => .inl hk) (hx.keep hB.size (fun k hk _ => hB.block k (hA k hk)))); (· simp at e1 e2; subst e1 e2; exact RC.mono (fun k hk => .inl hk) (hv.keep hB.size (fun k hk _ => hB.block k (hA k hk)))); simp at e1⟩
    refine s_call (R := fun u w' => ((∃ v', u = tv ⟨4, 0, emptyB, (0, 0, nilS), nilS, v'⟩ ∧ RKE w' (AS (fun k => A k ∨ k = bl) w22.heap.size) v' (List.map CT.ess [c, v])) ∧ Room w' br) ∧ Ktw br br w22 w') hF [_, _, _] (enters_of Try.func49 (by kernel_rfl) rfl) rfl (by decide) (joined60 w22 br (by omega) (fun k => A k ∨ k = bl) (fun k hk => by rcases hk with hk | hk; (have := hA k hk; omega); omega) 4 [c, v] _ hrk (by simp) hR) ?_
    rintro _ w24 a ⟨⟨⟨v9, rfl, hy9⟩, hR⟩, k25⟩ hF
    have sk25 := k25.size
    have hB := k25.under hB (by omega)
    have m2 := m2.k2 k25 (by omega)
    have m3 := m3.k2 k25 (by omega)
    have m4 := m4.k2 k25 (by omega)
    have ml := ml.k2 k25 (by omega)
    have hS := hS.trans k25 (by omega)
    have h1v9 := hy9.one
    have hT9 : Tn 2 ⟨4, 0, emptyB, (0, 0, nilS), nilS, v9⟩ := by obtain ⟨a, cp, he, _⟩ := hy9.form; exact ⟨a, cp, he⟩
    refine s_end ⟨hS, ?_⟩
    refine d_one 5 none (Go.Op.store 27 (Go.Operand.tmp 4) (Go.Operand.tmp 9)) (by kernel_rfl) (by kernel_rfl) fun ty pos af => ?_
    refine s_putW hF rfl rfl (size_wide wide27) m4 rfl (one_tc0 _ _ _ _ h1v9) fun w28 m4 o29 => ?_
    have so29 := o29.size
    have hB := hB.trans (o29.below (by omega))
    have m2 := m2.only o29 (by omega)
    have m3 := m3.only o29 (by omega)
    have hS := hS.only o29 (by omega)
    have hR := hR.only o29 (by omega)
    have hy9 := hy9.only o29 (by intro h; rcases h with (h | h) | h; (have := hA _ h; omega); omega; omega)
    refine s_end ⟨hS, ?_⟩
    refine d_end (by kernel_rfl) (hK2 _ _ ?_)
    refine wp_ret (res_cell hF rfl rfl m4 wide27 ⟨_, rfl, ⟨_, rfl, RE_two (by decide) (hy9.mono (fun k hk => by rcases hk with (hk | hk) | hk; (· exact .inl hk); (· exact .inr (by omega)); exact .inr (by omega))), hT9⟩, hB⟩)

theorem Lam21 (c v : CT) (x y : C8) (w0 : World) (hx : RC w0 (fun k => k < w0.heap.size) c x) (hv : RC w0 (fun k => k < w0.heap.size) v y) : Calls Try.prog 17 #[tv x, tv y] w0 fun e w' => ∃ u, e = .returned u ∧ (∃ y, u = tv y ∧ RT w' (.two 4 c.ess v.ess) y) ∧ Below w0.heap.size w0 w' :=
  (Lam21t _ c v x y w0 (fun _ h => h) hx hv).mono fun e w' ⟨u, h1, ⟨y, h2, h3, _⟩, h4⟩ => ⟨u, h1, ⟨y, h2, RE.rt h3⟩, h4⟩

end Go.Proofs.Ytaclncmkdpjnlaa

namespace Go.Proofs.Ytaclncmkdpjnlaa
open Go.RowKit Go.Shelf
set_option linter.unusedVariables false
set_option linter.unusedSimpArgs false

def PT.apps (f : PT) (xs : List PT) : PT := xs.foldl (fun t a => .two 6 t a) f
theorem apps_snoc (f : PT) (xs : List PT) (a : PT) : PT.apps f (xs ++ [a]) = .two 6 (PT.apps f xs) a := by simp [PT.apps]
theorem apps_mono (f : PT) (xs : List PT) : ∀ bs : List PT, (PT.apps f (xs ++ bs)).ok → (PT.apps f xs).ok := by
  intro bs
  induction bs generalizing xs with
  | nil => intro h; simpa using h
  | cons b bs ih =>
    intro h
    have h1 := ih (xs ++ [b]) (by simpa using h)
    rw [apps_snoc] at h1
    unfold PT.ok at h1 ⊢
    simp only [PT.size, PT.dep] at h1
    omega
theorem apps_take {f : PT} {xs : List PT} {i : Nat} (h : (PT.apps f xs).ok) : (PT.apps f (xs.take i)).ok := apps_mono f (xs.take i) (xs.drop i) (by rw [List.take_append_drop]; exact h)
def PT.appsR (f : PT) (xs : List PT) : PT := if (PT.apps f xs).ok then PT.apps f xs else .odd 0
theorem CT.mN_ess {a : CT} (h : a.ok) : (a.mN : Int) = a.ess.size ∧ (a.mD : Int) = a.ess.dep := by
  rw [a.ess_size, a.ess_dep, show a.mN = a.size from if_pos h, show a.mD = a.dep from if_pos h]; exact ⟨rfl, rfl⟩

set_option maxRecDepth 100000 in
set_option maxHeartbeats 400000 in
theorem Apps24 (c : CT) (x : C8) (cs : List CT) (v : Value) (w0 : World) (hx : RC w0 (fun k => k < w0.heap.size) c x) (hV : RK w0 (fun k => k < w0.heap.size) v cs) (hlen : cs.length ≤ 1000000) : Calls Try.prog 20 #[tv x, v] w0 fun e w' => ∃ u, e = .returned u ∧ (∃ y, u = tv y ∧ RT w' (PT.appsR c.ess (cs.map CT.ess)) y) ∧ Below w0.heap.size w0 w' := by
  obtain ⟨av, cv, hve, _⟩ := hV.form
  subst hve
  obtain ⟨ps, hps⟩ : ∃ ps, ps = cs.map CT.ess := ⟨_, rfl⟩
  have hpl : ps.length = cs.length := by rw [hps, List.length_map]
  have hB := Below.refl w0.heap.size w0
  have sB := hB.size
  refine calls_fs 54 [(0, tv x), (1, .slice av cs.length cv)] Try.func20 rfl rfl rfl rfl rfl fun a hF => ?_
  refine wp_rs fun K1 hK1 => ?_
  refine s_box (tc x) hF (by decide) rfl rfl fun w2 b2 a eb2 m2 B3 zb2 hF => ?_
  have sB3 := B3.size
  have hB := hB.trans (B3.mono hB.size)
  refine s_alloc hF (by decide) zero27 fun w4 b4 a eb4 m4 B5 zb4 hF => ?_
  have sB5 := B5.size
  have hB := hB.trans (B5.mono hB.size)
  have m2 := m2.old B5
  refine s_end (hK1 _ _ ?_)
  refine wp_rs fun K2 hK2 => ?_
  refine s_val hF (x_ldW wide27 m2 rfl rfl) (by decide) fun a hF => ?_
  refine s_callB [_] hF (enters_of Try.func51 (by kernel_rfl) rfl) rfl (by decide) (measure62 c x w4 (hx.bel hB)) fun w6 a B7 hF => ?_
  have sB7 := B7.size
  have hB := hB.trans (B7.mono hB.size)
  have m2 := m2.old B7
  have m4 := m4.old B7
  refine s_val hF (x_move rfl) (by decide) fun a hF => ?_
  refine s_val hF (x_ext rfl rfl) (by decide) fun a hF => ?_
  refine s_val hF (x_ext rfl rfl) (by decide) fun a hF => ?_
  refine s_alloc hF (by decide) zero70 fun w8 b5 a eb5 m5 B9 zb5 hF => ?_
  have sB9 := B9.size
  have hB := hB.trans (B9.mono hB.size)
  have m2 := m2.old B9
  have m4 := m4.old B9
  refine s_putW hF rfl rfl (size_wide wide70) m5 rfl (oneII _ _) fun w12 m5 o13 => ?_
  have so13 := o13.size
  have hB := hB.trans (o13.below (by omega))
  have m2 := m2.only o13 (by omega)
  have m4 := m4.only o13 (by omega)
  refine s_val hF (x_assign rfl) (by decide) fun a hF => ?_
  refine s_end (hK2 _ _ ?_)
  refine wp_seq_k fun K3 hK3 => ?_
  refine wp_rs fun K4 hK4 => ?_
  refine s_val hF (x_move rfl) (by decide) fun a hF => ?_
  refine s_val hF (x_len Try.underlying25 rfl) (by decide) fun a hF => ?_
  refine s_val hF (x_move rfl) (by decide) fun a hF => ?_
  refine s_end (hK4 _ _ ?_)
  refine wp_block ?_
  refine wp_up cs.length (fun i a w => ∃ (fl : Bool) (n d : Int), (fl = true → (PT.apps c.ess (ps.take i)).ok ∧ n = (PT.apps c.ess (ps.take i)).size ∧ d = (PT.apps c.ess (ps.take i)).dep) ∧ (fl = false → ¬ (PT.apps c.ess ps).ok) ∧ Blk w b5 67 [.int .i64 n, .int .i64 d] ∧ Blk w b2 27 (tc x) ∧ Blk w b4 27 z8 ∧ Below w0.heap.size w0 w ∧ Fs 54 a [(1, .slice av cs.length cv), (2, .pointer (some ⟨b2, 0, none⟩)), (4, .pointer (some ⟨b4, 0, none⟩)), (5, .pointer (some ⟨b5, 0, none⟩)), (6, .bool fl), (18, .slice av cs.length cv), (19, .int .i64 (cs.length : Int)), (20, .int .i64 (i : Int))]) ⟨decide c.ok, c.mN, c.mD, (fun h => by have h := of_decide_eq_true h; obtain ⟨e1, e2⟩ := CT.mN_ess h; exact ⟨c.ok_ess.2 h, e1, e2⟩), (fun h h2 => of_decide_eq_false h (c.ok_ess.1 (apps_take (i := 0) h2))), m5, m2, m4, hB, hF.sub _ rfl⟩ ?_
  have hne : w0.heap.size ≤ b2 ∧ w0.heap.size ≤ b4 ∧ w0.heap.size ≤ b5 ∧ b2 ≠ b4 ∧ b2 ≠ b5 ∧ b4 ≠ b5 := by omega
  repeat clear hF
  clear hB m2 m4 m5
  rintro i a w hi ⟨fl, n, d, hI1, hI2, m5, m2, m4, hB, hF⟩ K' hK'
  have sB := hB.size
  have h2l := m2.lt
  have h4l := m4.lt
  have h5l := m5.lt
  refine wp_rs fun K5 hK5 => ?_
  refine s_val hF (x_lss (b := decide (i < cs.length)) (decide_eq_decide.2 (by omega)) rfl rfl) (by decide) fun a hF => ?_
  refine s_end (hK5 _ _ ?_)
  refine wp_seq_k fun K6 hK6 => ?_
  refine wp_iff hF rfl (fun hc21 => ?_) (fun hc21 => ?_)
  · obtain ⟨b9, off9, c9, y, p, hve, hp, hry, hAb, hbl, hrow⟩ := hV.row (i := i) (by omega)
    cases hve
    have htk : ps.take (i + 1) = ps.take i ++ [p.ess] := take_snoc (by rw [hps, List.getElem?_map, hp]; rfl)
    refine wp_skip (hK6 _ _ ?_)
    refine wp_seq_k fun K7 hK7 => ?_
    refine wp_block ?_
    refine wp_rs fun K8 hK8 => ?_
    refine s_val hF (x_ixa rfl rfl (m_ixsK i Try.underlying25 el25.size rfl (by omega))) (by decide) fun a hF => ?_
    refine s_val hF (x_ldA wide27 (hrow _ (hB.block _ hbl)) rfl rfl) (by decide) fun a hF => ?_
    refine s_alloc hF (by decide) zero27 fun w14 b8 a eb8 m8 B15 zb8 hF => ?_
    have sB15 := B15.size
    have hB := hB.trans (B15.mono hB.size)
    have m2 := m2.old B15
    have m4 := m4.old B15
    have m5 := m5.old B15
    refine s_putW hF rfl rfl (size_wide wide27) m8 rfl hry.one fun w18 m8 o19 => ?_
    have so19 := o19.size
    have hB := hB.trans (o19.below (by omega))
    have m2 := m2.only o19 (by omega)
    have m4 := m4.only o19 (by omega)
    have m5 := m5.only o19 (by omega)
    refine s_end (hK8 _ _ ?_)
    refine wp_seq_k fun K9 hK9 => ?_
    refine wp_rs fun K10 hK10 => ?_
    refine s_val hF (x_move rfl) (by decide) fun a hF => ?_
    refine s_val hF (x_not rfl) (by decide) fun a hF => ?_
    refine s_end (hK10 _ _ ?_)
    refine wp_ifb hF rfl (fun hc25 => ?_) (fun hc25 => ?_)
    · have hfl : fl = false := by simpa using hc25
      refine wp_exit (hK3 _ _ ?_)
      refine wp_seq_k fun K11 hK11 => ?_
      refine wp_rs fun K12 hK12 => ?_
      refine s_val hF (x_move rfl) (by decide) fun a hF => ?_
      refine s_val hF (x_not rfl) (by decide) fun a hF => ?_
      refine s_end (hK12 _ _ ?_)
      refine wp_ifb hF rfl (fun hc34 => ?_) (fun hc34 => ?_)
      · have hfl2 : fl = false := by simpa using hc34
        refine wp_rs fun K13 hK13 => ?_
        refine s_val hF (x_build (vs := []) rfl (b27_ _)) (by decide) fun a hF => ?_
        refine s_putW hF rfl rfl (size_wide wide27) m4 rfl one8 fun w22 m4 o23 => ?_
        have so23 := o23.size
        have hB := hB.trans (o23.below (by omega))
        have m2 := m2.only o23 (by omega)
        have m5 := m5.only o23 (by omega)
        have m8 := m8.only o23 (by omega)
        refine s_end (hK13 _ _ ?_)
        refine wp_ret (then_ret (res_cell hF rfl rfl m4 wide27 ⟨_, rfl, ⟨⟨0, 0, emptyB, (0, 0, nilS), nilS, nilS⟩, rfl, by rw [show PT.appsR c.ess (cs.map CT.ess) = .odd 0 from if_neg (by rw [← hps]; exact hI2 hfl2)]; exact (RE_bare _ (fun _ => True)).rt⟩, hB⟩))
      · simp [hfl] at hc34
    · have hfl : fl = true := by simpa using hc25
      refine wp_skip (hK9 _ _ ?_)
      refine wp_region_lit ?_
      refine s_val hF (x_ldW wide70 m5 rfl rfl) (by decide) fun a hF => ?_
      refine s_val hF (x_ldW wide27 m8 rfl rfl) (by decide) fun a hF => ?_
      obtain ⟨hok, hn, hd⟩ := hI1 hfl
      have hk9 := hok.1
      have hk8 := hok.2
      refine s_callB [_, _] hF (enters_of Try.func52 (by kernel_rfl) rfl) rfl (by decide) (applied63 n d p y w18 (hry.bel hB) (by omega) (by omega)) fun w24 a B25 hF => ?_
      have sB25 := B25.size
      have hB := hB.trans (B25.mono hB.size)
      have m2 := m2.old B25
      have m4 := m4.old B25
      have m5 := m5.old B25
      have m8 := m8.old B25
      refine s_val hF (x_move rfl) (by decide) fun a hF => ?_
      refine s_val hF (x_ext rfl rfl) (by decide) fun a hF => ?_
      refine s_val hF (x_ext rfl rfl) (by decide) fun a hF => ?_
      refine s_putW hF rfl rfl (size_wide wide70) m5 rfl (oneII _ _) fun w28 m5 o29 => ?_
      have so29 := o29.size
      have hB := hB.trans (o29.below (by omega))
      have m2 := m2.only o29 (by omega)
      have m4 := m4.only o29 (by omega)
      have m8 := m8.only o29 (by omega)
      refine s_val hF (x_assign rfl) (by decide) fun a hF => ?_
      refine s_end (hK7 _ _ ?_)
      refine wp_region_lit ?_
      refine s_val hF (x_addn (i + 1) (by omega) (by omega) rfl rfl) (by decide) fun a hF => ?_
      refine s_val hF (x_move rfl) (by decide) fun a hF => ?_
      refine s_end (hK' _ _ (by omega) ⟨_, _, _, (fun h => by have h := of_decide_eq_true h; obtain ⟨e1, e2⟩ := CT.mN_ess h.1; rw [htk, apps_snoc]; unfold PT.ok; simp only [PT.size, PT.dep]; omega), (fun h h2 => of_decide_eq_false h (by have h3 := apps_take (i := i + 1) h2; rw [htk, apps_snoc] at h3; unfold PT.ok at h3; simp only [PT.size, PT.dep] at h3; have hpo : p.ok := p.ok_ess.1 ⟨by omega, by omega⟩; obtain ⟨e1, e2⟩ := CT.mN_ess hpo; exact ⟨hpo, by omega, by omega⟩)), m5, m2, m4, hB, hF.sub _ rfl⟩)
  · obtain rfl : i = cs.length := by omega
    rw [← hpl, List.take_length] at hI1
    refine wp_exit (hK3 _ _ ?_)
    refine wp_seq_k fun K14 hK14 => ?_
    refine wp_rs fun K15 hK15 => ?_
    refine s_val hF (x_move rfl) (by decide) fun a hF => ?_
    refine s_val hF (x_not rfl) (by decide) fun a hF => ?_
    refine s_end (hK15 _ _ ?_)
    refine wp_ifb hF rfl (fun hc34 => ?_) (fun hc34 => ?_)
    · have hfl2 : fl = false := by simpa using hc34
      refine wp_rs fun K16 hK16 => ?_
      refine s_val hF (x_build (vs := []) rfl (b27_ _)) (by decide) fun a hF => ?_
      refine s_putW hF rfl rfl (size_wide wide27) m4 rfl one8 fun w32 m4 o33 => ?_
      have so33 := o33.size
      have hB := hB.trans (o33.below (by omega))
      have m2 := m2.only o33 (by omega)
      have m5 := m5.only o33 (by omega)
      refine s_end (hK16 _ _ ?_)
      refine wp_ret (then_ret (res_cell hF rfl rfl m4 wide27 ⟨_, rfl, ⟨⟨0, 0, emptyB, (0, 0, nilS), nilS, nilS⟩, rfl, by rw [show PT.appsR c.ess (cs.map CT.ess) = .odd 0 from if_neg (by rw [← hps]; exact hI2 hfl2)]; exact (RE_bare _ (fun _ => True)).rt⟩, hB⟩))
    · have hfl2 : fl = true := by simpa using hc34
      obtain ⟨hokA, hnA, hdA⟩ := hI1 hfl2
      refine wp_skip (hK14 _ _ ?_)
      refine wp_rs fun K17 hK17 => ?_
      refine s_callR (R := fun v w' => ∃ br, v = .pointer (some ⟨br, 0, none⟩) ∧ w.heap.size ≤ br ∧ Blk w' br 108 [.int .i64 2147483647]) [] hF (enters_of Try.func45 (by kernel_rfl) rfl) rfl (by decide) (newRoom56 w) ?_
      rintro _ w34 a ⟨br, rfl, hbrw, mbr⟩ B35 hF
      have sB35 := B35.size
      have hB := hB.trans (B35.mono hB.size)
      have m2 := m2.old B35
      have m4 := m4.old B35
      have m5 := m5.old B35
      have hR : Room w34 br := ⟨_, mbr, by decide, by decide⟩
      have hbrl := hR.lt
      refine s_val hF (x_assign rfl) (by decide) fun a hF => ?_
      refine s_end (hK17 _ _ ?_)
      refine wp_rs fun K18 hK18 => ?_
      refine s_val hF (x_move rfl) (by decide) fun a hF => ?_
      refine s_val hF (x_ldW wide27 m2 rfl rfl) (by decide) fun a hF => ?_
      refine s_call (R := fun u w' => ((∃ y, u = tv y ∧ RE w' (AS (fun k => k < w0.heap.size) w34.heap.size) (c.ess) y) ∧ Room w' br) ∧ Ktw br br w34 w') hF [_, _] (enters_of Try.func46 (by kernel_rfl) rfl) rfl (by decide) (owned57 w34 br (by omega) (fun k => k < w0.heap.size) (fun k hk => ⟨by omega, by omega⟩) c x (hx.keep hB.size (fun k hk _ => hB.block k hk)) hR) ?_
      rintro _ w36 a ⟨⟨⟨y9, rfl, hy9⟩, hR⟩, k37⟩ hF
      have sk37 := k37.size
      have hB := k37.under hB (by omega)
      have m2 := m2.k2 k37 (by omega)
      have m4 := m4.k2 k37 (by omega)
      have m5 := m5.k2 k37 (by omega)
      have hy9 := hy9.valid
      refine s_alloc hF (by decide) zero27 fun w38 b10 a eb10 m10 B39 zb10 hF => ?_
      have sB39 := B39.size
      have hB := hB.trans (B39.mono hB.size)
      have m2 := m2.old B39
      have m4 := m4.old B39
      have m5 := m5.old B39
      have hR := hR.below B39
      have hy9 := hy9.below B39
      refine s_putW hF rfl rfl (size_wide wide27) m10 rfl hy9.one fun w42 m10 o43 => ?_
      have so43 := o43.size
      have hB := hB.trans (o43.below (by omega))
      have m2 := m2.only o43 (by omega)
      have m4 := m4.only o43 (by omega)
      have m5 := m5.only o43 (by omega)
      have hR := hR.only o43 (by omega)
      have hy9 := hy9.only o43 (by first | (intro h; have h2 := h.2; omega) | (intro h; rcases h.1 with h1 | h1; (have := hA _ h1; omega); (have := h.2; omega)) | (intro h; rcases h.1 with h1 | h1; (have := h1.2; omega); (have := h.2; omega)) | (intro h; rcases h.1 with h1 | h1; (exact hAS _ h1.1 rfl); (have := h.2; omega)) | (intro h; rcases h with h | h; (have := hA _ h; omega); omega) | (intro h; have := hA _ h; omega) | (intro h; rcases h with h | h; (have := h.2; omega); omega) | exact Ar.nbr | exact Ai.nbr | exact Ar.no (by omega) | exact Ai.no (by omega))
      refine s_end (hK18 _ _ ?_)
      refine wp_seq_k fun K19 hK19 => ?_
      refine wp_rs fun K20 hK20 => ?_
      refine s_val hF (x_move rfl) (by decide) fun a hF => ?_
      refine s_val hF (x_len Try.underlying25 rfl) (by decide) fun a hF => ?_
      refine s_val hF (x_move rfl) (by decide) fun a hF => ?_
      refine s_end (hK20 _ _ ?_)
      refine wp_block ?_
      refine wp_up cs.length (fun i a w => ∃ y, REx w (fun k => k ≠ br ∧ k ≠ b10 ∧ k ≠ b4 ∧ k < w.heap.size) (PT.apps c.ess (ps.take i)) y ∧ Blk w b10 27 (tc y) ∧ Blk w b4 27 z8 ∧ Room w br ∧ Below w0.heap.size w0 w ∧ Fs 54 a [(4, .pointer (some ⟨b4, 0, none⟩)), (9, .pointer (some ⟨br, 0, none⟩)), (10, .pointer (some ⟨b10, 0, none⟩)), (40, .slice av cs.length cv), (41, .int .i64 (cs.length : Int)), (42, .int .i64 (i : Int))]) ⟨y9, (RE.valid hy9).mono (fun k hk => by rcases hk with ⟨⟨hk, hk2⟩, hk3⟩; refine ⟨?_, ?_, ?_, ?_⟩ <;> (rcases hk with hk | hk <;> omega)), m10, m4, hR, hB, hF.sub _ rfl⟩ ?_
      have hne : w0.heap.size ≤ br ∧ w0.heap.size ≤ b4 ∧ w0.heap.size ≤ b10 ∧ br ≠ b4 ∧ br ≠ b10 ∧ b4 ≠ b10 := by omega
      repeat clear hF
      clear hB m4 m10 hR hy9
      rintro i a w hi ⟨y, hy, m10, m4, hR, hB, hF⟩ K' hK'
      have sB := hB.size
      have h4l := m4.lt
      have h10l := m10.lt
      have hbrl := hR.lt
      obtain ⟨top, htop⟩ : ∃ h, h = w.heap.size := ⟨_, rfl⟩
      rw [← htop] at hy
      have h1y := RE.one hy
      refine wp_rs fun K21 hK21 => ?_
      refine s_val hF (x_lss (b := decide (i < cs.length)) (decide_eq_decide.2 (by omega)) rfl rfl) (by decide) fun a hF => ?_
      refine s_end (hK21 _ _ ?_)
      refine wp_seq_k fun K22 hK22 => ?_
      refine wp_iff hF rfl (fun hc43 => ?_) (fun hc43 => ?_)
      · obtain ⟨b9, off9, c9, y2, p, hve, hp, hry, hAb, hbl, hrow⟩ := hV.row (i := i) (by omega)
        cases hve
        have htk : ps.take (i + 1) = ps.take i ++ [p.ess] := take_snoc (by rw [hps, List.getElem?_map, hp]; rfl)
        refine wp_skip (hK22 _ _ ?_)
        refine wp_seq_k fun K23 hK23 => ?_
        refine wp_block ?_
        refine wp_rs fun K24 hK24 => ?_
        refine s_val hF (x_ixa rfl rfl (m_ixsK i Try.underlying25 el25.size rfl (by omega))) (by decide) fun a hF => ?_
        refine s_val hF (x_ldA wide27 (hrow _ (hB.block _ hbl)) rfl rfl) (by decide) fun a hF => ?_
        refine s_alloc hF (by decide) zero27 fun w44 b12 a eb12 m12 B45 zb12 hF => ?_
        have sB45 := B45.size
        have hB := hB.trans (B45.mono hB.size)
        have m4 := m4.old B45
        have m10 := m10.old B45
        have hy := hy.below B45
        have hR := hR.below B45
        refine s_putW hF rfl rfl (size_wide wide27) m12 rfl hry.one fun w48 m12 o49 => ?_
        have so49 := o49.size
        have hB := hB.trans (o49.below (by omega))
        have m4 := m4.only o49 (by omega)
        have m10 := m10.only o49 (by omega)
        have hy := hy.only o49 (fun k (hk : k ≠ br ∧ k ≠ b10 ∧ k ≠ b4 ∧ k < top) => by omega)
        have hR := hR.only o49 (by omega)
        refine s_end (hK24 _ _ ?_)
        refine dk2_one (br) (b10) (ops := regOps Try.f20 15) (N := 7) (by kernel_rfl) wide_orders (by kernel_rfl) fun w50 hw50 B51 hS K25 hK25 => ?_
        have zw50 : w50.heap.size = w48.heap.size := by rw [hw50]
        have sB51 := B51.size
        have hB := hB.trans (B51.mono hB.size)
        have m4 := m4.old B51
        have m10 := m10.old B51
        have hy := hy.below B51
        have m12 := m12.old B51
        have hR := hR.below B51
        have hR_d := hR
        have m4_d := m4
        have m10_d := m10
        have hy_d := hy
        have m12_d := m12
        have hB_d := hB
        refine d_val 1 47 (op := (Go.Op.move (Go.Operand.tmp 9))) hF hS (by kernel_rfl) (fun W hW => x_move rfl) (by kernel_rfl) (by decide) fun a hF => ?_
        refine d_val 2 48 (op := (Go.Op.load 27 (Go.Operand.tmp 12))) hF hS (by kernel_rfl) (fun W hW => x_ldW wide27 (m12_d.k2 hW (by omega)) rfl rfl) (by kernel_rfl) (by decide) fun a hF => ?_
        refine d_two 0 3 (by kernel_rfl) ?_ ?_
        · refine d_op 0 (some 46) (Go.Op.load 27 (Go.Operand.tmp 10)) (by kernel_rfl) fun ty pos af => ?_
          refine s_val hF (x_ldW wide27 m10 rfl rfl) (by decide) fun a hF => ?_
          refine s_end ⟨hS, ?_⟩
          refine d_one 3 (some 49) (Go.Op.call (Go.Call.mk (Go.Callee.value (Go.Operand.func 46)) #[(Go.Operand.tmp 47), (Go.Operand.tmp 48)] #[61, 27])) (by kernel_rfl) (by kernel_rfl) fun ty pos af => ?_
          refine s_call (R := fun u w' => ((∃ z, u = tv z ∧ REx w' (AS (fun k => k < w0.heap.size) w50.heap.size) p.ess z) ∧ Room w' br) ∧ Ktw br br w50 w') hF [_, _] (enters_of Try.func46 (by kernel_rfl) rfl) rfl (by decide) (owned57 w50 br (by omega) (fun k => k < w0.heap.size) (fun k hk => ⟨by omega, by omega⟩) p y2 (hry.keep hB.size (fun k hk _ => hB.block k hk)) hR) ?_
          rintro _ w52 a ⟨⟨⟨z, rfl, hz0⟩, hR⟩, k53⟩ hF
          have sk53 := k53.size
          have hB := k53.under hB (by omega)
          have m4 := m4.k2 k53 (by omega)
          have m10 := m10.k2 k53 (by omega)
          have hy := hy.k2 k53 (fun k (hk : k ≠ br ∧ k ≠ b10 ∧ k ≠ b4 ∧ k < top) => by omega)
          have m12 := m12.k2 k53 (by omega)
          have hS := hS.trans k53 (by omega)
          have hz : REx w52 (fun k => (k < w0.heap.size ∨ w50.heap.size ≤ k) ∧ k < w52.heap.size) p.ess z := RE.valid hz0
          clear hz0
          have h1z := RE.one hz
          refine s_end ⟨hS, ?_⟩
          refine d_one 4 (some 50) (Go.Op.buildSlice 25 2 #[(0, (Go.Operand.tmp 46)), (1, (Go.Operand.tmp 49))]) (by kernel_rfl) (by kernel_rfl) fun ty pos af => ?_
          refine s_litG [tv y, tv z] el25 hF (by decide) rfl (by simp [Value.cells, tc]) rfl (by decide) (by decide) fun w54 bl a ebl ml B55 zbl hF => ?_
          have sB55 := B55.size
          have hB := hB.trans (B55.mono hB.size)
          have m4 := m4.old B55
          have m10 := m10.old B55
          have hy := hy.below B55
          have m12 := m12.old B55
          have hz := hz.below B55
          have hS := hS.below B55
          have hR := hR.below B55
          have ml : Blk w54 bl 27 (tc y ++ tc z) := by simpa [Value.cells] using ml
          refine s_end ⟨hS, ?_⟩
          refine d_val 5 51 (op := (Go.Op.build 27 #[(0, (Go.Operand.const (Go.Value.int Go.IntKind.i64 6))), (5, (Go.Operand.tmp 50))])) hF hS (by kernel_rfl) (fun W hW => x_build (vs := [(0, _), (5, _)]) rfl (b27_05 _ _ _ _ _)) (by kernel_rfl) (by decide) fun a hF => ?_
          refine d_one 6 none (Go.Op.store 27 (Go.Operand.tmp 10) (Go.Operand.tmp 51)) (by kernel_rfl) (by kernel_rfl) fun ty pos af => ?_
          have hy9 : REx w54 (fun k => k ≠ br ∧ k ≠ b10 ∧ k ≠ b4 ∧ k < w54.heap.size) (PT.apps c.ess (ps.take (i + 1))) ⟨6, 0, emptyB, (0, 0, nilS), nilS, .slice (some ⟨bl, 0, none⟩) 2 2⟩ := by
            rw [htk, apps_snoc]
            have hll := ml.lt
            refine RE_two (by decide) ⟨[y, z], ⟨by simpa using Rd.blk ml (n := 2) rfl, fun _ b hb => by simp [Value.ownBlock] at hb; subst hb; exact ⟨by omega, by omega, by omega, by omega⟩⟩, rfl, fun j x3 q e1 e2 => ?_⟩
            rcases j with _ | _ | j
            · simp at e1 e2; subst e1 e2; exact RE.mono (fun k hk => ⟨hk.1, hk.2.1, hk.2.2.1, by have := hk.2.2.2; omega⟩) hy
            · simp at e1 e2; subst e1 e2; exact RE.mono (fun k hk => by rcases hk with ⟨hk1, hk2⟩; refine ⟨?_, ?_, ?_, ?_⟩ <;> (rcases hk1 with hk1 | hk1 <;> omega)) hz
            · simp at e1
          refine s_putW hF rfl rfl (size_wide wide27) m10 rfl (RE.one hy9) fun w56 m10 o57 => ?_
          have so57 := o57.size
          have hB := hB.trans (o57.below (by omega))
          have m4 := m4.only o57 (by omega)
          have m12 := m12.only o57 (by omega)
          have hy9 := hy9.only o57 (fun k (hk : k ≠ br ∧ k ≠ b10 ∧ k ≠ b4 ∧ k < w54.heap.size) => by omega)
          have hS := hS.only o57 (by omega)
          have hR := hR.only o57 (by omega)
          refine s_end ⟨hS, ?_⟩
          refine d_end (by kernel_rfl) (hK25 _ _ ?_)
          refine hK23 _ _ ?_
          refine wp_region_lit ?_
          refine s_val hF (x_addn (i + 1) (by omega) (by omega) rfl rfl) (by decide) fun a hF => ?_
          refine s_val hF (x_move rfl) (by decide) fun a hF => ?_
          refine s_end (hK' _ _ (by omega) ⟨_, hy9.mono (fun k hk => ⟨hk.1, hk.2.1, hk.2.2.1, by have := hk.2.2.2; omega⟩), m10, m4, hR, hB, hF.sub _ rfl⟩)
        · refine d_op 3 (some 49) (Go.Op.call (Go.Call.mk (Go.Callee.value (Go.Operand.func 46)) #[(Go.Operand.tmp 47), (Go.Operand.tmp 48)] #[61, 27])) (by kernel_rfl) fun ty pos af => ?_
          refine s_call (R := fun u w' => ((∃ z, u = tv z ∧ REx w' (AS (fun k => k < w0.heap.size) w50.heap.size) p.ess z) ∧ Room w' br) ∧ Ktw br br w50 w') hF [_, _] (enters_of Try.func46 (by kernel_rfl) rfl) rfl (by decide) (owned57 w50 br (by omega) (fun k => k < w0.heap.size) (fun k hk => ⟨by omega, by omega⟩) p y2 (hry.keep hB.size (fun k hk _ => hB.block k hk)) hR) ?_
          rintro _ w58 a ⟨⟨⟨z, rfl, hz0⟩, hR⟩, k59⟩ hF
          have sk59 := k59.size
          have hB := k59.under hB (by omega)
          have m4 := m4.k2 k59 (by omega)
          have m10 := m10.k2 k59 (by omega)
          have hy := hy.k2 k59 (fun k (hk : k ≠ br ∧ k ≠ b10 ∧ k ≠ b4 ∧ k < top) => by omega)
          have m12 := m12.k2 k59 (by omega)
          have hS := hS.trans k59 (by omega)
          have hz : REx w58 (fun k => (k < w0.heap.size ∨ w50.heap.size ≤ k) ∧ k < w58.heap.size) p.ess z := RE.valid hz0
          clear hz0
          have h1z := RE.one hz
          refine s_end ⟨hS, ?_⟩
          refine d_one 0 (some 46) (Go.Op.load 27 (Go.Operand.tmp 10)) (by kernel_rfl) (by kernel_rfl) fun ty pos af => ?_
          refine s_val hF (x_ldW wide27 m10 rfl rfl) (by decide) fun a hF => ?_
          refine s_end ⟨hS, ?_⟩
          refine d_one 4 (some 50) (Go.Op.buildSlice 25 2 #[(0, (Go.Operand.tmp 46)), (1, (Go.Operand.tmp 49))]) (by kernel_rfl) (by kernel_rfl) fun ty pos af => ?_
          refine s_litG [tv y, tv z] el25 hF (by decide) rfl (by simp [Value.cells, tc]) rfl (by decide) (by decide) fun w60 bl a ebl ml B61 zbl hF => ?_
          have sB61 := B61.size
          have hB := hB.trans (B61.mono hB.size)
          have m4 := m4.old B61
          have m10 := m10.old B61
          have hy := hy.below B61
          have m12 := m12.old B61
          have hz := hz.below B61
          have hS := hS.below B61
          have hR := hR.below B61
          have ml : Blk w60 bl 27 (tc y ++ tc z) := by simpa [Value.cells] using ml
          refine s_end ⟨hS, ?_⟩
          refine d_val 5 51 (op := (Go.Op.build 27 #[(0, (Go.Operand.const (Go.Value.int Go.IntKind.i64 6))), (5, (Go.Operand.tmp 50))])) hF hS (by kernel_rfl) (fun W hW => x_build (vs := [(0, _), (5, _)]) rfl (b27_05 _ _ _ _ _)) (by kernel_rfl) (by decide) fun a hF => ?_
          refine d_one 6 none (Go.Op.store 27 (Go.Operand.tmp 10) (Go.Operand.tmp 51)) (by kernel_rfl) (by kernel_rfl) fun ty pos af => ?_
          have hy9 : REx w60 (fun k => k ≠ br ∧ k ≠ b10 ∧ k ≠ b4 ∧ k < w60.heap.size) (PT.apps c.ess (ps.take (i + 1))) ⟨6, 0, emptyB, (0, 0, nilS), nilS, .slice (some ⟨bl, 0, none⟩) 2 2⟩ := by
            rw [htk, apps_snoc]
            have hll := ml.lt
            refine RE_two (by decide) ⟨[y, z], ⟨by simpa using Rd.blk ml (n := 2) rfl, fun _ b hb => by simp [Value.ownBlock] at hb; subst hb; exact ⟨by omega, by omega, by omega, by omega⟩⟩, rfl, fun j x3 q e1 e2 => ?_⟩
            rcases j with _ | _ | j
            · simp at e1 e2; subst e1 e2; exact RE.mono (fun k hk => ⟨hk.1, hk.2.1, hk.2.2.1, by have := hk.2.2.2; omega⟩) hy
            · simp at e1 e2; subst e1 e2; exact RE.mono (fun k hk => by rcases hk with ⟨hk1, hk2⟩; refine ⟨?_, ?_, ?_, ?_⟩ <;> (rcases hk1 with hk1 | hk1 <;> omega)) hz
            · simp at e1
          refine s_putW hF rfl rfl (size_wide wide27) m10 rfl (RE.one hy9) fun w62 m10 o63 => ?_
          have so63 := o63.size
          have hB := hB.trans (o63.below (by omega))
          have m4 := m4.only o63 (by omega)
          have m12 := m12.only o63 (by omega)
          have hy9 := hy9.only o63 (fun k (hk : k ≠ br ∧ k ≠ b10 ∧ k ≠ b4 ∧ k < w60.heap.size) => by omega)
          have hS := hS.only o63 (by omega)
          have hR := hR.only o63 (by omega)
          refine s_end ⟨hS, ?_⟩
          refine d_end (by kernel_rfl) (hK25 _ _ ?_)
          refine hK23 _ _ ?_
          refine wp_region_lit ?_
          refine s_val hF (x_addn (i + 1) (by omega) (by omega) rfl rfl) (by decide) fun a hF => ?_
          refine s_val hF (x_move rfl) (by decide) fun a hF => ?_
          refine s_end (hK' _ _ (by omega) ⟨_, hy9.mono (fun k hk => ⟨hk.1, hk.2.1, hk.2.2.1, by have := hk.2.2.2; omega⟩), m10, m4, hR, hB, hF.sub _ rfl⟩)
      · obtain rfl : i = cs.length := by omega
        rw [← hpl, List.take_length] at hy
        refine wp_exit (hK19 _ _ ?_)
        refine wp_rs fun K26 hK26 => ?_
        refine s_val hF (x_ldW wide27 m10 rfl rfl) (by decide) fun a hF => ?_
        refine s_putW hF rfl rfl (size_wide wide27) m4 rfl h1y fun w66 m4 o67 => ?_
        have so67 := o67.size
        have hB := hB.trans (o67.below (by omega))
        have m10 := m10.only o67 (by omega)
        have hy := hy.only o67 (fun k (hk : k ≠ br ∧ k ≠ b10 ∧ k ≠ b4 ∧ k < top) => by omega)
        have hR := hR.only o67 (by omega)
        refine s_end (hK26 _ _ ?_)
        refine wp_ret (res_cell hF rfl rfl m4 wide27 ⟨_, rfl, ⟨y, rfl, by rw [show PT.appsR c.ess (cs.map CT.ess) = PT.apps c.ess ps from by rw [← hps]; exact if_pos hokA]; exact RE.rt hy⟩, hB⟩)
end Go.Proofs.Ytaclncmkdpjnlaa

namespace Go.Proofs.Ytaclncmkdpjnlaa
open Go.RowKit Go.Shelf
set_option linter.unusedVariables false
set_option linter.unusedSimpArgs false

theorem RE_two_inv {W : World} {A : Nat → Prop} {k : Int} {p q : PT} {x : C8} (h : RE W A (.two k p q) x) : ∃ b off n cap y z, x.ts = .slice (some ⟨b, off, none⟩) n cap ∧ 2 ≤ n ∧ x.k = k ∧ RE W A p y ∧ RE W A q z ∧ A b ∧ b < W.heap.size ∧ (∀ j u, (tc y)[j]? = some u → W.cell? ⟨b, off + j, none⟩ = some u) ∧ (∀ j u, (tc z)[j]? = some u → W.cell? ⟨b, off + 8 + j, none⟩ = some u) := by
  obtain ⟨c, hc, he⟩ := h
  cases c with
  | two k' a b' m =>
    simp only [CT.ess] at he
    cases he
    obtain ⟨h1, h2, ⟨y, z, cs, hR, ha, hb⟩, _⟩ := hc
    obtain ⟨b, off, cap, hv, hbl⟩ := hR.1.some (by omega)
    refine ⟨b, off, _, cap, y, z, hv, by omega, h1, ⟨_, ha, rfl⟩, ⟨_, hb, rfl⟩, hR.2 (by omega) b (by rw [hv]; rfl), hbl, fun j u hj => ?_, fun j u hj => ?_⟩
    · have hj8 := (List.getElem?_eq_some_iff.1 hj).1
      have := (hv ▸ hR.1).cell (j := j) (u := u) (by rw [List.getElem?_append_left (by simpa [tc] using hj8)]; exact hj)
      exact this
    · have hj8 := (List.getElem?_eq_some_iff.1 hj).1
      have := (hv ▸ hR.1).cell (j := 8 + j) (u := u) (by rw [List.getElem?_append_right (by simp [tc]), show 8 + j - (tc y).length = j by simp [tc], List.getElem?_append_left (by simpa [tc] using hj8)]; exact hj)
      rwa [Nat.add_assoc]
  | _ => simp [CT.ess] at he
theorem RE_cst_s {W : World} {A : Nat → Prop} {s : ByteArray} {os : List (Option SL)} {x : C8} (h : RE W A (.cst s os) x) : x.k = 7 ∧ x.s = s := by
  obtain ⟨c, hc, he⟩ := h
  cases c with
  | cst s' ls m => simp only [CT.ess] at he; cases he; exact ⟨hc.1, hc.2.1⟩
  | _ => simp [CT.ess] at he
theorem RE_var_n {W : World} {A : Nat → Prop} {n : Int} {x : C8} (h : RE W A (.var n) x) : x.k = 1 ∧ x.n = n := by
  obtain ⟨c, hc, he⟩ := h
  cases c with
  | var n' m => simp only [CT.ess] at he; cases he; exact ⟨hc.1, hc.2.1⟩
  | _ => simp [CT.ess] at he
abbrev sA : ByteArray := ByteArray.mk #[97]
abbrev sC : ByteArray := ByteArray.mk #[99]
theorem aw_apps : PT.appsR (.var 1) [.var 0] = .two 6 (.var 1) (.var 0) := by
  unfold PT.appsR
  rw [if_pos (by unfold PT.ok; simp [PT.apps, PT.size, PT.dep])]
  rfl
theorem aw_inst : PT.inst (.two 4 (.cst sA []) (.two 6 (.var 1) (.var 0))) (.cst sC []) = .two 4 (.cst sA []) (.two 6 (.cst sC []) (.var 0)) := by
  have e : PT.put (.cst sC []) (.two 4 (.cst sA []) (.two 6 (.var 1) (.var 0))) 0 = .two 4 (.cst sA []) (.two 6 (.cst sC []) (.var 0)) := by simp [PT.put, PT.lift]
  unfold PT.inst
  rw [e, if_pos]
  unfold PT.ok
  simp [PT.size, PT.dep]
theorem x_eqSt {P : Program} {n : Nat} {l : List (Nat × Value)} {w : World} {t t' : TypeId} {x y : Operand} {s : ByteArray} (hx : ov l x = some (.string s)) (hy : ov l y = some (.string s)) : Runs P n l w (.binOp .eql t x y t') (.bool true) := by
  have := x_eqS (P := P) (n := n) (w := w) (t := t) (t' := t') rfl hx hy
  simpa using this

set_option maxRecDepth 100000 in
set_option maxHeartbeats 400000 in
theorem awake15 (w0 : World) : Calls Try.prog 11 #[] w0 fun e w' => e = .returned (.bool true) ∧ Below w0.heap.size w0 w' := by
  have hB := Below.refl w0.heap.size w0
  have sB := hB.size
  refine calls_fs (vs := []) 35 [] Try.func11 rfl rfl rfl rfl rfl fun a hF => ?_
  refine wp_rs fun K1 hK1 => ?_
  refine s_val hF (x_assign rfl) (by decide) fun a hF => ?_
  refine s_end (hK1 _ _ ?_)
  refine wp_rs fun K2 hK2 => ?_
  refine s_callR (R := fun u w' => ∃ y, u = tv y ∧ RT w' (.cst sA []) y) [_, _] hF (enters_of Try.func14 (by kernel_rfl) rfl) rfl (by decide) (Const18 sA [] nilS w0 (RVn.nil _ _)) ?_
  rintro _ w2 a ⟨y2, rfl, h2⟩ B3 hF
  have sB3 := B3.size
  have hB := hB.trans (B3.mono hB.size)
  refine s_callR (R := fun u w' => ∃ y, u = tv y ∧ RC w' (fun _ => False) (.var 1 0) y) [_] hF (enters_of Try.func12 (by kernel_rfl) rfl) rfl (by decide) (var16 1 w2 (by unfold in64; omega)) ?_
  rintro _ w4 a ⟨y3, rfl, h30⟩ B5 hF
  have sB5 := B5.size
  have hB := hB.trans (B5.mono hB.size)
  have h2 := h2.below B5
  have h3 : RT w4 (.var 1) y3 := (RC.re h30).rt
  refine s_callR (R := fun u w' => ∃ y, u = tv y ∧ RC w' (fun _ => False) (.var 0 0) y) [_] hF (enters_of Try.func12 (by kernel_rfl) rfl) rfl (by decide) (var16 0 w4 (by unfold in64; omega)) ?_
  rintro _ w6 a ⟨y4, rfl, h40⟩ B7 hF
  have sB7 := B7.size
  have hB := hB.trans (B7.mono hB.size)
  have h2 := h2.below B7
  have h3 := h3.below B7
  have h4 : RT w6 (.var 0) y4 := (RC.re h40).rt
  refine s_litG [tv y4] el25 hF (by decide) rfl (by simp [Value.cells, tc]) rfl (by decide) (by decide) fun w8 bl a ebl ml B9 zbl hF => ?_
  have sB9 := B9.size
  have hB := hB.trans (B9.mono hB.size)
  have h2 := h2.below B9
  have h3 := h3.below B9
  have h4 := h4.below B9
  have ml : Blk w8 bl 27 (tc y4) := by simpa [Value.cells] using ml
  obtain ⟨c3, hc3, he3⟩ := h3
  obtain ⟨c4, hc4, he4⟩ := h4
  have hrk : RK w8 (fun k => k < w8.heap.size) (.slice (some ⟨bl, 0, none⟩) 1 1) [c4] := ⟨[y4], ⟨by simpa using Rd.blk ml (n := 1) rfl, fun _ b hb => by simp [Value.ownBlock] at hb; subst hb; exact ml.lt⟩, rfl, fun i x2 c2 e1 e2 => by rcases i with _ | i; (· simp at e1 e2; subst e1 e2; exact hc4); simp at e1⟩
  refine s_callR (R := fun u w' => ∃ y, u = tv y ∧ RT w' (PT.appsR c3.ess ([c4].map CT.ess)) y) [_, _] hF (enters_of Try.func20 (by kernel_rfl) rfl) rfl (by decide) (Apps24 c3 y3 [c4] _ w8 hc3 hrk (by simp)) ?_
  rintro _ w10 a ⟨y6, rfl, h6⟩ B11 hF
  have sB11 := B11.size
  have hB := hB.trans (B11.mono hB.size)
  have h2 := h2.below B11
  simp only [List.map_cons, List.map_nil] at h6
  rw [he3, he4, aw_apps] at h6
  obtain ⟨c2, hc2, he2⟩ := h2
  obtain ⟨c6, hc6, he6⟩ := h6
  refine s_callR (R := fun u w' => ∃ y, u = tv y ∧ RT w' (.two 4 c2.ess c6.ess) y) [_, _] hF (enters_of Try.func17 (by kernel_rfl) rfl) rfl (by decide) (Lam21 c2 c6 y2 y6 w10 hc2 hc6) ?_
  rintro _ w12 a ⟨y7, rfl, h7⟩ B13 hF
  have sB13 := B13.size
  have hB := hB.trans (B13.mono hB.size)
  rw [he2, he6] at h7
  refine s_callR (R := fun u w' => ∃ y, u = tv y ∧ RT w' (.cst sC []) y) [_, _] hF (enters_of Try.func14 (by kernel_rfl) rfl) rfl (by decide) (Const18 sC [] nilS w12 (RVn.nil _ _)) ?_
  rintro _ w14 a ⟨y8, rfl, h8⟩ B15 hF
  have sB15 := B15.size
  have hB := hB.trans (B15.mono hB.size)
  have h7 := h7.below B15
  obtain ⟨c7, hc7, he7⟩ := h7
  obtain ⟨c8, hc8, he8⟩ := h8
  refine s_callR (R := fun u w' => ∃ y, u = tv y ∧ RT w' (PT.inst c7.ess c8.ess) y) [_, _] hF (enters_of Try.func29 (by kernel_rfl) rfl) rfl (by decide) (Inst42 c7 c8 y7 y8 w14 hc7 hc8) ?_
  rintro _ w16 a ⟨y9, rfl, h9⟩ B17 hF
  have sB17 := B17.size
  have hB := hB.trans (B17.mono hB.size)
  rw [he7, he8, aw_inst] at h9
  have h9 : REx w16 (fun k => k < w16.heap.size) _ y9 := h9
  refine s_alloc hF (by decide) zero27 fun w18 b1 a eb1 m1 B19 zb1 hF => ?_
  have sB19 := B19.size
  have hB := hB.trans (B19.mono hB.size)
  have h9 := h9.below B19
  refine s_putW hF rfl rfl (size_wide wide27) m1 rfl (RE.one h9) fun w22 m1 o23 => ?_
  have so23 := o23.size
  have hB := hB.trans (o23.below (by omega))
  have h9 := h9.only o23 (fun k (hk : k < w16.heap.size) => by omega)
  refine s_end (hK2 _ _ ?_)
  obtain ⟨b9, off9, n9, cap9, ya, yb, hts, hn9, hk9, ha, hb9, _, _, _, hcb⟩ := RE_two_inv h9
  obtain ⟨b8, off8, n8, cap8, yc, yd, hts8, hn8, _, hc, hd, _, _, hcc, hcd⟩ := RE_two_inv hb9
  have hsc := (RE_cst_s hc).2
  have hnd := (RE_var_n hd).2
  have e5 := hcb 7 _ rfl
  rw [hts8] at e5
  have e2 := hcc 2 _ rfl
  rw [hsc] at e2
  have e1 := hcd 1 _ rfl
  rw [hnd] at e1
  have hm0 := m1.cell (j := 0) rfl
  have hm5 := m1.cell (j := 7) rfl
  rw [hts] at hm5
  rw [hk9] at hm0
  refine wp_rs fun K3 hK3 => ?_
  refine s_val hF (x_fa0 fa27_0 rfl) (by decide) fun a hF => ?_
  refine s_val hF (x_load rfl (m_load flat3 (hm0))) (by decide) fun a hF => ?_
  refine s_val hF (x_eql (b := true) rfl rfl rfl) (by decide) fun a hF => ?_
  refine s_val hF (x_move rfl) (by decide) fun a hF => ?_
  refine s_grd 13 hF rfl rfl rfl ?_
  refine s_val hF (x_fa0 fa27_5 rfl) (by decide) fun a hF => ?_
  refine s_grd 13 hF rfl rfl rfl ?_
  refine s_val hF (x_load rfl (m_load flat25 (hm5))) (by decide) fun a hF => ?_
  refine s_grd 13 hF rfl rfl rfl ?_
  refine s_val hF (x_ixa rfl rfl (m_ixsK 1 Try.underlying25 el25.size rfl (by omega))) (by decide) fun a hF => ?_
  refine s_grd 13 hF rfl rfl rfl ?_
  refine s_val hF (x_fa fa27_5 rfl) (by decide) fun a hF => ?_
  refine s_grd 13 hF rfl rfl rfl ?_
  refine s_val hF (x_load rfl (m_load flat25 (by rw [Nat.one_mul]; exact e5))) (by decide) fun a hF => ?_
  refine s_grd 13 hF rfl rfl rfl ?_
  refine s_val hF (x_ixa rfl rfl (m_ixsK 0 Try.underlying25 el25.size rfl (by omega))) (by decide) fun a hF => ?_
  refine s_grd 13 hF rfl rfl rfl ?_
  refine s_val hF (x_fa fa27_2 rfl) (by decide) fun a hF => ?_
  refine s_grd 13 hF rfl rfl rfl ?_
  refine s_val hF (x_load rfl (m_load flat9 (by rw [Nat.zero_mul]; exact e2))) (by decide) fun a hF => ?_
  refine s_grd 13 hF rfl rfl rfl ?_
  refine s_val hF (x_eqSt rfl rfl) (by decide) fun a hF => ?_
  refine s_val hF (x_pick (b := true) rfl rfl) (by decide) fun a hF => ?_
  refine s_val hF (x_move rfl) (by decide) fun a hF => ?_
  refine s_grd 24 hF rfl rfl rfl ?_
  refine s_val hF (x_fa0 fa27_5 rfl) (by decide) fun a hF => ?_
  refine s_grd 24 hF rfl rfl rfl ?_
  refine s_val hF (x_load rfl (m_load flat25 (hm5))) (by decide) fun a hF => ?_
  refine s_grd 24 hF rfl rfl rfl ?_
  refine s_val hF (x_ixa rfl rfl (m_ixsK 1 Try.underlying25 el25.size rfl (by omega))) (by decide) fun a hF => ?_
  refine s_grd 24 hF rfl rfl rfl ?_
  refine s_val hF (x_fa fa27_5 rfl) (by decide) fun a hF => ?_
  refine s_grd 24 hF rfl rfl rfl ?_
  refine s_val hF (x_load rfl (m_load flat25 (by rw [Nat.one_mul]; exact e5))) (by decide) fun a hF => ?_
  refine s_grd 24 hF rfl rfl rfl ?_
  refine s_val hF (x_ixa rfl rfl (m_ixsK 1 Try.underlying25 el25.size rfl (by omega))) (by decide) fun a hF => ?_
  refine s_grd 24 hF rfl rfl rfl ?_
  refine s_val hF (x_fa fa27_1 rfl) (by decide) fun a hF => ?_
  refine s_grd 24 hF rfl rfl rfl ?_
  refine s_val hF (x_load rfl (m_load flat3 (by rw [Nat.one_mul]; exact e1))) (by decide) fun a hF => ?_
  refine s_grd 24 hF rfl rfl rfl ?_
  refine s_val hF (x_eql (b := true) rfl rfl rfl) (by decide) fun a hF => ?_
  refine s_val hF (x_pick (b := true) rfl rfl) (by decide) fun a hF => ?_
  refine s_val hF (x_assign rfl) (by decide) fun a hF => ?_
  refine s_end (hK3 _ _ ?_)
  refine wp_ret (res_slot hF rfl rfl ⟨rfl, hB⟩)
end Go.Proofs.Ytaclncmkdpjnlaa

namespace Go.Proofs.Ytaclncmkdpjnlaa
open Go.RowKit Go.Shelf
set_option linter.unusedVariables false
set_option linter.unusedSimpArgs false

def letC (c : UInt8) : Prop := 97 ≤ c.toNat ∧ c.toNat ≤ 122
def othC (c : UInt8) : Prop := (48 ≤ c.toNat ∧ c.toNat ≤ 57) ∨ c.toNat = 95 ∨ c.toNat = 46
def okAt (l : List UInt8) (i : Nat) : Prop := ∀ c, l[i]? = some c → letC c ∨ (i ≠ 0 ∧ othC c)
def nameP (l : List UInt8) : Prop := (∀ i, okAt l i) ∧ 1 ≤ l.length ∧ l.length ≤ 32
noncomputable def nameB (s : ByteArray) : Bool := @decide (nameP s.data.toList) (Classical.propDecidable _)
theorem nameB_true {s : ByteArray} : nameB s = true ↔ nameP s.data.toList := by unfold nameB; exact @decide_eq_true_iff _ (Classical.propDecidable _)
theorem nameB_of {s : ByteArray} {b : Bool} (h : b = true ↔ nameP s.data.toList) : nameB s = b := by
  rw [Bool.eq_iff_iff, nameB_true, h]
theorem size_list (s : ByteArray) : s.data.toList.length = s.size := by simp
/-- No name and no list of levels is longer than may be. -/
def CT.fit : CT → Prop
  | .cst s ls _ => s.size ≤ 9223372036854775807 ∧ ls.length ≤ 9223372036854775807
  | .two _ a b _ => a.fit ∧ b.fit
  | .lt a b c _ => a.fit ∧ b.fit ∧ c.fit
  | _ => True
theorem CT.fit_kid : ∀ {c k : CT} {i : Nat}, c.fit → c.kids[i]? = some k → k.fit
  | .two _ a b _, k, i, h, hk => by
    rcases i with _ | _ | i
    · simp [CT.kids] at hk; subst hk; exact h.1
    · simp [CT.kids] at hk; subst hk; exact h.2
    · simp [CT.kids] at hk
  | .lt a b c _, k, i, h, hk => by
    rcases i with _ | _ | _ | i
    · simp [CT.kids] at hk; subst hk; exact h.1
    · simp [CT.kids] at hk; subst hk; exact h.2.1
    · simp [CT.kids] at hk; subst hk; exact h.2.2
    · simp [CT.kids] at hk
  | .var .., k, i, h, hk => by simp [CT.kids] at hk
  | .sort .., k, i, h, hk => by simp [CT.kids] at hk
  | .cst .., k, i, h, hk => by simp [CT.kids] at hk
  | .odd .., k, i, h, hk => by simp [CT.kids] at hk
def fstErr (vars : Int) : List Lv → Int
  | [] => 0
  | l :: ls => if (chk 32 1048576 vars 1 100 l).1 ≠ 0 then (chk 32 1048576 vars 1 100 l).1 else fstErr vars ls
noncomputable def leafErr (vars : Int) : CT → Int
  | .var n _ => if n < 0 ∨ 1048576 < n then 1 else 0
  | .sort l _ => (chk 32 1048576 vars 1 100 l).1
  | .cst s ls _ => if nameB s = false then 8 else if 6 < ls.length then 2 else fstErr vars ls
  | _ => 0
noncomputable def nodeErr (vars d : Int) (n : Nat) (c : CT) : Int := if 64 < d ∨ 400 < n then 2 else if arT c.kd < 0 ∨ (c.len : Int) ≠ arT c.kd then 1 else leafErr vars c
noncomputable def CT.mayT (vars : Int) : CT → Int → Nat → Int × Nat
  | .two k a b m, d, n => if nodeErr vars d (n + 1) (.two k a b m) ≠ 0 then (nodeErr vars d (n + 1) (.two k a b m), n + 1) else
    if (a.mayT vars (d + 1) (n + 1)).1 ≠ 0 then a.mayT vars (d + 1) (n + 1) else b.mayT vars (d + 1) (a.mayT vars (d + 1) (n + 1)).2
  | .lt a b c m, d, n => if nodeErr vars d (n + 1) (.lt a b c m) ≠ 0 then (nodeErr vars d (n + 1) (.lt a b c m), n + 1) else
    if (a.mayT vars (d + 1) (n + 1)).1 ≠ 0 then a.mayT vars (d + 1) (n + 1) else
    if (b.mayT vars (d + 1) (a.mayT vars (d + 1) (n + 1)).2).1 ≠ 0 then b.mayT vars (d + 1) (a.mayT vars (d + 1) (n + 1)).2 else c.mayT vars (d + 1) (b.mayT vars (d + 1) (a.mayT vars (d + 1) (n + 1)).2).2
  | .var z m, d, n => (nodeErr vars d (n + 1) (.var z m), n + 1)
  | .sort l m, d, n => (nodeErr vars d (n + 1) (.sort l m), n + 1)
  | .cst s ls m, d, n => (nodeErr vars d (n + 1) (.cst s ls m), n + 1)
  | .odd k m, d, n => (nodeErr vars d (n + 1) (.odd k m), n + 1)
noncomputable def mayK (vars : Int) : List CT → Int → Nat → Int × Nat
  | [], _, n => (0, n)
  | k :: ks, d, n => if (k.mayT vars d n).1 ≠ 0 then k.mayT vars d n else mayK vars ks d (k.mayT vars d n).2
theorem may_last (p : Int × Nat) : (if p.1 ≠ 0 then p else (0, p.2)) = p := by
  split
  · rfl
  · next h => have : p.1 = 0 := by omega
              rw [← this]
theorem mayT_eq (vars : Int) (c : CT) (d : Int) (n : Nat) : c.mayT vars d n = if nodeErr vars d (n + 1) c ≠ 0 then (nodeErr vars d (n + 1) c, n + 1) else mayK vars c.kids (d + 1) (n + 1) := by
  cases c <;> simp only [CT.mayT, CT.kids, mayK, may_last]
  all_goals (split <;> first | rfl | (rename_i h; rw [show nodeErr vars d (n + 1) _ = 0 by omega]))
theorem nodeErr_two {vars d : Int} {n : Nat} {c : CT} (h : 64 < d ∨ 400 < n) : nodeErr vars d n c = 2 := if_pos h
theorem nodeErr_one {vars d : Int} {n : Nat} {c : CT} (h : ¬ (64 < d ∨ 400 < n)) (h2 : arT c.kd < 0 ∨ (c.len : Int) ≠ arT c.kd) : nodeErr vars d n c = 1 := by unfold nodeErr; rw [if_neg h, if_pos h2]
theorem nodeErr_leaf {vars d : Int} {n : Nat} {c : CT} (h : ¬ (64 < d ∨ 400 < n)) (h2 : ¬ (arT c.kd < 0 ∨ (c.len : Int) ≠ arT c.kd)) : nodeErr vars d n c = leafErr vars c := by unfold nodeErr; rw [if_neg h, if_neg h2]
theorem leafErr_rest {W : World} {A : Nat → Prop} {vars : Int} : ∀ {c : CT} {x : C8}, RC W A c x → (x.k ≠ 1 ∧ x.k ≠ 2 ∧ x.k ≠ 7) → leafErr vars c = 0
  | .var .., x, h, hk => by have := h.1; omega
  | .sort .., x, h, hk => by have := h.1; omega
  | .cst .., x, h, hk => by have := h.1; omega
  | .odd .., x, h, hk => rfl
  | .two .., x, h, hk => rfl
  | .lt .., x, h, hk => rfl
/-- What passes. -/
def CT.okV (vars : Int) : CT → Prop
  | .var n _ => 0 ≤ n ∧ n ≤ 1048576
  | .sort l _ => (chk 32 1048576 vars 1 100 l).1 = 0
  | .cst _ ls _ => ls.length ≤ 6 ∧ ∀ l ∈ ls, (chk 32 1048576 vars 1 100 l).1 = 0
  | .odd .. => False
  | .two _ a b _ => a.okV vars ∧ b.okV vars
  | .lt a b c _ => a.okV vars ∧ b.okV vars ∧ c.okV vars
theorem fstErr_zero {vars : Int} : ∀ {ls : List Lv}, fstErr vars ls = 0 → ∀ l ∈ ls, (chk 32 1048576 vars 1 100 l).1 = 0
  | [], _, l, h => by cases h
  | l' :: ls, h, l, hl => by
    unfold fstErr at h
    split at h
    · next h2 => exact absurd h h2
    · next h2 =>
      rcases List.mem_cons.1 hl with rfl | hl
      · omega
      · exact fstErr_zero h l hl
theorem nodeErr_zero {vars d : Int} {n : Nat} {c : CT} (h : nodeErr vars d n c = 0) : d ≤ 64 ∧ n ≤ 400 ∧ ¬ (arT c.kd < 0 ∨ (c.len : Int) ≠ arT c.kd) ∧ leafErr vars c = 0 := by
  unfold nodeErr at h
  split at h
  · omega
  · split at h
    · omega
    · exact ⟨by omega, by omega, by assumption, h⟩
theorem may_zero {W : World} {A : Nat → Prop} {vars : Int} : ∀ (c : CT) (x : C8) (d : Int) (n : Nat), RC W A c x → (c.mayT vars d n).1 = 0 → c.okV vars ∧ (c.mayT vars d n).2 = n + c.size ∧ n + c.size ≤ 400 ∧ d + c.dep ≤ 65
  | .two k a b m, x, d, n, hx, h => by
    obtain ⟨_, _, ⟨y, z, cs, _, ha, hb⟩, _⟩ := hx
    simp only [CT.mayT] at h ⊢
    split at h
    · next h1 => exact absurd h h1
    · next h1 =>
      rw [if_neg h1]
      have h0 := nodeErr_zero (show nodeErr vars d (n + 1) (.two k a b m) = 0 by omega)
      split at h
      · next h2 => exact absurd h h2
      · next h2 =>
        rw [if_neg h2]
        obtain ⟨a1, a2, a3, a4⟩ := may_zero (vars := vars) a y (d + 1) (n + 1) ha (by omega)
        obtain ⟨b1, b2, b3, b4⟩ := may_zero (vars := vars) b z (d + 1) (a.mayT vars (d + 1) (n + 1)).2 hb h
        refine ⟨⟨a1, b1⟩, ?_, ?_, ?_⟩
        · rw [b2, a2]; simp only [CT.size]; omega
        · rw [a2] at b3; simp only [CT.size]; omega
        · simp only [CT.dep]; omega
  | .lt a b c m, x, d, n, hx, h => by
    obtain ⟨_, ⟨y, z, u, cs, _, ha, hb, hc⟩, _⟩ := hx
    simp only [CT.mayT] at h ⊢
    split at h
    · next h1 => exact absurd h h1
    · next h1 =>
      rw [if_neg h1]
      have h0 := nodeErr_zero (show nodeErr vars d (n + 1) (.lt a b c m) = 0 by omega)
      split at h
      · next h2 => exact absurd h h2
      · next h2 =>
        rw [if_neg h2]
        split at h
        · next h3 => exact absurd h h3
        · next h3 =>
          rw [if_neg h3]
          obtain ⟨a1, a2, a3, a4⟩ := may_zero (vars := vars) a y (d + 1) (n + 1) ha (by omega)
          obtain ⟨b1, b2, b3, b4⟩ := may_zero (vars := vars) b z (d + 1) (a.mayT vars (d + 1) (n + 1)).2 hb (by omega)
          obtain ⟨c1, c2, c3, c4⟩ := may_zero (vars := vars) c u (d + 1) (b.mayT vars (d + 1) (a.mayT vars (d + 1) (n + 1)).2).2 hc h
          refine ⟨⟨a1, b1, c1⟩, ?_, ?_, ?_⟩
          · rw [c2, b2, a2]; simp only [CT.size]; omega
          · rw [b2, a2] at c3; simp only [CT.size]; omega
          · simp only [CT.dep]; omega
  | .var z m, x, d, n, hx, h => by
    obtain ⟨h1, h2, h3, h4⟩ := nodeErr_zero h
    refine ⟨?_, rfl, h2, by simp only [CT.dep]; omega⟩
    simp only [leafErr] at h4
    simp only [CT.okV]
    split at h4 <;> omega
  | .sort l m, x, d, n, hx, h => by
    obtain ⟨h1, h2, h3, h4⟩ := nodeErr_zero h
    exact ⟨h4, rfl, h2, by simp only [CT.dep]; omega⟩
  | .cst s ls m, x, d, n, hx, h => by
    obtain ⟨h1, h2, h3, h4⟩ := nodeErr_zero h
    refine ⟨?_, rfl, h2, by simp only [CT.dep]; omega⟩
    simp only [leafErr] at h4
    split at h4
    · omega
    · split at h4
      · omega
      · exact ⟨by omega, fstErr_zero h4⟩
  | .odd k m, x, d, n, hx, h => by
    obtain ⟨h1, h2, h3, h4⟩ := nodeErr_zero h
    have := hx.2.1
    simp only [CT.kd, CT.len] at h3
    omega

set_option maxRecDepth 100000 in
set_option maxHeartbeats 400000 in
theorem rName32 (s : ByteArray) (w0 : World) (hs : s.size ≤ 9223372036854775807) : Calls Try.prog 28 #[.string s] w0 fun e w' => e = .returned (.bool (nameB s)) ∧ w' = w0 := by
  refine calls_fs 51 [(0, .string s)] Try.func28 rfl rfl rfl rfl rfl fun a hF => ?_
  refine wp_rs fun K1 hK1 => ?_
  refine s_val hF (x_assign rfl) (by decide) fun a hF => ?_
  refine s_end (hK1 _ _ ?_)
  refine wp_seq_k fun K2 hK2 => ?_
  refine wp_rs fun K3 hK3 => ?_
  refine s_val hF (x_move rfl) (by decide) fun a hF => ?_
  refine s_val hF (x_lenS Try.underlying9 rfl) (by decide) fun a hF => ?_
  refine s_val hF (x_move rfl) (by decide) fun a hF => ?_
  refine s_end (hK3 _ _ ?_)
  refine wp_block ?_
  refine wp_up s.size (fun i a w => w = w0 ∧ (∀ j, j < i → okAt s.data.toList j) ∧ Fs 51 a [(0, .string s), (7, .int .i64 (s.size : Int)), (8, .int .i64 (i : Int))]) ⟨rfl, (fun j h => absurd h (by omega)), hF.sub _ rfl⟩ ?_
  clear hF
  rintro i a w hi ⟨hw, hok, hF⟩ K' hK'
  subst hw
  refine wp_rs fun K4 hK4 => ?_
  refine s_val hF (x_lss (b := decide (i < s.size)) (decide_eq_decide.2 (by omega)) rfl rfl) (by decide) fun a hF => ?_
  refine s_end (hK4 _ _ ?_)
  refine wp_seq_k fun K5 hK5 => ?_
  refine wp_iff hF rfl (fun hc9 => ?_) (fun hc9 => ?_)
  · obtain ⟨q, hq⟩ : ∃ q, s.data.toList[i]? = some q := ⟨_, List.getElem?_eq_getElem (by rw [size_list]; omega)⟩
    refine wp_skip (hK5 _ _ ?_)
    refine wp_seq_k fun K6 hK6 => ?_
    refine wp_block ?_
    refine wp_rs fun K7 hK7 => ?_
    refine s_val hF (x_move rfl) (by decide) fun a hF => ?_
    refine s_val hF (x_assign rfl) (by decide) fun a hF => ?_
    refine s_end (hK7 _ _ ?_)
    refine wp_rs fun K8 hK8 => ?_
    refine s_val hF (x_move rfl) (by decide) fun a hF => ?_
    refine s_val hF (x_move rfl) (by decide) fun a hF => ?_
    refine s_val hF (x_ix rfl rfl (m_ixstr i Try.underlying9 rfl hq)) (by decide) fun a hF => ?_
    refine s_val hF (x_assign rfl) (by decide) fun a hF => ?_
    refine s_end (hK8 _ _ ?_)
    rcases (show (97 ≤ (q.toNat : Int) ∧ (q.toNat : Int) ≤ 122) ∨ (97 ≤ (q.toNat : Int) ∧ 122 < (q.toNat : Int)) ∨ (q.toNat : Int) < 97 by omega) with hq1 | hq1 | hq1
    · skip
      refine wp_rs fun K10 hK10 => ?_
      refine s_val hF (x_move rfl) (by decide) fun a hF => ?_
      refine s_val hF (x_geq (b := true) (decide_eq_true (by omega)) rfl rfl) (by decide) fun a hF => ?_
      refine s_val hF (x_move rfl) (by decide) fun a hF => ?_
      refine s_grd 16 hF rfl rfl rfl ?_
      refine s_val hF (x_move rfl) (by decide) fun a hF => ?_
      refine s_grd 16 hF rfl rfl rfl ?_
      refine s_val hF (x_leq (b := true) (decide_eq_true (by omega)) rfl rfl) (by decide) fun a hF => ?_
      refine s_val hF (x_pick (b := true) rfl rfl) (by decide) fun a hF => ?_
      refine s_val hF (x_assign rfl) (by decide) fun a hF => ?_
      refine s_end (hK10 _ _ ?_)
      rcases (show (97 ≤ (q.toNat : Int) ∧ (q.toNat : Int) ≤ 122) ∨ (¬ (97 ≤ (q.toNat : Int) ∧ (q.toNat : Int) ≤ 122) ∧ (i : Int) = 0) ∨ (¬ (97 ≤ (q.toNat : Int) ∧ (q.toNat : Int) ≤ 122) ∧ (i : Int) ≠ 0 ∧ (q.toNat : Int) < 48 ∧ (q.toNat : Int) ≠ 46) ∨ (¬ (97 ≤ (q.toNat : Int) ∧ (q.toNat : Int) ≤ 122) ∧ (i : Int) ≠ 0 ∧ (q.toNat : Int) = 46) ∨ (¬ (97 ≤ (q.toNat : Int) ∧ (q.toNat : Int) ≤ 122) ∧ (i : Int) ≠ 0 ∧ 57 < (q.toNat : Int) ∧ (q.toNat : Int) = 95) ∨ (¬ (97 ≤ (q.toNat : Int) ∧ (q.toNat : Int) ≤ 122) ∧ (i : Int) ≠ 0 ∧ 57 < (q.toNat : Int) ∧ (q.toNat : Int) ≠ 95) ∨ (¬ (97 ≤ (q.toNat : Int) ∧ (q.toNat : Int) ≤ 122) ∧ (i : Int) ≠ 0 ∧ 48 ≤ (q.toNat : Int) ∧ (q.toNat : Int) ≤ 57) by omega) with hz | hz | hz | hz | hz | hz | hz
      · have hoki : okAt s.data.toList i := fun c hc => by rw [hq] at hc; cases hc; unfold letC othC; omega
        refine wp_rs fun K12 hK12 => ?_
        refine s_val hF (x_move rfl) (by decide) fun a hF => ?_
        refine s_val hF (x_not rfl) (by decide) fun a hF => ?_
        refine s_val hF (x_move rfl) (by decide) fun a hF => ?_
        refine s_grdn 22 hF rfl rfl (by decide) fun a hF => ?_
        refine s_grdn 22 hF rfl rfl (by decide) fun a hF => ?_
        refine s_grdn 22 hF rfl rfl (by decide) fun a hF => ?_
        refine s_grdu 25 hF rfl rfl (by decide) fun a hF => ?_
        refine s_grdu 25 hF rfl rfl (by decide) fun a hF => ?_
        refine s_grdu 25 hF rfl rfl (by decide) fun a hF => ?_
        refine s_grdu 28 hF rfl rfl (by decide) fun a hF => ?_
        refine s_grdu 28 hF rfl rfl (by decide) fun a hF => ?_
        refine s_grdu 25 hF rfl rfl (by decide) fun a hF => ?_
        refine s_grdu 25 hF rfl rfl (by decide) fun a hF => ?_
        refine s_grdu 32 hF rfl rfl (by decide) fun a hF => ?_
        refine s_grdu 32 hF rfl rfl (by decide) fun a hF => ?_
        refine s_grdu 25 hF rfl rfl (by decide) fun a hF => ?_
        refine s_grdu 25 hF rfl rfl (by decide) fun a hF => ?_
        refine s_grdu 36 hF rfl rfl (by decide) fun a hF => ?_
        refine s_grdu 36 hF rfl rfl (by decide) fun a hF => ?_
        refine s_grdu 25 hF rfl rfl (by decide) fun a hF => ?_
        refine s_grdn 22 hF rfl rfl (by decide) fun a hF => ?_
        refine s_val hF (x_pick (b := false) rfl rfl) (by decide) fun a hF => ?_
        refine s_end (hK12 _ _ ?_)
        refine wp_if hF rfl ?_
        refine wp_skip (hK6 _ _ ?_)
        refine wp_region_lit ?_
        refine s_val hF (x_addn (i + 1) (by omega) (by omega) rfl rfl) (by decide) fun a hF => ?_
        refine s_val hF (x_move rfl) (by decide) fun a hF => ?_
        refine s_end (hK' _ _ (by omega) ⟨rfl, (fun j hj => by rcases Nat.lt_or_ge j i with h | h; (· exact hok j h); (· rw [show j = i by omega]; exact hoki)), hF.sub _ rfl⟩)
      · exfalso; omega
      · exfalso; omega
      · exfalso; omega
      · exfalso; omega
      · exfalso; omega
      · exfalso; omega
    · skip
      refine wp_rs fun K13 hK13 => ?_
      refine s_val hF (x_move rfl) (by decide) fun a hF => ?_
      refine s_val hF (x_geq (b := true) (decide_eq_true (by omega)) rfl rfl) (by decide) fun a hF => ?_
      refine s_val hF (x_move rfl) (by decide) fun a hF => ?_
      refine s_grd 16 hF rfl rfl rfl ?_
      refine s_val hF (x_move rfl) (by decide) fun a hF => ?_
      refine s_grd 16 hF rfl rfl rfl ?_
      refine s_val hF (x_leq (b := false) (decide_eq_false (by omega)) rfl rfl) (by decide) fun a hF => ?_
      refine s_val hF (x_pick (b := true) rfl rfl) (by decide) fun a hF => ?_
      refine s_val hF (x_assign rfl) (by decide) fun a hF => ?_
      refine s_end (hK13 _ _ ?_)
      rcases (show (97 ≤ (q.toNat : Int) ∧ (q.toNat : Int) ≤ 122) ∨ (¬ (97 ≤ (q.toNat : Int) ∧ (q.toNat : Int) ≤ 122) ∧ (i : Int) = 0) ∨ (¬ (97 ≤ (q.toNat : Int) ∧ (q.toNat : Int) ≤ 122) ∧ (i : Int) ≠ 0 ∧ (q.toNat : Int) < 48 ∧ (q.toNat : Int) ≠ 46) ∨ (¬ (97 ≤ (q.toNat : Int) ∧ (q.toNat : Int) ≤ 122) ∧ (i : Int) ≠ 0 ∧ (q.toNat : Int) = 46) ∨ (¬ (97 ≤ (q.toNat : Int) ∧ (q.toNat : Int) ≤ 122) ∧ (i : Int) ≠ 0 ∧ 57 < (q.toNat : Int) ∧ (q.toNat : Int) = 95) ∨ (¬ (97 ≤ (q.toNat : Int) ∧ (q.toNat : Int) ≤ 122) ∧ (i : Int) ≠ 0 ∧ 57 < (q.toNat : Int) ∧ (q.toNat : Int) ≠ 95) ∨ (¬ (97 ≤ (q.toNat : Int) ∧ (q.toNat : Int) ≤ 122) ∧ (i : Int) ≠ 0 ∧ 48 ≤ (q.toNat : Int) ∧ (q.toNat : Int) ≤ 57) by omega) with hz | hz | hz | hz | hz | hz | hz
      · exfalso; omega
      · have hbad : nameB s = false := nameB_of ⟨fun h => absurd h (by decide), fun h => by have := h.1 i q hq; unfold letC othC at this; omega⟩
        refine wp_rs fun K15 hK15 => ?_
        refine s_val hF (x_move rfl) (by decide) fun a hF => ?_
        refine s_val hF (x_not rfl) (by decide) fun a hF => ?_
        refine s_val hF (x_move rfl) (by decide) fun a hF => ?_
        refine s_grd 22 hF rfl rfl rfl ?_
        refine s_val hF (x_move rfl) (by decide) fun a hF => ?_
        refine s_grd 22 hF rfl rfl rfl ?_
        refine s_val hF (x_eql (b := true) (decide_eq_true (by omega)) rfl rfl) (by decide) fun a hF => ?_
        refine s_grd 22 hF rfl rfl rfl ?_
        refine s_val hF (x_move rfl) (by decide) fun a hF => ?_
        refine s_grdn 25 hF rfl rfl (by decide) fun a hF => ?_
        refine s_grdn 25 hF rfl rfl (by decide) fun a hF => ?_
        refine s_grdn 25 hF rfl rfl (by decide) fun a hF => ?_
        refine s_grdu 28 hF rfl rfl (by decide) fun a hF => ?_
        refine s_grdu 28 hF rfl rfl (by decide) fun a hF => ?_
        refine s_grdn 25 hF rfl rfl (by decide) fun a hF => ?_
        refine s_grdn 25 hF rfl rfl (by decide) fun a hF => ?_
        refine s_grdu 32 hF rfl rfl (by decide) fun a hF => ?_
        refine s_grdu 32 hF rfl rfl (by decide) fun a hF => ?_
        refine s_grdn 25 hF rfl rfl (by decide) fun a hF => ?_
        refine s_grdn 25 hF rfl rfl (by decide) fun a hF => ?_
        refine s_grdu 36 hF rfl rfl (by decide) fun a hF => ?_
        refine s_grdu 36 hF rfl rfl (by decide) fun a hF => ?_
        refine s_grdn 25 hF rfl rfl (by decide) fun a hF => ?_
        refine s_grd 22 hF rfl rfl rfl ?_
        refine s_val hF (x_pick (b := true) rfl rfl) (by decide) fun a hF => ?_
        refine s_val hF (x_pick (b := true) rfl rfl) (by decide) fun a hF => ?_
        refine s_end (hK15 _ _ ?_)
        refine wp_if hF rfl ?_
        refine wp_rs fun K16 hK16 => ?_
        refine s_val hF (x_assign rfl) (by decide) fun a hF => ?_
        refine s_end (hK16 _ _ ?_)
        refine wp_ret (inb_ret (then_ret (then_ret (inb_ret (then_ret (res_slot hF rfl rfl ⟨by rw [hbad], rfl⟩))))))
      · have hbad : nameB s = false := nameB_of ⟨fun h => absurd h (by decide), fun h => by have := h.1 i q hq; unfold letC othC at this; omega⟩
        refine wp_rs fun K17 hK17 => ?_
        refine s_val hF (x_move rfl) (by decide) fun a hF => ?_
        refine s_val hF (x_not rfl) (by decide) fun a hF => ?_
        refine s_val hF (x_move rfl) (by decide) fun a hF => ?_
        refine s_grd 22 hF rfl rfl rfl ?_
        refine s_val hF (x_move rfl) (by decide) fun a hF => ?_
        refine s_grd 22 hF rfl rfl rfl ?_
        refine s_val hF (x_eql (b := false) (decide_eq_false (by omega)) rfl rfl) (by decide) fun a hF => ?_
        refine s_grd 22 hF rfl rfl rfl ?_
        refine s_val hF (x_move rfl) (by decide) fun a hF => ?_
        refine s_grd 25 hF rfl rfl rfl ?_
        refine s_val hF (x_move rfl) (by decide) fun a hF => ?_
        refine s_grd 25 hF rfl rfl rfl ?_
        refine s_val hF (x_lss (b := true) (decide_eq_true (by omega)) rfl rfl) (by decide) fun a hF => ?_
        refine s_grd 25 hF rfl rfl rfl ?_
        refine s_val hF (x_move rfl) (by decide) fun a hF => ?_
        refine s_grdn 28 hF rfl rfl (by decide) fun a hF => ?_
        refine s_grdn 28 hF rfl rfl (by decide) fun a hF => ?_
        refine s_grd 25 hF rfl rfl rfl ?_
        refine s_val hF (x_pick (b := true) rfl rfl) (by decide) fun a hF => ?_
        refine s_grd 25 hF rfl rfl rfl ?_
        refine s_val hF (x_move rfl) (by decide) fun a hF => ?_
        refine s_grd 32 hF rfl rfl rfl ?_
        refine s_val hF (x_move rfl) (by decide) fun a hF => ?_
        refine s_grd 32 hF rfl rfl rfl ?_
        refine s_val hF (x_neq (b := true) (decide_eq_true (by omega)) rfl rfl) (by decide) fun a hF => ?_
        refine s_grd 25 hF rfl rfl rfl ?_
        refine s_val hF (x_pick (b := true) rfl rfl) (by decide) fun a hF => ?_
        refine s_grd 25 hF rfl rfl rfl ?_
        refine s_val hF (x_move rfl) (by decide) fun a hF => ?_
        refine s_grd 36 hF rfl rfl rfl ?_
        refine s_val hF (x_move rfl) (by decide) fun a hF => ?_
        refine s_grd 36 hF rfl rfl rfl ?_
        refine s_val hF (x_neq (b := true) (decide_eq_true (by omega)) rfl rfl) (by decide) fun a hF => ?_
        refine s_grd 25 hF rfl rfl rfl ?_
        refine s_val hF (x_pick (b := true) rfl rfl) (by decide) fun a hF => ?_
        refine s_grd 22 hF rfl rfl rfl ?_
        refine s_val hF (x_pick (b := false) rfl rfl) (by decide) fun a hF => ?_
        refine s_val hF (x_pick (b := true) rfl rfl) (by decide) fun a hF => ?_
        refine s_end (hK17 _ _ ?_)
        refine wp_if hF rfl ?_
        refine wp_rs fun K18 hK18 => ?_
        refine s_val hF (x_assign rfl) (by decide) fun a hF => ?_
        refine s_end (hK18 _ _ ?_)
        refine wp_ret (inb_ret (then_ret (then_ret (inb_ret (then_ret (res_slot hF rfl rfl ⟨by rw [hbad], rfl⟩))))))
      · have hoki : okAt s.data.toList i := fun c hc => by rw [hq] at hc; cases hc; unfold letC othC; omega
        refine wp_rs fun K19 hK19 => ?_
        refine s_val hF (x_move rfl) (by decide) fun a hF => ?_
        refine s_val hF (x_not rfl) (by decide) fun a hF => ?_
        refine s_val hF (x_move rfl) (by decide) fun a hF => ?_
        refine s_grd 22 hF rfl rfl rfl ?_
        refine s_val hF (x_move rfl) (by decide) fun a hF => ?_
        refine s_grd 22 hF rfl rfl rfl ?_
        refine s_val hF (x_eql (b := false) (decide_eq_false (by omega)) rfl rfl) (by decide) fun a hF => ?_
        refine s_grd 22 hF rfl rfl rfl ?_
        refine s_val hF (x_move rfl) (by decide) fun a hF => ?_
        refine s_grd 25 hF rfl rfl rfl ?_
        refine s_val hF (x_move rfl) (by decide) fun a hF => ?_
        refine s_grd 25 hF rfl rfl rfl ?_
        refine s_val hF (x_lss (b := true) (decide_eq_true (by omega)) rfl rfl) (by decide) fun a hF => ?_
        refine s_grd 25 hF rfl rfl rfl ?_
        refine s_val hF (x_move rfl) (by decide) fun a hF => ?_
        refine s_grdn 28 hF rfl rfl (by decide) fun a hF => ?_
        refine s_grdn 28 hF rfl rfl (by decide) fun a hF => ?_
        refine s_grd 25 hF rfl rfl rfl ?_
        refine s_val hF (x_pick (b := true) rfl rfl) (by decide) fun a hF => ?_
        refine s_grd 25 hF rfl rfl rfl ?_
        refine s_val hF (x_move rfl) (by decide) fun a hF => ?_
        refine s_grd 32 hF rfl rfl rfl ?_
        refine s_val hF (x_move rfl) (by decide) fun a hF => ?_
        refine s_grd 32 hF rfl rfl rfl ?_
        refine s_val hF (x_neq (b := true) (decide_eq_true (by omega)) rfl rfl) (by decide) fun a hF => ?_
        refine s_grd 25 hF rfl rfl rfl ?_
        refine s_val hF (x_pick (b := true) rfl rfl) (by decide) fun a hF => ?_
        refine s_grd 25 hF rfl rfl rfl ?_
        refine s_val hF (x_move rfl) (by decide) fun a hF => ?_
        refine s_grd 36 hF rfl rfl rfl ?_
        refine s_val hF (x_move rfl) (by decide) fun a hF => ?_
        refine s_grd 36 hF rfl rfl rfl ?_
        refine s_val hF (x_neq (b := false) (decide_eq_false (by omega)) rfl rfl) (by decide) fun a hF => ?_
        refine s_grd 25 hF rfl rfl rfl ?_
        refine s_val hF (x_pick (b := true) rfl rfl) (by decide) fun a hF => ?_
        refine s_grd 22 hF rfl rfl rfl ?_
        refine s_val hF (x_pick (b := false) rfl rfl) (by decide) fun a hF => ?_
        refine s_val hF (x_pick (b := true) rfl rfl) (by decide) fun a hF => ?_
        refine s_end (hK19 _ _ ?_)
        refine wp_if hF rfl ?_
        refine wp_skip (hK6 _ _ ?_)
        refine wp_region_lit ?_
        refine s_val hF (x_addn (i + 1) (by omega) (by omega) rfl rfl) (by decide) fun a hF => ?_
        refine s_val hF (x_move rfl) (by decide) fun a hF => ?_
        refine s_end (hK' _ _ (by omega) ⟨rfl, (fun j hj => by rcases Nat.lt_or_ge j i with h | h; (· exact hok j h); (· rw [show j = i by omega]; exact hoki)), hF.sub _ rfl⟩)
      · have hoki : okAt s.data.toList i := fun c hc => by rw [hq] at hc; cases hc; unfold letC othC; omega
        refine wp_rs fun K20 hK20 => ?_
        refine s_val hF (x_move rfl) (by decide) fun a hF => ?_
        refine s_val hF (x_not rfl) (by decide) fun a hF => ?_
        refine s_val hF (x_move rfl) (by decide) fun a hF => ?_
        refine s_grd 22 hF rfl rfl rfl ?_
        refine s_val hF (x_move rfl) (by decide) fun a hF => ?_
        refine s_grd 22 hF rfl rfl rfl ?_
        refine s_val hF (x_eql (b := false) (decide_eq_false (by omega)) rfl rfl) (by decide) fun a hF => ?_
        refine s_grd 22 hF rfl rfl rfl ?_
        refine s_val hF (x_move rfl) (by decide) fun a hF => ?_
        refine s_grd 25 hF rfl rfl rfl ?_
        refine s_val hF (x_move rfl) (by decide) fun a hF => ?_
        refine s_grd 25 hF rfl rfl rfl ?_
        refine s_val hF (x_lss (b := false) (decide_eq_false (by omega)) rfl rfl) (by decide) fun a hF => ?_
        refine s_grd 25 hF rfl rfl rfl ?_
        refine s_val hF (x_move rfl) (by decide) fun a hF => ?_
        refine s_grd 28 hF rfl rfl rfl ?_
        refine s_val hF (x_move rfl) (by decide) fun a hF => ?_
        refine s_grd 28 hF rfl rfl rfl ?_
        refine s_val hF (x_gtr (b := true) (decide_eq_true (by omega)) rfl rfl) (by decide) fun a hF => ?_
        refine s_grd 25 hF rfl rfl rfl ?_
        refine s_val hF (x_pick (b := false) rfl rfl) (by decide) fun a hF => ?_
        refine s_grd 25 hF rfl rfl rfl ?_
        refine s_val hF (x_move rfl) (by decide) fun a hF => ?_
        refine s_grd 32 hF rfl rfl rfl ?_
        refine s_val hF (x_move rfl) (by decide) fun a hF => ?_
        refine s_grd 32 hF rfl rfl rfl ?_
        refine s_val hF (x_neq (b := false) (decide_eq_false (by omega)) rfl rfl) (by decide) fun a hF => ?_
        refine s_grd 25 hF rfl rfl rfl ?_
        refine s_val hF (x_pick (b := true) rfl rfl) (by decide) fun a hF => ?_
        refine s_grd 25 hF rfl rfl rfl ?_
        refine s_val hF (x_move rfl) (by decide) fun a hF => ?_
        refine s_grdn 36 hF rfl rfl (by decide) fun a hF => ?_
        refine s_grdn 36 hF rfl rfl (by decide) fun a hF => ?_
        refine s_grd 25 hF rfl rfl rfl ?_
        refine s_val hF (x_pick (b := false) rfl rfl) (by decide) fun a hF => ?_
        refine s_grd 22 hF rfl rfl rfl ?_
        refine s_val hF (x_pick (b := false) rfl rfl) (by decide) fun a hF => ?_
        refine s_val hF (x_pick (b := true) rfl rfl) (by decide) fun a hF => ?_
        refine s_end (hK20 _ _ ?_)
        refine wp_if hF rfl ?_
        refine wp_skip (hK6 _ _ ?_)
        refine wp_region_lit ?_
        refine s_val hF (x_addn (i + 1) (by omega) (by omega) rfl rfl) (by decide) fun a hF => ?_
        refine s_val hF (x_move rfl) (by decide) fun a hF => ?_
        refine s_end (hK' _ _ (by omega) ⟨rfl, (fun j hj => by rcases Nat.lt_or_ge j i with h | h; (· exact hok j h); (· rw [show j = i by omega]; exact hoki)), hF.sub _ rfl⟩)
      · have hbad : nameB s = false := nameB_of ⟨fun h => absurd h (by decide), fun h => by have := h.1 i q hq; unfold letC othC at this; omega⟩
        refine wp_rs fun K21 hK21 => ?_
        refine s_val hF (x_move rfl) (by decide) fun a hF => ?_
        refine s_val hF (x_not rfl) (by decide) fun a hF => ?_
        refine s_val hF (x_move rfl) (by decide) fun a hF => ?_
        refine s_grd 22 hF rfl rfl rfl ?_
        refine s_val hF (x_move rfl) (by decide) fun a hF => ?_
        refine s_grd 22 hF rfl rfl rfl ?_
        refine s_val hF (x_eql (b := false) (decide_eq_false (by omega)) rfl rfl) (by decide) fun a hF => ?_
        refine s_grd 22 hF rfl rfl rfl ?_
        refine s_val hF (x_move rfl) (by decide) fun a hF => ?_
        refine s_grd 25 hF rfl rfl rfl ?_
        refine s_val hF (x_move rfl) (by decide) fun a hF => ?_
        refine s_grd 25 hF rfl rfl rfl ?_
        refine s_val hF (x_lss (b := false) (decide_eq_false (by omega)) rfl rfl) (by decide) fun a hF => ?_
        refine s_grd 25 hF rfl rfl rfl ?_
        refine s_val hF (x_move rfl) (by decide) fun a hF => ?_
        refine s_grd 28 hF rfl rfl rfl ?_
        refine s_val hF (x_move rfl) (by decide) fun a hF => ?_
        refine s_grd 28 hF rfl rfl rfl ?_
        refine s_val hF (x_gtr (b := true) (decide_eq_true (by omega)) rfl rfl) (by decide) fun a hF => ?_
        refine s_grd 25 hF rfl rfl rfl ?_
        refine s_val hF (x_pick (b := false) rfl rfl) (by decide) fun a hF => ?_
        refine s_grd 25 hF rfl rfl rfl ?_
        refine s_val hF (x_move rfl) (by decide) fun a hF => ?_
        refine s_grd 32 hF rfl rfl rfl ?_
        refine s_val hF (x_move rfl) (by decide) fun a hF => ?_
        refine s_grd 32 hF rfl rfl rfl ?_
        refine s_val hF (x_neq (b := true) (decide_eq_true (by omega)) rfl rfl) (by decide) fun a hF => ?_
        refine s_grd 25 hF rfl rfl rfl ?_
        refine s_val hF (x_pick (b := true) rfl rfl) (by decide) fun a hF => ?_
        refine s_grd 25 hF rfl rfl rfl ?_
        refine s_val hF (x_move rfl) (by decide) fun a hF => ?_
        refine s_grd 36 hF rfl rfl rfl ?_
        refine s_val hF (x_move rfl) (by decide) fun a hF => ?_
        refine s_grd 36 hF rfl rfl rfl ?_
        refine s_val hF (x_neq (b := true) (decide_eq_true (by omega)) rfl rfl) (by decide) fun a hF => ?_
        refine s_grd 25 hF rfl rfl rfl ?_
        refine s_val hF (x_pick (b := true) rfl rfl) (by decide) fun a hF => ?_
        refine s_grd 22 hF rfl rfl rfl ?_
        refine s_val hF (x_pick (b := false) rfl rfl) (by decide) fun a hF => ?_
        refine s_val hF (x_pick (b := true) rfl rfl) (by decide) fun a hF => ?_
        refine s_end (hK21 _ _ ?_)
        refine wp_if hF rfl ?_
        refine wp_rs fun K22 hK22 => ?_
        refine s_val hF (x_assign rfl) (by decide) fun a hF => ?_
        refine s_end (hK22 _ _ ?_)
        refine wp_ret (inb_ret (then_ret (then_ret (inb_ret (then_ret (res_slot hF rfl rfl ⟨by rw [hbad], rfl⟩))))))
      · have hoki : okAt s.data.toList i := fun c hc => by rw [hq] at hc; cases hc; unfold letC othC; omega
        refine wp_rs fun K23 hK23 => ?_
        refine s_val hF (x_move rfl) (by decide) fun a hF => ?_
        refine s_val hF (x_not rfl) (by decide) fun a hF => ?_
        refine s_val hF (x_move rfl) (by decide) fun a hF => ?_
        refine s_grd 22 hF rfl rfl rfl ?_
        refine s_val hF (x_move rfl) (by decide) fun a hF => ?_
        refine s_grd 22 hF rfl rfl rfl ?_
        refine s_val hF (x_eql (b := false) (decide_eq_false (by omega)) rfl rfl) (by decide) fun a hF => ?_
        refine s_grd 22 hF rfl rfl rfl ?_
        refine s_val hF (x_move rfl) (by decide) fun a hF => ?_
        refine s_grd 25 hF rfl rfl rfl ?_
        refine s_val hF (x_move rfl) (by decide) fun a hF => ?_
        refine s_grd 25 hF rfl rfl rfl ?_
        refine s_val hF (x_lss (b := false) (decide_eq_false (by omega)) rfl rfl) (by decide) fun a hF => ?_
        refine s_grd 25 hF rfl rfl rfl ?_
        refine s_val hF (x_move rfl) (by decide) fun a hF => ?_
        refine s_grd 28 hF rfl rfl rfl ?_
        refine s_val hF (x_move rfl) (by decide) fun a hF => ?_
        refine s_grd 28 hF rfl rfl rfl ?_
        refine s_val hF (x_gtr (b := false) (decide_eq_false (by omega)) rfl rfl) (by decide) fun a hF => ?_
        refine s_grd 25 hF rfl rfl rfl ?_
        refine s_val hF (x_pick (b := false) rfl rfl) (by decide) fun a hF => ?_
        refine s_grd 25 hF rfl rfl rfl ?_
        refine s_val hF (x_move rfl) (by decide) fun a hF => ?_
        refine s_grdn 32 hF rfl rfl (by decide) fun a hF => ?_
        refine s_grdn 32 hF rfl rfl (by decide) fun a hF => ?_
        refine s_grd 25 hF rfl rfl rfl ?_
        refine s_val hF (x_pick (b := false) rfl rfl) (by decide) fun a hF => ?_
        refine s_grd 25 hF rfl rfl rfl ?_
        refine s_val hF (x_move rfl) (by decide) fun a hF => ?_
        refine s_grdn 36 hF rfl rfl (by decide) fun a hF => ?_
        refine s_grdn 36 hF rfl rfl (by decide) fun a hF => ?_
        refine s_grd 25 hF rfl rfl rfl ?_
        refine s_val hF (x_pick (b := false) rfl rfl) (by decide) fun a hF => ?_
        refine s_grd 22 hF rfl rfl rfl ?_
        refine s_val hF (x_pick (b := false) rfl rfl) (by decide) fun a hF => ?_
        refine s_val hF (x_pick (b := true) rfl rfl) (by decide) fun a hF => ?_
        refine s_end (hK23 _ _ ?_)
        refine wp_if hF rfl ?_
        refine wp_skip (hK6 _ _ ?_)
        refine wp_region_lit ?_
        refine s_val hF (x_addn (i + 1) (by omega) (by omega) rfl rfl) (by decide) fun a hF => ?_
        refine s_val hF (x_move rfl) (by decide) fun a hF => ?_
        refine s_end (hK' _ _ (by omega) ⟨rfl, (fun j hj => by rcases Nat.lt_or_ge j i with h | h; (· exact hok j h); (· rw [show j = i by omega]; exact hoki)), hF.sub _ rfl⟩)
    · skip
      refine wp_rs fun K24 hK24 => ?_
      refine s_val hF (x_move rfl) (by decide) fun a hF => ?_
      refine s_val hF (x_geq (b := false) (decide_eq_false (by omega)) rfl rfl) (by decide) fun a hF => ?_
      refine s_val hF (x_move rfl) (by decide) fun a hF => ?_
      refine s_grdn 16 hF rfl rfl (by decide) fun a hF => ?_
      refine s_grdn 16 hF rfl rfl (by decide) fun a hF => ?_
      refine s_val hF (x_pick (b := false) rfl rfl) (by decide) fun a hF => ?_
      refine s_val hF (x_assign rfl) (by decide) fun a hF => ?_
      refine s_end (hK24 _ _ ?_)
      rcases (show (97 ≤ (q.toNat : Int) ∧ (q.toNat : Int) ≤ 122) ∨ (¬ (97 ≤ (q.toNat : Int) ∧ (q.toNat : Int) ≤ 122) ∧ (i : Int) = 0) ∨ (¬ (97 ≤ (q.toNat : Int) ∧ (q.toNat : Int) ≤ 122) ∧ (i : Int) ≠ 0 ∧ (q.toNat : Int) < 48 ∧ (q.toNat : Int) ≠ 46) ∨ (¬ (97 ≤ (q.toNat : Int) ∧ (q.toNat : Int) ≤ 122) ∧ (i : Int) ≠ 0 ∧ (q.toNat : Int) = 46) ∨ (¬ (97 ≤ (q.toNat : Int) ∧ (q.toNat : Int) ≤ 122) ∧ (i : Int) ≠ 0 ∧ 57 < (q.toNat : Int) ∧ (q.toNat : Int) = 95) ∨ (¬ (97 ≤ (q.toNat : Int) ∧ (q.toNat : Int) ≤ 122) ∧ (i : Int) ≠ 0 ∧ 57 < (q.toNat : Int) ∧ (q.toNat : Int) ≠ 95) ∨ (¬ (97 ≤ (q.toNat : Int) ∧ (q.toNat : Int) ≤ 122) ∧ (i : Int) ≠ 0 ∧ 48 ≤ (q.toNat : Int) ∧ (q.toNat : Int) ≤ 57) by omega) with hz | hz | hz | hz | hz | hz | hz
      · exfalso; omega
      · have hbad : nameB s = false := nameB_of ⟨fun h => absurd h (by decide), fun h => by have := h.1 i q hq; unfold letC othC at this; omega⟩
        refine wp_rs fun K26 hK26 => ?_
        refine s_val hF (x_move rfl) (by decide) fun a hF => ?_
        refine s_val hF (x_not rfl) (by decide) fun a hF => ?_
        refine s_val hF (x_move rfl) (by decide) fun a hF => ?_
        refine s_grd 22 hF rfl rfl rfl ?_
        refine s_val hF (x_move rfl) (by decide) fun a hF => ?_
        refine s_grd 22 hF rfl rfl rfl ?_
        refine s_val hF (x_eql (b := true) (decide_eq_true (by omega)) rfl rfl) (by decide) fun a hF => ?_
        refine s_grd 22 hF rfl rfl rfl ?_
        refine s_val hF (x_move rfl) (by decide) fun a hF => ?_
        refine s_grdn 25 hF rfl rfl (by decide) fun a hF => ?_
        refine s_grdn 25 hF rfl rfl (by decide) fun a hF => ?_
        refine s_grdn 25 hF rfl rfl (by decide) fun a hF => ?_
        refine s_grdu 28 hF rfl rfl (by decide) fun a hF => ?_
        refine s_grdu 28 hF rfl rfl (by decide) fun a hF => ?_
        refine s_grdn 25 hF rfl rfl (by decide) fun a hF => ?_
        refine s_grdn 25 hF rfl rfl (by decide) fun a hF => ?_
        refine s_grdu 32 hF rfl rfl (by decide) fun a hF => ?_
        refine s_grdu 32 hF rfl rfl (by decide) fun a hF => ?_
        refine s_grdn 25 hF rfl rfl (by decide) fun a hF => ?_
        refine s_grdn 25 hF rfl rfl (by decide) fun a hF => ?_
        refine s_grdu 36 hF rfl rfl (by decide) fun a hF => ?_
        refine s_grdu 36 hF rfl rfl (by decide) fun a hF => ?_
        refine s_grdn 25 hF rfl rfl (by decide) fun a hF => ?_
        refine s_grd 22 hF rfl rfl rfl ?_
        refine s_val hF (x_pick (b := true) rfl rfl) (by decide) fun a hF => ?_
        refine s_val hF (x_pick (b := true) rfl rfl) (by decide) fun a hF => ?_
        refine s_end (hK26 _ _ ?_)
        refine wp_if hF rfl ?_
        refine wp_rs fun K27 hK27 => ?_
        refine s_val hF (x_assign rfl) (by decide) fun a hF => ?_
        refine s_end (hK27 _ _ ?_)
        refine wp_ret (inb_ret (then_ret (then_ret (inb_ret (then_ret (res_slot hF rfl rfl ⟨by rw [hbad], rfl⟩))))))
      · have hbad : nameB s = false := nameB_of ⟨fun h => absurd h (by decide), fun h => by have := h.1 i q hq; unfold letC othC at this; omega⟩
        refine wp_rs fun K28 hK28 => ?_
        refine s_val hF (x_move rfl) (by decide) fun a hF => ?_
        refine s_val hF (x_not rfl) (by decide) fun a hF => ?_
        refine s_val hF (x_move rfl) (by decide) fun a hF => ?_
        refine s_grd 22 hF rfl rfl rfl ?_
        refine s_val hF (x_move rfl) (by decide) fun a hF => ?_
        refine s_grd 22 hF rfl rfl rfl ?_
        refine s_val hF (x_eql (b := false) (decide_eq_false (by omega)) rfl rfl) (by decide) fun a hF => ?_
        refine s_grd 22 hF rfl rfl rfl ?_
        refine s_val hF (x_move rfl) (by decide) fun a hF => ?_
        refine s_grd 25 hF rfl rfl rfl ?_
        refine s_val hF (x_move rfl) (by decide) fun a hF => ?_
        refine s_grd 25 hF rfl rfl rfl ?_
        refine s_val hF (x_lss (b := true) (decide_eq_true (by omega)) rfl rfl) (by decide) fun a hF => ?_
        refine s_grd 25 hF rfl rfl rfl ?_
        refine s_val hF (x_move rfl) (by decide) fun a hF => ?_
        refine s_grdn 28 hF rfl rfl (by decide) fun a hF => ?_
        refine s_grdn 28 hF rfl rfl (by decide) fun a hF => ?_
        refine s_grd 25 hF rfl rfl rfl ?_
        refine s_val hF (x_pick (b := true) rfl rfl) (by decide) fun a hF => ?_
        refine s_grd 25 hF rfl rfl rfl ?_
        refine s_val hF (x_move rfl) (by decide) fun a hF => ?_
        refine s_grd 32 hF rfl rfl rfl ?_
        refine s_val hF (x_move rfl) (by decide) fun a hF => ?_
        refine s_grd 32 hF rfl rfl rfl ?_
        refine s_val hF (x_neq (b := true) (decide_eq_true (by omega)) rfl rfl) (by decide) fun a hF => ?_
        refine s_grd 25 hF rfl rfl rfl ?_
        refine s_val hF (x_pick (b := true) rfl rfl) (by decide) fun a hF => ?_
        refine s_grd 25 hF rfl rfl rfl ?_
        refine s_val hF (x_move rfl) (by decide) fun a hF => ?_
        refine s_grd 36 hF rfl rfl rfl ?_
        refine s_val hF (x_move rfl) (by decide) fun a hF => ?_
        refine s_grd 36 hF rfl rfl rfl ?_
        refine s_val hF (x_neq (b := true) (decide_eq_true (by omega)) rfl rfl) (by decide) fun a hF => ?_
        refine s_grd 25 hF rfl rfl rfl ?_
        refine s_val hF (x_pick (b := true) rfl rfl) (by decide) fun a hF => ?_
        refine s_grd 22 hF rfl rfl rfl ?_
        refine s_val hF (x_pick (b := false) rfl rfl) (by decide) fun a hF => ?_
        refine s_val hF (x_pick (b := true) rfl rfl) (by decide) fun a hF => ?_
        refine s_end (hK28 _ _ ?_)
        refine wp_if hF rfl ?_
        refine wp_rs fun K29 hK29 => ?_
        refine s_val hF (x_assign rfl) (by decide) fun a hF => ?_
        refine s_end (hK29 _ _ ?_)
        refine wp_ret (inb_ret (then_ret (then_ret (inb_ret (then_ret (res_slot hF rfl rfl ⟨by rw [hbad], rfl⟩))))))
      · have hoki : okAt s.data.toList i := fun c hc => by rw [hq] at hc; cases hc; unfold letC othC; omega
        refine wp_rs fun K30 hK30 => ?_
        refine s_val hF (x_move rfl) (by decide) fun a hF => ?_
        refine s_val hF (x_not rfl) (by decide) fun a hF => ?_
        refine s_val hF (x_move rfl) (by decide) fun a hF => ?_
        refine s_grd 22 hF rfl rfl rfl ?_
        refine s_val hF (x_move rfl) (by decide) fun a hF => ?_
        refine s_grd 22 hF rfl rfl rfl ?_
        refine s_val hF (x_eql (b := false) (decide_eq_false (by omega)) rfl rfl) (by decide) fun a hF => ?_
        refine s_grd 22 hF rfl rfl rfl ?_
        refine s_val hF (x_move rfl) (by decide) fun a hF => ?_
        refine s_grd 25 hF rfl rfl rfl ?_
        refine s_val hF (x_move rfl) (by decide) fun a hF => ?_
        refine s_grd 25 hF rfl rfl rfl ?_
        refine s_val hF (x_lss (b := true) (decide_eq_true (by omega)) rfl rfl) (by decide) fun a hF => ?_
        refine s_grd 25 hF rfl rfl rfl ?_
        refine s_val hF (x_move rfl) (by decide) fun a hF => ?_
        refine s_grdn 28 hF rfl rfl (by decide) fun a hF => ?_
        refine s_grdn 28 hF rfl rfl (by decide) fun a hF => ?_
        refine s_grd 25 hF rfl rfl rfl ?_
        refine s_val hF (x_pick (b := true) rfl rfl) (by decide) fun a hF => ?_
        refine s_grd 25 hF rfl rfl rfl ?_
        refine s_val hF (x_move rfl) (by decide) fun a hF => ?_
        refine s_grd 32 hF rfl rfl rfl ?_
        refine s_val hF (x_move rfl) (by decide) fun a hF => ?_
        refine s_grd 32 hF rfl rfl rfl ?_
        refine s_val hF (x_neq (b := true) (decide_eq_true (by omega)) rfl rfl) (by decide) fun a hF => ?_
        refine s_grd 25 hF rfl rfl rfl ?_
        refine s_val hF (x_pick (b := true) rfl rfl) (by decide) fun a hF => ?_
        refine s_grd 25 hF rfl rfl rfl ?_
        refine s_val hF (x_move rfl) (by decide) fun a hF => ?_
        refine s_grd 36 hF rfl rfl rfl ?_
        refine s_val hF (x_move rfl) (by decide) fun a hF => ?_
        refine s_grd 36 hF rfl rfl rfl ?_
        refine s_val hF (x_neq (b := false) (decide_eq_false (by omega)) rfl rfl) (by decide) fun a hF => ?_
        refine s_grd 25 hF rfl rfl rfl ?_
        refine s_val hF (x_pick (b := true) rfl rfl) (by decide) fun a hF => ?_
        refine s_grd 22 hF rfl rfl rfl ?_
        refine s_val hF (x_pick (b := false) rfl rfl) (by decide) fun a hF => ?_
        refine s_val hF (x_pick (b := true) rfl rfl) (by decide) fun a hF => ?_
        refine s_end (hK30 _ _ ?_)
        refine wp_if hF rfl ?_
        refine wp_skip (hK6 _ _ ?_)
        refine wp_region_lit ?_
        refine s_val hF (x_addn (i + 1) (by omega) (by omega) rfl rfl) (by decide) fun a hF => ?_
        refine s_val hF (x_move rfl) (by decide) fun a hF => ?_
        refine s_end (hK' _ _ (by omega) ⟨rfl, (fun j hj => by rcases Nat.lt_or_ge j i with h | h; (· exact hok j h); (· rw [show j = i by omega]; exact hoki)), hF.sub _ rfl⟩)
      · have hoki : okAt s.data.toList i := fun c hc => by rw [hq] at hc; cases hc; unfold letC othC; omega
        refine wp_rs fun K31 hK31 => ?_
        refine s_val hF (x_move rfl) (by decide) fun a hF => ?_
        refine s_val hF (x_not rfl) (by decide) fun a hF => ?_
        refine s_val hF (x_move rfl) (by decide) fun a hF => ?_
        refine s_grd 22 hF rfl rfl rfl ?_
        refine s_val hF (x_move rfl) (by decide) fun a hF => ?_
        refine s_grd 22 hF rfl rfl rfl ?_
        refine s_val hF (x_eql (b := false) (decide_eq_false (by omega)) rfl rfl) (by decide) fun a hF => ?_
        refine s_grd 22 hF rfl rfl rfl ?_
        refine s_val hF (x_move rfl) (by decide) fun a hF => ?_
        refine s_grd 25 hF rfl rfl rfl ?_
        refine s_val hF (x_move rfl) (by decide) fun a hF => ?_
        refine s_grd 25 hF rfl rfl rfl ?_
        refine s_val hF (x_lss (b := false) (decide_eq_false (by omega)) rfl rfl) (by decide) fun a hF => ?_
        refine s_grd 25 hF rfl rfl rfl ?_
        refine s_val hF (x_move rfl) (by decide) fun a hF => ?_
        refine s_grd 28 hF rfl rfl rfl ?_
        refine s_val hF (x_move rfl) (by decide) fun a hF => ?_
        refine s_grd 28 hF rfl rfl rfl ?_
        refine s_val hF (x_gtr (b := true) (decide_eq_true (by omega)) rfl rfl) (by decide) fun a hF => ?_
        refine s_grd 25 hF rfl rfl rfl ?_
        refine s_val hF (x_pick (b := false) rfl rfl) (by decide) fun a hF => ?_
        refine s_grd 25 hF rfl rfl rfl ?_
        refine s_val hF (x_move rfl) (by decide) fun a hF => ?_
        refine s_grd 32 hF rfl rfl rfl ?_
        refine s_val hF (x_move rfl) (by decide) fun a hF => ?_
        refine s_grd 32 hF rfl rfl rfl ?_
        refine s_val hF (x_neq (b := false) (decide_eq_false (by omega)) rfl rfl) (by decide) fun a hF => ?_
        refine s_grd 25 hF rfl rfl rfl ?_
        refine s_val hF (x_pick (b := true) rfl rfl) (by decide) fun a hF => ?_
        refine s_grd 25 hF rfl rfl rfl ?_
        refine s_val hF (x_move rfl) (by decide) fun a hF => ?_
        refine s_grdn 36 hF rfl rfl (by decide) fun a hF => ?_
        refine s_grdn 36 hF rfl rfl (by decide) fun a hF => ?_
        refine s_grd 25 hF rfl rfl rfl ?_
        refine s_val hF (x_pick (b := false) rfl rfl) (by decide) fun a hF => ?_
        refine s_grd 22 hF rfl rfl rfl ?_
        refine s_val hF (x_pick (b := false) rfl rfl) (by decide) fun a hF => ?_
        refine s_val hF (x_pick (b := true) rfl rfl) (by decide) fun a hF => ?_
        refine s_end (hK31 _ _ ?_)
        refine wp_if hF rfl ?_
        refine wp_skip (hK6 _ _ ?_)
        refine wp_region_lit ?_
        refine s_val hF (x_addn (i + 1) (by omega) (by omega) rfl rfl) (by decide) fun a hF => ?_
        refine s_val hF (x_move rfl) (by decide) fun a hF => ?_
        refine s_end (hK' _ _ (by omega) ⟨rfl, (fun j hj => by rcases Nat.lt_or_ge j i with h | h; (· exact hok j h); (· rw [show j = i by omega]; exact hoki)), hF.sub _ rfl⟩)
      · have hbad : nameB s = false := nameB_of ⟨fun h => absurd h (by decide), fun h => by have := h.1 i q hq; unfold letC othC at this; omega⟩
        refine wp_rs fun K32 hK32 => ?_
        refine s_val hF (x_move rfl) (by decide) fun a hF => ?_
        refine s_val hF (x_not rfl) (by decide) fun a hF => ?_
        refine s_val hF (x_move rfl) (by decide) fun a hF => ?_
        refine s_grd 22 hF rfl rfl rfl ?_
        refine s_val hF (x_move rfl) (by decide) fun a hF => ?_
        refine s_grd 22 hF rfl rfl rfl ?_
        refine s_val hF (x_eql (b := false) (decide_eq_false (by omega)) rfl rfl) (by decide) fun a hF => ?_
        refine s_grd 22 hF rfl rfl rfl ?_
        refine s_val hF (x_move rfl) (by decide) fun a hF => ?_
        refine s_grd 25 hF rfl rfl rfl ?_
        refine s_val hF (x_move rfl) (by decide) fun a hF => ?_
        refine s_grd 25 hF rfl rfl rfl ?_
        refine s_val hF (x_lss (b := false) (decide_eq_false (by omega)) rfl rfl) (by decide) fun a hF => ?_
        refine s_grd 25 hF rfl rfl rfl ?_
        refine s_val hF (x_move rfl) (by decide) fun a hF => ?_
        refine s_grd 28 hF rfl rfl rfl ?_
        refine s_val hF (x_move rfl) (by decide) fun a hF => ?_
        refine s_grd 28 hF rfl rfl rfl ?_
        refine s_val hF (x_gtr (b := true) (decide_eq_true (by omega)) rfl rfl) (by decide) fun a hF => ?_
        refine s_grd 25 hF rfl rfl rfl ?_
        refine s_val hF (x_pick (b := false) rfl rfl) (by decide) fun a hF => ?_
        refine s_grd 25 hF rfl rfl rfl ?_
        refine s_val hF (x_move rfl) (by decide) fun a hF => ?_
        refine s_grd 32 hF rfl rfl rfl ?_
        refine s_val hF (x_move rfl) (by decide) fun a hF => ?_
        refine s_grd 32 hF rfl rfl rfl ?_
        refine s_val hF (x_neq (b := true) (decide_eq_true (by omega)) rfl rfl) (by decide) fun a hF => ?_
        refine s_grd 25 hF rfl rfl rfl ?_
        refine s_val hF (x_pick (b := true) rfl rfl) (by decide) fun a hF => ?_
        refine s_grd 25 hF rfl rfl rfl ?_
        refine s_val hF (x_move rfl) (by decide) fun a hF => ?_
        refine s_grd 36 hF rfl rfl rfl ?_
        refine s_val hF (x_move rfl) (by decide) fun a hF => ?_
        refine s_grd 36 hF rfl rfl rfl ?_
        refine s_val hF (x_neq (b := true) (decide_eq_true (by omega)) rfl rfl) (by decide) fun a hF => ?_
        refine s_grd 25 hF rfl rfl rfl ?_
        refine s_val hF (x_pick (b := true) rfl rfl) (by decide) fun a hF => ?_
        refine s_grd 22 hF rfl rfl rfl ?_
        refine s_val hF (x_pick (b := false) rfl rfl) (by decide) fun a hF => ?_
        refine s_val hF (x_pick (b := true) rfl rfl) (by decide) fun a hF => ?_
        refine s_end (hK32 _ _ ?_)
        refine wp_if hF rfl ?_
        refine wp_rs fun K33 hK33 => ?_
        refine s_val hF (x_assign rfl) (by decide) fun a hF => ?_
        refine s_end (hK33 _ _ ?_)
        refine wp_ret (inb_ret (then_ret (then_ret (inb_ret (then_ret (res_slot hF rfl rfl ⟨by rw [hbad], rfl⟩))))))
      · have hoki : okAt s.data.toList i := fun c hc => by rw [hq] at hc; cases hc; unfold letC othC; omega
        refine wp_rs fun K34 hK34 => ?_
        refine s_val hF (x_move rfl) (by decide) fun a hF => ?_
        refine s_val hF (x_not rfl) (by decide) fun a hF => ?_
        refine s_val hF (x_move rfl) (by decide) fun a hF => ?_
        refine s_grd 22 hF rfl rfl rfl ?_
        refine s_val hF (x_move rfl) (by decide) fun a hF => ?_
        refine s_grd 22 hF rfl rfl rfl ?_
        refine s_val hF (x_eql (b := false) (decide_eq_false (by omega)) rfl rfl) (by decide) fun a hF => ?_
        refine s_grd 22 hF rfl rfl rfl ?_
        refine s_val hF (x_move rfl) (by decide) fun a hF => ?_
        refine s_grd 25 hF rfl rfl rfl ?_
        refine s_val hF (x_move rfl) (by decide) fun a hF => ?_
        refine s_grd 25 hF rfl rfl rfl ?_
        refine s_val hF (x_lss (b := false) (decide_eq_false (by omega)) rfl rfl) (by decide) fun a hF => ?_
        refine s_grd 25 hF rfl rfl rfl ?_
        refine s_val hF (x_move rfl) (by decide) fun a hF => ?_
        refine s_grd 28 hF rfl rfl rfl ?_
        refine s_val hF (x_move rfl) (by decide) fun a hF => ?_
        refine s_grd 28 hF rfl rfl rfl ?_
        refine s_val hF (x_gtr (b := false) (decide_eq_false (by omega)) rfl rfl) (by decide) fun a hF => ?_
        refine s_grd 25 hF rfl rfl rfl ?_
        refine s_val hF (x_pick (b := false) rfl rfl) (by decide) fun a hF => ?_
        refine s_grd 25 hF rfl rfl rfl ?_
        refine s_val hF (x_move rfl) (by decide) fun a hF => ?_
        refine s_grdn 32 hF rfl rfl (by decide) fun a hF => ?_
        refine s_grdn 32 hF rfl rfl (by decide) fun a hF => ?_
        refine s_grd 25 hF rfl rfl rfl ?_
        refine s_val hF (x_pick (b := false) rfl rfl) (by decide) fun a hF => ?_
        refine s_grd 25 hF rfl rfl rfl ?_
        refine s_val hF (x_move rfl) (by decide) fun a hF => ?_
        refine s_grdn 36 hF rfl rfl (by decide) fun a hF => ?_
        refine s_grdn 36 hF rfl rfl (by decide) fun a hF => ?_
        refine s_grd 25 hF rfl rfl rfl ?_
        refine s_val hF (x_pick (b := false) rfl rfl) (by decide) fun a hF => ?_
        refine s_grd 22 hF rfl rfl rfl ?_
        refine s_val hF (x_pick (b := false) rfl rfl) (by decide) fun a hF => ?_
        refine s_val hF (x_pick (b := true) rfl rfl) (by decide) fun a hF => ?_
        refine s_end (hK34 _ _ ?_)
        refine wp_if hF rfl ?_
        refine wp_skip (hK6 _ _ ?_)
        refine wp_region_lit ?_
        refine s_val hF (x_addn (i + 1) (by omega) (by omega) rfl rfl) (by decide) fun a hF => ?_
        refine s_val hF (x_move rfl) (by decide) fun a hF => ?_
        refine s_end (hK' _ _ (by omega) ⟨rfl, (fun j hj => by rcases Nat.lt_or_ge j i with h | h; (· exact hok j h); (· rw [show j = i by omega]; exact hoki)), hF.sub _ rfl⟩)
  · obtain rfl : i = s.size := by omega
    have hall : ∀ j, okAt s.data.toList j := fun j c hc => by have hj := (List.getElem?_eq_some_iff.1 hc).1; rw [size_list] at hj; exact hok j hj c hc
    refine wp_exit (hK2 _ _ ?_)
    rcases (show 1 ≤ (s.size : Int) ∧ (s.size : Int) ≤ 32 ∨ (1 ≤ (s.size : Int) ∧ ¬ (s.size : Int) ≤ 32) ∨ ¬ 1 ≤ (s.size : Int) by omega) with hz | hz | hz
    · have hres : nameB s = true := nameB_of ⟨fun _ => ⟨hall, by rw [size_list]; omega, by rw [size_list]; omega⟩, fun _ => rfl⟩
      refine wp_rs fun K36 hK36 => ?_
      refine s_val hF (x_move rfl) (by decide) fun a hF => ?_
      refine s_val hF (x_lenS Try.underlying9 rfl) (by decide) fun a hF => ?_
      refine s_val hF (x_geq (b := true) (decide_eq_true (by omega)) rfl rfl) (by decide) fun a hF => ?_
      refine s_val hF (x_move rfl) (by decide) fun a hF => ?_
      refine s_grd 46 hF rfl rfl rfl ?_
      refine s_val hF (x_move rfl) (by decide) fun a hF => ?_
      refine s_grd 46 hF rfl rfl rfl ?_
      refine s_val hF (x_lenS Try.underlying9 rfl) (by decide) fun a hF => ?_
      refine s_grd 46 hF rfl rfl rfl ?_
      refine s_val hF (x_leq (b := true) (decide_eq_true (by omega)) rfl rfl) (by decide) fun a hF => ?_
      refine s_val hF (x_pick (b := true) rfl rfl) (by decide) fun a hF => ?_
      refine s_val hF (x_assign rfl) (by decide) fun a hF => ?_
      refine s_end (hK36 _ _ ?_)
      refine wp_ret (res_slot hF rfl rfl ⟨by rw [hres], rfl⟩)
    · have hres : nameB s = false := nameB_of ⟨fun h => absurd h (by decide), fun h => by have h1 := h.2.1; have h2 := h.2.2; rw [size_list] at h1 h2; omega⟩
      refine wp_rs fun K37 hK37 => ?_
      refine s_val hF (x_move rfl) (by decide) fun a hF => ?_
      refine s_val hF (x_lenS Try.underlying9 rfl) (by decide) fun a hF => ?_
      refine s_val hF (x_geq (b := true) (decide_eq_true (by omega)) rfl rfl) (by decide) fun a hF => ?_
      refine s_val hF (x_move rfl) (by decide) fun a hF => ?_
      refine s_grd 46 hF rfl rfl rfl ?_
      refine s_val hF (x_move rfl) (by decide) fun a hF => ?_
      refine s_grd 46 hF rfl rfl rfl ?_
      refine s_val hF (x_lenS Try.underlying9 rfl) (by decide) fun a hF => ?_
      refine s_grd 46 hF rfl rfl rfl ?_
      refine s_val hF (x_leq (b := false) (decide_eq_false (by omega)) rfl rfl) (by decide) fun a hF => ?_
      refine s_val hF (x_pick (b := true) rfl rfl) (by decide) fun a hF => ?_
      refine s_val hF (x_assign rfl) (by decide) fun a hF => ?_
      refine s_end (hK37 _ _ ?_)
      refine wp_ret (res_slot hF rfl rfl ⟨by rw [hres], rfl⟩)
    · have hres : nameB s = false := nameB_of ⟨fun h => absurd h (by decide), fun h => by have h1 := h.2.1; have h2 := h.2.2; rw [size_list] at h1 h2; omega⟩
      refine wp_rs fun K38 hK38 => ?_
      refine s_val hF (x_move rfl) (by decide) fun a hF => ?_
      refine s_val hF (x_lenS Try.underlying9 rfl) (by decide) fun a hF => ?_
      refine s_val hF (x_geq (b := false) (decide_eq_false (by omega)) rfl rfl) (by decide) fun a hF => ?_
      refine s_val hF (x_move rfl) (by decide) fun a hF => ?_
      refine s_grdn 46 hF rfl rfl (by decide) fun a hF => ?_
      refine s_grdn 46 hF rfl rfl (by decide) fun a hF => ?_
      refine s_grdn 46 hF rfl rfl (by decide) fun a hF => ?_
      refine s_val hF (x_pick (b := false) rfl rfl) (by decide) fun a hF => ?_
      refine s_val hF (x_assign rfl) (by decide) fun a hF => ?_
      refine s_end (hK38 _ _ ?_)
      refine wp_ret (res_slot hF rfl rfl ⟨by rw [hres], rfl⟩)
end Go.Proofs.Ytaclncmkdpjnlaa

namespace Go.Proofs.Ytaclncmkdpjnlaa
open Go.RowKit Go.Shelf
set_option linter.unusedVariables false
set_option linter.unusedSimpArgs false

theorem mayK_at {vars d : Int} {ks : List CT} {i n : Nat} {k : CT} (h : ks[i]? = some k) : mayK vars (ks.drop i) d n = if (k.mayT vars d n).1 ≠ 0 then k.mayT vars d n else mayK vars (ks.drop (i + 1)) d (k.mayT vars d n).2 := by
  have hi : i < ks.length := (List.getElem?_eq_some_iff.1 h).1
  have : ks[i] = k := (List.getElem?_eq_some_iff.1 h).2
  rw [← List.getElem_cons_drop hi, this, mayK]
theorem fstErr_at {vars : Int} {ls : List Lv} {i : Nat} {l : Lv} (h : ls[i]? = some l) : fstErr vars (ls.drop i) = if (chk 32 1048576 vars 1 100 l).1 ≠ 0 then (chk 32 1048576 vars 1 100 l).1 else fstErr vars (ls.drop (i + 1)) := by
  have hi : i < ls.length := (List.getElem?_eq_some_iff.1 h).1
  have : ls[i] = l := (List.getElem?_eq_some_iff.1 h).2
  rw [← List.getElem_cons_drop hi, this, fstErr]
theorem CT.kids_arT2 {W : World} {A : Nat → Prop} {c : CT} {x : C8} (h : RC W A c x) (h2 : ¬ (arT c.kd < 0 ∨ (c.len : Int) ≠ arT c.kd)) : c.kids.length = c.len := by
  rcases CT.kids_arT h with h3 | h3 <;> omega

set_option maxRecDepth 100000 in
set_option maxHeartbeats 400000 in
theorem rmay73 (vars : Int) (w0 : World) (g : Nat) (hg : w0.heap.size ≤ g) : ∀ (N : Nat) (c : CT) (x : C8), c.size < N → RC w0 (fun k => k < w0.heap.size) c x → c.fit → ∀ (d : Int) (n : Nat) (w1 : World), 0 ≤ d → d ≤ 65 → n ≤ 400 → Below w0.heap.size w0 w1 → Blk w1 g 3 [.int .i64 (n : Int)] →
    Calls Try.prog 62 #[tv x, .int .i64 vars, .int .i64 d, .pointer (some ⟨g, 0, none⟩)] w1 fun e w' => ∃ u, e = .returned u ∧ (u = .int .i64 (c.mayT vars d n).1 ∧ Blk w' g 3 [.int .i64 (((c.mayT vars d n).2 : Nat) : Int)]) ∧ Ktw g g w1 w' := by
  intro N
  induction N with
  | zero => intro s x h; omega
  | succ N ih =>
  intro c x hN hx hfit d n w1 hd0 hd1 hn hB mg
  have hK := Ktw.refl g g w1
  have sB := hB.size
  have sK := hK.size
  have hgl := mg.lt
  have heq := mayT_eq vars c d n
  have hrg := arT_rng c.kd
  obtain ⟨av, nv, cv, hts, hle9, hlen9, hcap, hkid⟩ := hx.kids
  obtain ⟨xk, xn, xs, xl, xls, xts⟩ := x
  simp only at hts
  subst hts
  have hkd : xk = c.kd := hx.kd
  have hone := hx.one
  obtain ⟨KC, hKC⟩ : ∃ KC, KC = c.kids := ⟨_, rfl⟩
  rw [← hKC] at heq hkid hle9 hcap
  refine calls_fs 108 [(0, tv ⟨xk, xn, xs, xl, xls, .slice av nv cv⟩), (1, .int .i64 vars), (2, .int .i64 d), (3, .pointer (some ⟨g, 0, none⟩))] Try.func62 rfl rfl rfl rfl rfl fun a hF => ?_
  refine wp_rs fun K1 hK1 => ?_
  refine s_box ([.int .i64 xk, .int .i64 xn, .string xs, .int .i64 xl.1, .int .i64 xl.2.1, xl.2.2, xls, .slice av nv cv]) hF (by decide) rfl rfl fun w2 b4 a eb4 m4 B3 zb4 hF => ?_
  have sB3 := B3.size
  have hB := hB.trans (B3.mono hB.size)
  have hK := hK.below B3
  have mg := mg.old B3
  refine s_val hF (x_assign rfl) (by decide) fun a hF => ?_
  refine s_end (hK1 _ _ ?_)
  refine wp_rs fun K2 hK2 => ?_
  refine s_val hF (x_move rfl) (by decide) fun a hF => ?_
  refine s_val hF (x_nil rfl) (by decide) fun a hF => ?_
  refine s_val hF (x_load rfl (m_load flat3 (mg.cell (j := 0) rfl))) (by decide) fun a hF => ?_
  refine s_val hF (x_addn (n + 1) (by omega) (by omega) rfl rfl) (by decide) fun a hF => ?_
  refine s_val hF (x_nil rfl) (by decide) fun a hF => ?_
  refine s_put hF rfl rfl flat3 mg (by first | (simp; done) | (simp [tc, lc]; done) | decide) rfl fun w4 mg o5 => ?_
  have so5 := o5.size
  have hB := hB.trans (o5.below (by omega))
  have hK := hK.only o5 (by omega)
  have m4 := m4.only o5 (by omega)
  refine s_end (hK2 _ _ ?_)
  refine wp_seq_k fun K3 hK3 => ?_
  refine wp_block ?_
  rcases (show 64 < d ∨ (¬ 64 < d ∧ 400 < ((n + 1 : Nat) : Int)) ∨ (¬ 64 < d ∧ ¬ 400 < ((n + 1 : Nat) : Int)) by omega) with hz | hz | hz
  · have hpre : nodeErr vars d (n + 1) c = 2 := nodeErr_two (by omega)
    rw [hpre, if_pos (by decide)] at heq
    refine wp_rs fun K5 hK5 => ?_
    refine s_val hF (x_move rfl) (by decide) fun a hF => ?_
    refine s_val hF (x_gtr (b := true) (decide_eq_true (by omega)) rfl rfl) (by decide) fun a hF => ?_
    refine s_val hF (x_move rfl) (by decide) fun a hF => ?_
    refine s_grdn 23 hF rfl rfl (by decide) fun a hF => ?_
    refine s_grdn 23 hF rfl rfl (by decide) fun a hF => ?_
    refine s_grdn 23 hF rfl rfl (by decide) fun a hF => ?_
    refine s_grdn 23 hF rfl rfl (by decide) fun a hF => ?_
    refine s_val hF (x_pick (b := true) rfl rfl) (by decide) fun a hF => ?_
    refine s_val hF (x_assign rfl) (by decide) fun a hF => ?_
    refine s_end (hK5 _ _ ?_)
    refine wp_if hF rfl ?_
    refine wp_rs fun K6 hK6 => ?_
    refine s_val hF (x_assign rfl) (by decide) fun a hF => ?_
    refine s_end (hK6 _ _ ?_)
    refine wp_ret (inb_ret (then_ret (res_slot hF rfl rfl ⟨_, rfl, ⟨by rw [heq], by rw [heq]; exact mg⟩, hK⟩)))
  · have hpre : nodeErr vars d (n + 1) c = 2 := nodeErr_two (by omega)
    rw [hpre, if_pos (by decide)] at heq
    refine wp_rs fun K7 hK7 => ?_
    refine s_val hF (x_move rfl) (by decide) fun a hF => ?_
    refine s_val hF (x_gtr (b := false) (decide_eq_false (by omega)) rfl rfl) (by decide) fun a hF => ?_
    refine s_val hF (x_move rfl) (by decide) fun a hF => ?_
    refine s_grd 23 hF rfl rfl rfl ?_
    refine s_val hF (x_move rfl) (by decide) fun a hF => ?_
    refine s_grd 23 hF rfl rfl rfl ?_
    refine s_val hF (x_nil rfl) (by decide) fun a hF => ?_
    refine s_grd 23 hF rfl rfl rfl ?_
    refine s_val hF (x_load rfl (m_load flat3 (mg.cell (j := 0) rfl))) (by decide) fun a hF => ?_
    refine s_grd 23 hF rfl rfl rfl ?_
    refine s_val hF (x_gtr (b := true) (decide_eq_true (by omega)) rfl rfl) (by decide) fun a hF => ?_
    refine s_val hF (x_pick (b := false) rfl rfl) (by decide) fun a hF => ?_
    refine s_val hF (x_assign rfl) (by decide) fun a hF => ?_
    refine s_end (hK7 _ _ ?_)
    refine wp_if hF rfl ?_
    refine wp_rs fun K8 hK8 => ?_
    refine s_val hF (x_assign rfl) (by decide) fun a hF => ?_
    refine s_end (hK8 _ _ ?_)
    refine wp_ret (inb_ret (then_ret (res_slot hF rfl rfl ⟨_, rfl, ⟨by rw [heq], by rw [heq]; exact mg⟩, hK⟩)))
  · skip
    refine wp_rs fun K9 hK9 => ?_
    refine s_val hF (x_move rfl) (by decide) fun a hF => ?_
    refine s_val hF (x_gtr (b := false) (decide_eq_false (by omega)) rfl rfl) (by decide) fun a hF => ?_
    refine s_val hF (x_move rfl) (by decide) fun a hF => ?_
    refine s_grd 23 hF rfl rfl rfl ?_
    refine s_val hF (x_move rfl) (by decide) fun a hF => ?_
    refine s_grd 23 hF rfl rfl rfl ?_
    refine s_val hF (x_nil rfl) (by decide) fun a hF => ?_
    refine s_grd 23 hF rfl rfl rfl ?_
    refine s_val hF (x_load rfl (m_load flat3 (mg.cell (j := 0) rfl))) (by decide) fun a hF => ?_
    refine s_grd 23 hF rfl rfl rfl ?_
    refine s_val hF (x_gtr (b := false) (decide_eq_false (by omega)) rfl rfl) (by decide) fun a hF => ?_
    refine s_val hF (x_pick (b := false) rfl rfl) (by decide) fun a hF => ?_
    refine s_val hF (x_assign rfl) (by decide) fun a hF => ?_
    refine s_end (hK9 _ _ ?_)
    refine wp_if hF rfl ?_
    rcases (show arT c.kd < 0 ∨ (¬ arT c.kd < 0 ∧ (nv : Int) ≠ arT c.kd) ∨ (¬ arT c.kd < 0 ∧ (nv : Int) = arT c.kd) by omega) with hy | hy | hy
    · have hpre : nodeErr vars d (n + 1) c = 1 := nodeErr_one (by omega) (by omega)
      rw [hpre, if_pos (by decide)] at heq
      refine dk2_seq (w4.heap.size) (w4.heap.size) (ops := regOps Try.f62 4) (N := 14) (by kernel_rfl) wide_orders (by kernel_rfl) fun w6 hw6 B7 hS K11 hK11 => ?_
      have zw6 : w6.heap.size = w4.heap.size := by rw [hw6]
      have sB7 := B7.size
      have hB := hB.trans (B7.mono hB.size)
      have hK := hK.below B7
      have mg := mg.old B7
      have m4 := m4.old B7
      have mg_d := mg
      have m4_d := m4
      have hB_d := hB
      have hK_d := hK
      refine d_val 0 30 (op := (Go.Op.fieldAddr 27 (Go.Operand.tmp 4) 0)) hF hS (by kernel_rfl) (fun W hW => x_fa0 fa27_0 rfl) (by kernel_rfl) (by decide) fun a hF => ?_
      refine d_val 1 31 (op := (Go.Op.load 3 (Go.Operand.tmp 30))) hF hS (by kernel_rfl) (fun W hW => x_load rfl (m_load flat3 ((m4_d.k2 hW (by omega)).cell (j := 0) rfl))) (by kernel_rfl) (by decide) fun a hF => ?_
      refine d_one 2 (some 32) (Go.Op.call (Go.Call.mk (Go.Callee.value (Go.Operand.func 87)) #[(Go.Operand.tmp 31)] #[3])) (by kernel_rfl) (by kernel_rfl) fun ty pos af => ?_
      refine s_callS [_] hF (enters_of Try.func87 (by kernel_rfl) rfl) rfl (by decide) ((kids54 xk w6).mono fun e w' h => ⟨(by rw [h.1, hkd] : e = .returned (.int .i64 (arT c.kd))), h.2⟩) fun a hF => ?_
      refine s_end ⟨hS, ?_⟩
      refine d_val 3 33 (op := (Go.Op.binOp Go.BinOp.lss 3 (Go.Operand.tmp 32) (Go.Operand.const (Go.Value.int Go.IntKind.i64 0)) 3)) hF hS (by kernel_rfl) (fun W hW => x_lss (b := true) (decide_eq_true (by omega)) rfl rfl) (by kernel_rfl) (by decide) fun a hF => ?_
      refine d_val 4 34 (op := (Go.Op.move (Go.Operand.tmp 33))) hF hS (by kernel_rfl) (fun W hW => x_move rfl) (by kernel_rfl) (by decide) fun a hF => ?_
      refine d_skip 5 35 34 (j := 4) (want := false) (op := (Go.Op.fieldAddr 27 (Go.Operand.tmp 4) 5)) hF hS (by kernel_rfl) (by kernel_rfl) rfl (by kernel_rfl) (by decide) fun a hF => ?_
      refine d_skip 6 36 34 (j := 4) (want := false) (op := (Go.Op.load 25 (Go.Operand.tmp 35))) hF hS (by kernel_rfl) (by kernel_rfl) rfl (by kernel_rfl) (by decide) fun a hF => ?_
      refine d_skip 7 37 34 (j := 4) (want := false) (op := (Go.Op.call (Go.Call.mk (Go.Callee.builtin Go.Builtin.len) #[(Go.Operand.tmp 36)] #[25]))) hF hS (by kernel_rfl) (by kernel_rfl) rfl (by kernel_rfl) (by decide) fun a hF => ?_
      refine d_skip 8 38 34 (j := 4) (want := false) (op := (Go.Op.fieldAddr 27 (Go.Operand.tmp 4) 0)) hF hS (by kernel_rfl) (by kernel_rfl) rfl (by kernel_rfl) (by decide) fun a hF => ?_
      refine d_skip 9 39 34 (j := 4) (want := false) (op := (Go.Op.load 3 (Go.Operand.tmp 38))) hF hS (by kernel_rfl) (by kernel_rfl) rfl (by kernel_rfl) (by decide) fun a hF => ?_
      refine d_skip 10 40 34 (j := 4) (want := false) (op := (Go.Op.call (Go.Call.mk (Go.Callee.value (Go.Operand.func 87)) #[(Go.Operand.tmp 39)] #[3]))) hF hS (by kernel_rfl) (by kernel_rfl) rfl (by kernel_rfl) (by decide) fun a hF => ?_
      refine d_skip 11 41 34 (j := 4) (want := false) (op := (Go.Op.binOp Go.BinOp.neq 3 (Go.Operand.tmp 37) (Go.Operand.tmp 40) 3)) hF hS (by kernel_rfl) (by kernel_rfl) rfl (by kernel_rfl) (by decide) fun a hF => ?_
      refine d_val 12 42 (op := (Go.Op.pick (Go.Operand.tmp 34) (Go.Operand.const (Go.Value.bool true)) (Go.Operand.tmp 41))) hF hS (by kernel_rfl) (fun W hW => x_pick (b := true) rfl rfl) (by kernel_rfl) (by decide) fun a hF => ?_
      refine d_val 13 29 (op := (Go.Op.assign (Go.Operand.tmp 42))) hF hS (by kernel_rfl) (fun W hW => x_assign rfl) (by kernel_rfl) (by decide) fun a hF => ?_
      refine d_end (by kernel_rfl) (hK11 _ _ ?_)
      refine wp_if hF rfl ?_
      refine wp_rs fun K12 hK12 => ?_
      refine s_val hF (x_assign rfl) (by decide) fun a hF => ?_
      refine s_end (hK12 _ _ ?_)
      refine wp_ret (inb_ret (then_ret (res_slot hF rfl rfl ⟨_, rfl, ⟨by rw [heq], by rw [heq]; exact mg⟩, hK⟩)))
    · have hpre : nodeErr vars d (n + 1) c = 1 := nodeErr_one (by omega) (by omega)
      rw [hpre, if_pos (by decide)] at heq
      refine dk2_seq (w4.heap.size) (w4.heap.size) (ops := regOps Try.f62 4) (N := 14) (by kernel_rfl) wide_orders (by kernel_rfl) fun w8 hw8 B9 hS K13 hK13 => ?_
      have zw8 : w8.heap.size = w4.heap.size := by rw [hw8]
      have sB9 := B9.size
      have hB := hB.trans (B9.mono hB.size)
      have hK := hK.below B9
      have mg := mg.old B9
      have m4 := m4.old B9
      have mg_d := mg
      have m4_d := m4
      have hB_d := hB
      have hK_d := hK
      refine d_val 0 30 (op := (Go.Op.fieldAddr 27 (Go.Operand.tmp 4) 0)) hF hS (by kernel_rfl) (fun W hW => x_fa0 fa27_0 rfl) (by kernel_rfl) (by decide) fun a hF => ?_
      refine d_val 1 31 (op := (Go.Op.load 3 (Go.Operand.tmp 30))) hF hS (by kernel_rfl) (fun W hW => x_load rfl (m_load flat3 ((m4_d.k2 hW (by omega)).cell (j := 0) rfl))) (by kernel_rfl) (by decide) fun a hF => ?_
      refine d_one 2 (some 32) (Go.Op.call (Go.Call.mk (Go.Callee.value (Go.Operand.func 87)) #[(Go.Operand.tmp 31)] #[3])) (by kernel_rfl) (by kernel_rfl) fun ty pos af => ?_
      refine s_callS [_] hF (enters_of Try.func87 (by kernel_rfl) rfl) rfl (by decide) ((kids54 xk w8).mono fun e w' h => ⟨(by rw [h.1, hkd] : e = .returned (.int .i64 (arT c.kd))), h.2⟩) fun a hF => ?_
      refine s_end ⟨hS, ?_⟩
      refine d_val 3 33 (op := (Go.Op.binOp Go.BinOp.lss 3 (Go.Operand.tmp 32) (Go.Operand.const (Go.Value.int Go.IntKind.i64 0)) 3)) hF hS (by kernel_rfl) (fun W hW => x_lss (b := false) (decide_eq_false (by omega)) rfl rfl) (by kernel_rfl) (by decide) fun a hF => ?_
      refine d_val 4 34 (op := (Go.Op.move (Go.Operand.tmp 33))) hF hS (by kernel_rfl) (fun W hW => x_move rfl) (by kernel_rfl) (by decide) fun a hF => ?_
      refine d_valg 5 35 34 (j := 4) (want := false) (op := (Go.Op.fieldAddr 27 (Go.Operand.tmp 4) 5)) hF hS (by kernel_rfl) (by kernel_rfl) rfl (fun W hW => x_fa0 fa27_5 rfl) (by kernel_rfl) (by decide) fun a hF => ?_
      refine d_valg 6 36 34 (j := 4) (want := false) (op := (Go.Op.load 25 (Go.Operand.tmp 35))) hF hS (by kernel_rfl) (by kernel_rfl) rfl (fun W hW => x_load rfl (m_load flat25 ((m4_d.k2 hW (by omega)).cell (j := 7) rfl))) (by kernel_rfl) (by decide) fun a hF => ?_
      refine d_valg 7 37 34 (j := 4) (want := false) (op := (Go.Op.call (Go.Call.mk (Go.Callee.builtin Go.Builtin.len) #[(Go.Operand.tmp 36)] #[25]))) hF hS (by kernel_rfl) (by kernel_rfl) rfl (fun W hW => x_len Try.underlying25 rfl) (by kernel_rfl) (by decide) fun a hF => ?_
      refine d_valg 8 38 34 (j := 4) (want := false) (op := (Go.Op.fieldAddr 27 (Go.Operand.tmp 4) 0)) hF hS (by kernel_rfl) (by kernel_rfl) rfl (fun W hW => x_fa0 fa27_0 rfl) (by kernel_rfl) (by decide) fun a hF => ?_
      refine d_valg 9 39 34 (j := 4) (want := false) (op := (Go.Op.load 3 (Go.Operand.tmp 38))) hF hS (by kernel_rfl) (by kernel_rfl) rfl (fun W hW => x_load rfl (m_load flat3 ((m4_d.k2 hW (by omega)).cell (j := 0) rfl))) (by kernel_rfl) (by decide) fun a hF => ?_
      refine d_oneg 10 34 (some 40) (Go.Op.call (Go.Call.mk (Go.Callee.value (Go.Operand.func 87)) #[(Go.Operand.tmp 39)] #[3])) (j := 4) (want := false) hF (by kernel_rfl) (by kernel_rfl) (by kernel_rfl) rfl fun ty pos af => ?_
      refine s_callS [_] hF (enters_of Try.func87 (by kernel_rfl) rfl) rfl (by decide) ((kids54 xk w8).mono fun e w' h => ⟨(by rw [h.1, hkd] : e = .returned (.int .i64 (arT c.kd))), h.2⟩) fun a hF => ?_
      refine s_end ⟨hS, ?_⟩
      refine d_valg 11 41 34 (j := 4) (want := false) (op := (Go.Op.binOp Go.BinOp.neq 3 (Go.Operand.tmp 37) (Go.Operand.tmp 40) 3)) hF hS (by kernel_rfl) (by kernel_rfl) rfl (fun W hW => x_neq (b := true) (decide_eq_true (by omega)) rfl rfl) (by kernel_rfl) (by decide) fun a hF => ?_
      refine d_val 12 42 (op := (Go.Op.pick (Go.Operand.tmp 34) (Go.Operand.const (Go.Value.bool true)) (Go.Operand.tmp 41))) hF hS (by kernel_rfl) (fun W hW => x_pick (b := false) rfl rfl) (by kernel_rfl) (by decide) fun a hF => ?_
      refine d_val 13 29 (op := (Go.Op.assign (Go.Operand.tmp 42))) hF hS (by kernel_rfl) (fun W hW => x_assign rfl) (by kernel_rfl) (by decide) fun a hF => ?_
      refine d_end (by kernel_rfl) (hK13 _ _ ?_)
      refine wp_if hF rfl ?_
      refine wp_rs fun K14 hK14 => ?_
      refine s_val hF (x_assign rfl) (by decide) fun a hF => ?_
      refine s_end (hK14 _ _ ?_)
      refine wp_ret (inb_ret (then_ret (res_slot hF rfl rfl ⟨_, rfl, ⟨by rw [heq], by rw [heq]; exact mg⟩, hK⟩)))
    · skip
      refine dk2_seq (w4.heap.size) (w4.heap.size) (ops := regOps Try.f62 4) (N := 14) (by kernel_rfl) wide_orders (by kernel_rfl) fun w10 hw10 B11 hS K15 hK15 => ?_
      have zw10 : w10.heap.size = w4.heap.size := by rw [hw10]
      have sB11 := B11.size
      have hB := hB.trans (B11.mono hB.size)
      have hK := hK.below B11
      have mg := mg.old B11
      have m4 := m4.old B11
      have mg_d := mg
      have m4_d := m4
      have hB_d := hB
      have hK_d := hK
      refine d_val 0 30 (op := (Go.Op.fieldAddr 27 (Go.Operand.tmp 4) 0)) hF hS (by kernel_rfl) (fun W hW => x_fa0 fa27_0 rfl) (by kernel_rfl) (by decide) fun a hF => ?_
      refine d_val 1 31 (op := (Go.Op.load 3 (Go.Operand.tmp 30))) hF hS (by kernel_rfl) (fun W hW => x_load rfl (m_load flat3 ((m4_d.k2 hW (by omega)).cell (j := 0) rfl))) (by kernel_rfl) (by decide) fun a hF => ?_
      refine d_one 2 (some 32) (Go.Op.call (Go.Call.mk (Go.Callee.value (Go.Operand.func 87)) #[(Go.Operand.tmp 31)] #[3])) (by kernel_rfl) (by kernel_rfl) fun ty pos af => ?_
      refine s_callS [_] hF (enters_of Try.func87 (by kernel_rfl) rfl) rfl (by decide) ((kids54 xk w10).mono fun e w' h => ⟨(by rw [h.1, hkd] : e = .returned (.int .i64 (arT c.kd))), h.2⟩) fun a hF => ?_
      refine s_end ⟨hS, ?_⟩
      refine d_val 3 33 (op := (Go.Op.binOp Go.BinOp.lss 3 (Go.Operand.tmp 32) (Go.Operand.const (Go.Value.int Go.IntKind.i64 0)) 3)) hF hS (by kernel_rfl) (fun W hW => x_lss (b := false) (decide_eq_false (by omega)) rfl rfl) (by kernel_rfl) (by decide) fun a hF => ?_
      refine d_val 4 34 (op := (Go.Op.move (Go.Operand.tmp 33))) hF hS (by kernel_rfl) (fun W hW => x_move rfl) (by kernel_rfl) (by decide) fun a hF => ?_
      refine d_valg 5 35 34 (j := 4) (want := false) (op := (Go.Op.fieldAddr 27 (Go.Operand.tmp 4) 5)) hF hS (by kernel_rfl) (by kernel_rfl) rfl (fun W hW => x_fa0 fa27_5 rfl) (by kernel_rfl) (by decide) fun a hF => ?_
      refine d_valg 6 36 34 (j := 4) (want := false) (op := (Go.Op.load 25 (Go.Operand.tmp 35))) hF hS (by kernel_rfl) (by kernel_rfl) rfl (fun W hW => x_load rfl (m_load flat25 ((m4_d.k2 hW (by omega)).cell (j := 7) rfl))) (by kernel_rfl) (by decide) fun a hF => ?_
      refine d_valg 7 37 34 (j := 4) (want := false) (op := (Go.Op.call (Go.Call.mk (Go.Callee.builtin Go.Builtin.len) #[(Go.Operand.tmp 36)] #[25]))) hF hS (by kernel_rfl) (by kernel_rfl) rfl (fun W hW => x_len Try.underlying25 rfl) (by kernel_rfl) (by decide) fun a hF => ?_
      refine d_valg 8 38 34 (j := 4) (want := false) (op := (Go.Op.fieldAddr 27 (Go.Operand.tmp 4) 0)) hF hS (by kernel_rfl) (by kernel_rfl) rfl (fun W hW => x_fa0 fa27_0 rfl) (by kernel_rfl) (by decide) fun a hF => ?_
      refine d_valg 9 39 34 (j := 4) (want := false) (op := (Go.Op.load 3 (Go.Operand.tmp 38))) hF hS (by kernel_rfl) (by kernel_rfl) rfl (fun W hW => x_load rfl (m_load flat3 ((m4_d.k2 hW (by omega)).cell (j := 0) rfl))) (by kernel_rfl) (by decide) fun a hF => ?_
      refine d_oneg 10 34 (some 40) (Go.Op.call (Go.Call.mk (Go.Callee.value (Go.Operand.func 87)) #[(Go.Operand.tmp 39)] #[3])) (j := 4) (want := false) hF (by kernel_rfl) (by kernel_rfl) (by kernel_rfl) rfl fun ty pos af => ?_
      refine s_callS [_] hF (enters_of Try.func87 (by kernel_rfl) rfl) rfl (by decide) ((kids54 xk w10).mono fun e w' h => ⟨(by rw [h.1, hkd] : e = .returned (.int .i64 (arT c.kd))), h.2⟩) fun a hF => ?_
      refine s_end ⟨hS, ?_⟩
      refine d_valg 11 41 34 (j := 4) (want := false) (op := (Go.Op.binOp Go.BinOp.neq 3 (Go.Operand.tmp 37) (Go.Operand.tmp 40) 3)) hF hS (by kernel_rfl) (by kernel_rfl) rfl (fun W hW => x_neq (b := false) (decide_eq_false (by omega)) rfl rfl) (by kernel_rfl) (by decide) fun a hF => ?_
      refine d_val 12 42 (op := (Go.Op.pick (Go.Operand.tmp 34) (Go.Operand.const (Go.Value.bool true)) (Go.Operand.tmp 41))) hF hS (by kernel_rfl) (fun W hW => x_pick (b := false) rfl rfl) (by kernel_rfl) (by decide) fun a hF => ?_
      refine d_val 13 29 (op := (Go.Op.assign (Go.Operand.tmp 42))) hF hS (by kernel_rfl) (fun W hW => x_assign rfl) (by kernel_rfl) (by decide) fun a hF => ?_
      refine d_end (by kernel_rfl) (hK15 _ _ ?_)
      refine wp_if hF rfl ?_
      rcases (show (xk = 1 ∧ xn < 0) ∨ (xk = 1 ∧ ¬ xn < 0 ∧ 1048576 < xn) ∨ (xk = 1 ∧ ¬ xn < 0 ∧ ¬ 1048576 < xn) ∨ xk = 2 ∨ xk = 7 ∨ (xk ≠ 1 ∧ xk ≠ 2 ∧ xk ≠ 7) by omega) with hq | hq | hq | hq | hq | hq
      · have hlf := nodeErr_leaf (vars := vars) (n := n + 1) (d := d) (c := c) (by omega) (by omega)
        obtain ⟨z, m, rfl⟩ := hx.var_of hq.1
        have hzn : xn = z := hx.2.1
        have hle : leafErr vars (.var z m) = 1 := by simp only [leafErr]; rw [if_pos (by omega)]
        rw [hle] at hlf
        rw [hlf, if_pos (by decide)] at heq
        refine wp_rs fun K17 hK17 => ?_
        refine s_val hF (x_fa0 fa27_0 rfl) (by decide) fun a hF => ?_
        refine s_val hF (x_load rfl (m_load flat3 (m4.cell (j := 0) rfl))) (by decide) fun a hF => ?_
        refine s_val hF (x_eql (b := true) (decide_eq_true (by omega)) rfl rfl) (by decide) fun a hF => ?_
        refine s_val hF (x_move rfl) (by decide) fun a hF => ?_
        refine s_grd 47 hF rfl rfl rfl ?_
        refine s_val hF (x_fa0 fa27_1 rfl) (by decide) fun a hF => ?_
        refine s_grd 47 hF rfl rfl rfl ?_
        refine s_val hF (x_load rfl (m_load flat3 (m4.cell (j := 1) rfl))) (by decide) fun a hF => ?_
        refine s_grd 47 hF rfl rfl rfl ?_
        refine s_val hF (x_lss (b := true) (decide_eq_true (by omega)) rfl rfl) (by decide) fun a hF => ?_
        refine s_grd 47 hF rfl rfl rfl ?_
        refine s_val hF (x_move rfl) (by decide) fun a hF => ?_
        refine s_grdn 51 hF rfl rfl (by decide) fun a hF => ?_
        refine s_grdn 51 hF rfl rfl (by decide) fun a hF => ?_
        refine s_grdn 51 hF rfl rfl (by decide) fun a hF => ?_
        refine s_grd 47 hF rfl rfl rfl ?_
        refine s_val hF (x_pick (b := true) rfl rfl) (by decide) fun a hF => ?_
        refine s_val hF (x_pick (b := true) rfl rfl) (by decide) fun a hF => ?_
        refine s_val hF (x_assign rfl) (by decide) fun a hF => ?_
        refine s_end (hK17 _ _ ?_)
        refine wp_if hF rfl ?_
        refine wp_rs fun K18 hK18 => ?_
        refine s_val hF (x_assign rfl) (by decide) fun a hF => ?_
        refine s_end (hK18 _ _ ?_)
        refine wp_ret (inb_ret (then_ret (res_slot hF rfl rfl ⟨_, rfl, ⟨by rw [heq], by rw [heq]; exact mg⟩, hK⟩)))
      · have hlf := nodeErr_leaf (vars := vars) (n := n + 1) (d := d) (c := c) (by omega) (by omega)
        obtain ⟨z, m, rfl⟩ := hx.var_of hq.1
        have hzn : xn = z := hx.2.1
        have hle : leafErr vars (.var z m) = 1 := by simp only [leafErr]; rw [if_pos (by omega)]
        rw [hle] at hlf
        rw [hlf, if_pos (by decide)] at heq
        refine wp_rs fun K19 hK19 => ?_
        refine s_val hF (x_fa0 fa27_0 rfl) (by decide) fun a hF => ?_
        refine s_val hF (x_load rfl (m_load flat3 (m4.cell (j := 0) rfl))) (by decide) fun a hF => ?_
        refine s_val hF (x_eql (b := true) (decide_eq_true (by omega)) rfl rfl) (by decide) fun a hF => ?_
        refine s_val hF (x_move rfl) (by decide) fun a hF => ?_
        refine s_grd 47 hF rfl rfl rfl ?_
        refine s_val hF (x_fa0 fa27_1 rfl) (by decide) fun a hF => ?_
        refine s_grd 47 hF rfl rfl rfl ?_
        refine s_val hF (x_load rfl (m_load flat3 (m4.cell (j := 1) rfl))) (by decide) fun a hF => ?_
        refine s_grd 47 hF rfl rfl rfl ?_
        refine s_val hF (x_lss (b := false) (decide_eq_false (by omega)) rfl rfl) (by decide) fun a hF => ?_
        refine s_grd 47 hF rfl rfl rfl ?_
        refine s_val hF (x_move rfl) (by decide) fun a hF => ?_
        refine s_grd 51 hF rfl rfl rfl ?_
        refine s_val hF (x_fa0 fa27_1 rfl) (by decide) fun a hF => ?_
        refine s_grd 51 hF rfl rfl rfl ?_
        refine s_val hF (x_load rfl (m_load flat3 (m4.cell (j := 1) rfl))) (by decide) fun a hF => ?_
        refine s_grd 51 hF rfl rfl rfl ?_
        refine s_val hF (x_gtr (b := true) (decide_eq_true (by omega)) rfl rfl) (by decide) fun a hF => ?_
        refine s_grd 47 hF rfl rfl rfl ?_
        refine s_val hF (x_pick (b := false) rfl rfl) (by decide) fun a hF => ?_
        refine s_val hF (x_pick (b := true) rfl rfl) (by decide) fun a hF => ?_
        refine s_val hF (x_assign rfl) (by decide) fun a hF => ?_
        refine s_end (hK19 _ _ ?_)
        refine wp_if hF rfl ?_
        refine wp_rs fun K20 hK20 => ?_
        refine s_val hF (x_assign rfl) (by decide) fun a hF => ?_
        refine s_end (hK20 _ _ ?_)
        refine wp_ret (inb_ret (then_ret (res_slot hF rfl rfl ⟨_, rfl, ⟨by rw [heq], by rw [heq]; exact mg⟩, hK⟩)))
      · have hlf := nodeErr_leaf (vars := vars) (n := n + 1) (d := d) (c := c) (by omega) (by omega)
        obtain ⟨z, m, rfl⟩ := hx.var_of hq.1
        have hzn : xn = z := hx.2.1
        have hle : leafErr vars (.var z m) = 0 := by simp only [leafErr]; rw [if_neg (by omega)]
        rw [hle] at hlf
        rw [hlf, if_neg (by decide)] at heq
        have hk9 := CT.kids_arT2 hx (by omega)
        rw [← hKC] at hk9
        refine wp_rs fun K21 hK21 => ?_
        refine s_val hF (x_fa0 fa27_0 rfl) (by decide) fun a hF => ?_
        refine s_val hF (x_load rfl (m_load flat3 (m4.cell (j := 0) rfl))) (by decide) fun a hF => ?_
        refine s_val hF (x_eql (b := true) (decide_eq_true (by omega)) rfl rfl) (by decide) fun a hF => ?_
        refine s_val hF (x_move rfl) (by decide) fun a hF => ?_
        refine s_grd 47 hF rfl rfl rfl ?_
        refine s_val hF (x_fa0 fa27_1 rfl) (by decide) fun a hF => ?_
        refine s_grd 47 hF rfl rfl rfl ?_
        refine s_val hF (x_load rfl (m_load flat3 (m4.cell (j := 1) rfl))) (by decide) fun a hF => ?_
        refine s_grd 47 hF rfl rfl rfl ?_
        refine s_val hF (x_lss (b := false) (decide_eq_false (by omega)) rfl rfl) (by decide) fun a hF => ?_
        refine s_grd 47 hF rfl rfl rfl ?_
        refine s_val hF (x_move rfl) (by decide) fun a hF => ?_
        refine s_grd 51 hF rfl rfl rfl ?_
        refine s_val hF (x_fa0 fa27_1 rfl) (by decide) fun a hF => ?_
        refine s_grd 51 hF rfl rfl rfl ?_
        refine s_val hF (x_load rfl (m_load flat3 (m4.cell (j := 1) rfl))) (by decide) fun a hF => ?_
        refine s_grd 51 hF rfl rfl rfl ?_
        refine s_val hF (x_gtr (b := false) (decide_eq_false (by omega)) rfl rfl) (by decide) fun a hF => ?_
        refine s_grd 47 hF rfl rfl rfl ?_
        refine s_val hF (x_pick (b := false) rfl rfl) (by decide) fun a hF => ?_
        refine s_val hF (x_pick (b := true) rfl rfl) (by decide) fun a hF => ?_
        refine s_val hF (x_assign rfl) (by decide) fun a hF => ?_
        refine s_end (hK21 _ _ ?_)
        refine wp_if hF rfl ?_
        refine wp_rs fun K22 hK22 => ?_
        refine s_val hF (x_fa0 fa27_0 rfl) (by decide) fun a hF => ?_
        refine s_val hF (x_load rfl (m_load flat3 (m4.cell (j := 0) rfl))) (by decide) fun a hF => ?_
        refine s_val hF (x_eql (b := false) (decide_eq_false (by omega)) rfl rfl) (by decide) fun a hF => ?_
        refine s_val hF (x_assign rfl) (by decide) fun a hF => ?_
        refine s_end (hK22 _ _ ?_)
        refine wp_if hF rfl ?_
        refine wp_rs fun K23 hK23 => ?_
        refine s_val hF (x_fa0 fa27_0 rfl) (by decide) fun a hF => ?_
        refine s_val hF (x_load rfl (m_load flat3 (m4.cell (j := 0) rfl))) (by decide) fun a hF => ?_
        refine s_val hF (x_eql (b := false) (decide_eq_false (by omega)) rfl rfl) (by decide) fun a hF => ?_
        refine s_val hF (x_assign rfl) (by decide) fun a hF => ?_
        refine s_end (hK23 _ _ ?_)
        refine wp_if hF rfl ?_
        refine wp_skip (hK3 _ _ ?_)
        refine wp_seq_k fun K24 hK24 => ?_
        refine wp_rs fun K25 hK25 => ?_
        refine s_val hF (x_fa0 fa27_5 rfl) (by decide) fun a hF => ?_
        refine s_val hF (x_load rfl (m_load flat25 (m4.cell (j := 7) rfl))) (by decide) fun a hF => ?_
        refine s_val hF (x_len Try.underlying25 rfl) (by decide) fun a hF => ?_
        refine s_val hF (x_move rfl) (by decide) fun a hF => ?_
        refine s_end (hK25 _ _ ?_)
        refine wp_block ?_
        refine wp_up nv (fun i a w => ∃ n2 : Nat, mayK vars (KC.drop i) (d + 1) n2 = mayK vars KC (d + 1) (n + 1) ∧ n2 ≤ 400 ∧ Blk w g 3 [.int .i64 (n2 : Int)] ∧ Below w0.heap.size w0 w ∧ Ktw g g w1 w ∧ Fs 108 a [(1, .int .i64 vars), (2, .int .i64 d), (3, .pointer (some ⟨g, 0, none⟩)), (92, .slice av nv cv), (93, .int .i64 (nv : Int)), (94, .int .i64 (i : Int))]) ⟨n + 1, rfl, by omega, mg, hB, hK, hF.sub _ rfl⟩ ?_
        repeat clear hF
        clear hB hK mg m4
        rintro i a w hi ⟨n2, hn2, hn3, mg, hB, hK, hF⟩ K' hK'
        have sB := hB.size
        have sK := hK.size
        have hgl := mg.lt
        refine wp_rs fun K26 hK26 => ?_
        refine s_val hF (x_lss (b := decide (i < nv)) (decide_eq_decide.2 (by omega)) rfl rfl) (by decide) fun a hF => ?_
        refine s_end (hK26 _ _ ?_)
        refine wp_seq_k fun K27 hK27 => ?_
        refine wp_iff hF rfl (fun hc95 => ?_) (fun hc95 => ?_)
        · obtain ⟨b9, off9, c9, y, kd, hve, hyk, hry, hAb, hbl, hrow⟩ := hkid.row (i := i) (by omega)
          cases hve
          have hks := CT.kid_size (hKC ▸ hyk)
          have hkf := CT.fit_kid hfit (hKC ▸ hyk)
          have hma := mayK_at (vars := vars) (d := d + 1) (n := n2) hyk
          rw [hn2] at hma
          refine wp_skip (hK27 _ _ ?_)
          refine wp_seq_k fun K28 hK28 => ?_
          refine wp_block ?_
          refine wp_rs fun K29 hK29 => ?_
          refine s_val hF (x_ixa rfl rfl (m_ixsK i Try.underlying25 el25.size rfl (by omega))) (by decide) fun a hF => ?_
          refine s_val hF (x_ldA wide27 (hrow _ (hB.block _ hbl)) rfl rfl) (by decide) fun a hF => ?_
          refine s_alloc hF (by decide) zero27 fun w12 b13 a eb13 m13 B13 zb13 hF => ?_
          have sB13 := B13.size
          have hB := hB.trans (B13.mono hB.size)
          have hK := hK.below B13
          have mg := mg.old B13
          refine s_putW hF rfl rfl (size_wide wide27) m13 rfl hry.one fun w16 m13 o17 => ?_
          have so17 := o17.size
          have hB := hB.trans (o17.below (by omega))
          have hK := hK.only o17 (by omega)
          have mg := mg.only o17 (by omega)
          refine s_end (hK29 _ _ ?_)
          refine wp_rs fun K30 hK30 => ?_
          refine s_val hF (x_ldW wide27 m13 rfl rfl) (by decide) fun a hF => ?_
          refine s_val hF (x_move rfl) (by decide) fun a hF => ?_
          refine s_val hF (x_move rfl) (by decide) fun a hF => ?_
          refine s_val hF (x_add (by omega) (by omega) rfl rfl) (by decide) fun a hF => ?_
          refine s_val hF (x_move rfl) (by decide) fun a hF => ?_
          refine s_call (R := fun u w' => (u = .int .i64 (kd.mayT vars (d + 1) n2).1 ∧ Blk w' g 3 [.int .i64 (((kd.mayT vars (d + 1) n2).2 : Nat) : Int)]) ∧ Ktw g g w16 w') hF [_, _, _, _] (enters_of Try.func62 (by kernel_rfl) rfl) rfl (by decide) (ih kd y (by omega) hry hkf (d + 1) n2 w16 (by omega) (by omega) hn3 hB mg) ?_
          rintro _ w18 a ⟨⟨rfl, mg⟩, k19⟩ hF
          have sk19 := k19.size
          have hB := k19.under hB (by omega)
          have hK := hK.trans k19 (by omega)
          have m13 := m13.k2 k19 (by omega)
          refine s_val hF (x_assign rfl) (by decide) fun a hF => ?_
          refine s_end (hK30 _ _ ?_)
          refine wp_rs fun K31 hK31 => ?_
          refine s_val hF (x_move rfl) (by decide) fun a hF => ?_
          refine s_val hF (x_neq rfl rfl rfl) (by decide) fun a hF => ?_
          refine s_end (hK31 _ _ ?_)
          refine wp_iff hF rfl (fun hc105 => ?_) (fun hc105 => ?_)
          · rw [if_pos hc105] at hma
            rw [hma] at heq
            refine wp_rs fun K32 hK32 => ?_
            refine s_val hF (x_move rfl) (by decide) fun a hF => ?_
            refine s_val hF (x_assign rfl) (by decide) fun a hF => ?_
            refine s_end (hK32 _ _ ?_)
            refine wp_ret (inb_ret (then_ret (then_ret (inb_ret (then_ret (res_slot hF rfl rfl ⟨_, rfl, ⟨by rw [heq], by rw [heq]; exact mg⟩, hK⟩))))))
          · rw [if_neg hc105] at hma
            have hmz := may_zero (vars := vars) kd y (d + 1) n2 hry (by omega)
            refine wp_skip (hK28 _ _ ?_)
            refine wp_region_lit ?_
            refine s_val hF (x_addn (i + 1) (by omega) (by omega) rfl rfl) (by decide) fun a hF => ?_
            refine s_val hF (x_move rfl) (by decide) fun a hF => ?_
            refine s_end (hK' _ _ (by omega) ⟨_, hma.symm, by omega, mg, hB, hK, hF.sub _ rfl⟩)
        · obtain rfl : i = nv := by omega
          rw [List.drop_of_length_le (by omega), mayK] at hn2
          rw [← hn2] at heq
          refine wp_exit (hK24 _ _ ?_)
          refine wp_rs fun K33 hK33 => ?_
          refine s_val hF (x_assign rfl) (by decide) fun a hF => ?_
          refine s_end (hK33 _ _ ?_)
          refine wp_ret (res_slot hF rfl rfl ⟨_, rfl, ⟨by rw [heq], by rw [heq]; exact mg⟩, hK⟩)
      · obtain ⟨l, m, rfl⟩ := hx.sort_of hq
        refine wp_rs fun K34 hK34 => ?_
        refine s_val hF (x_fa0 fa27_0 rfl) (by decide) fun a hF => ?_
        refine s_val hF (x_load rfl (m_load flat3 (m4.cell (j := 0) rfl))) (by decide) fun a hF => ?_
        refine s_val hF (x_eql (b := false) (decide_eq_false (by omega)) rfl rfl) (by decide) fun a hF => ?_
        refine s_val hF (x_move rfl) (by decide) fun a hF => ?_
        refine s_grdn 47 hF rfl rfl (by decide) fun a hF => ?_
        refine s_grdn 47 hF rfl rfl (by decide) fun a hF => ?_
        refine s_grdn 47 hF rfl rfl (by decide) fun a hF => ?_
        refine s_grdn 47 hF rfl rfl (by decide) fun a hF => ?_
        refine s_grdu 51 hF rfl rfl (by decide) fun a hF => ?_
        refine s_grdu 51 hF rfl rfl (by decide) fun a hF => ?_
        refine s_grdu 51 hF rfl rfl (by decide) fun a hF => ?_
        refine s_grdn 47 hF rfl rfl (by decide) fun a hF => ?_
        refine s_val hF (x_pick (b := false) rfl rfl) (by decide) fun a hF => ?_
        refine s_val hF (x_assign rfl) (by decide) fun a hF => ?_
        refine s_end (hK34 _ _ ?_)
        refine wp_if hF rfl ?_
        refine wp_rs fun K35 hK35 => ?_
        refine s_val hF (x_fa0 fa27_0 rfl) (by decide) fun a hF => ?_
        refine s_val hF (x_load rfl (m_load flat3 (m4.cell (j := 0) rfl))) (by decide) fun a hF => ?_
        refine s_val hF (x_eql (b := true) (decide_eq_true (by omega)) rfl rfl) (by decide) fun a hF => ?_
        refine s_val hF (x_assign rfl) (by decide) fun a hF => ?_
        refine s_end (hK35 _ _ ?_)
        refine wp_if hF rfl ?_
        refine wp_rs fun K36 hK36 => ?_
        refine s_val hF (x_fa0 fa27_3 rfl) (by decide) fun a hF => ?_
        refine s_val hF (x_load rfl (m_loadP (vs := [_, _, _]) wide24 m4 rfl)) (by decide) fun a hF => ?_
        refine s_val hF (x_move rfl) (by decide) fun a hF => ?_
        have hl9 : RLn w0 _ xl l := hx.2.1
        refine s_callB [_, _] hF (enters_of Try.func42 (by kernel_rfl) rfl) rfl (by decide) (rmay14 xl l vars w10 ((hl9.keep hB.size (fun k hk _ => hB.block k hk)).rl)) fun w20 a B21 hF => ?_
        have sB21 := B21.size
        have hB := hB.trans (B21.mono hB.size)
        have hK := hK.below B21
        have mg := mg.old B21
        have m4 := m4.old B21
        refine s_val hF (x_assign rfl) (by decide) fun a hF => ?_
        refine s_end (hK36 _ _ ?_)
        have hcs : (CT.sort l m).mayT vars d n = ((chk 32 1048576 vars 1 100 l).1, n + 1) := by simp only [CT.mayT]; rw [nodeErr_leaf (by omega) (by omega)]; rfl
        refine wp_ret (inb_ret (then_ret (res_slot hF rfl rfl ⟨_, rfl, ⟨by rw [hcs], by rw [hcs]; exact mg⟩, hK⟩)))
      · have hlf := nodeErr_leaf (vars := vars) (n := n + 1) (d := d) (c := c) (by omega) (by omega)
        obtain ⟨s, ls, m, rfl⟩ := hx.cst_of hq
        have hs9 : xs = s := hx.2.1
        have hls9 : RVn w0 _ xls ls := hx.2.2.1
        obtain ⟨la, lcp, hlv, _, _⟩ := hls9.form
        subst hs9 hlv
        refine wp_rs fun K37 hK37 => ?_
        refine s_val hF (x_fa0 fa27_0 rfl) (by decide) fun a hF => ?_
        refine s_val hF (x_load rfl (m_load flat3 (m4.cell (j := 0) rfl))) (by decide) fun a hF => ?_
        refine s_val hF (x_eql (b := false) (decide_eq_false (by omega)) rfl rfl) (by decide) fun a hF => ?_
        refine s_val hF (x_move rfl) (by decide) fun a hF => ?_
        refine s_grdn 47 hF rfl rfl (by decide) fun a hF => ?_
        refine s_grdn 47 hF rfl rfl (by decide) fun a hF => ?_
        refine s_grdn 47 hF rfl rfl (by decide) fun a hF => ?_
        refine s_grdn 47 hF rfl rfl (by decide) fun a hF => ?_
        refine s_grdu 51 hF rfl rfl (by decide) fun a hF => ?_
        refine s_grdu 51 hF rfl rfl (by decide) fun a hF => ?_
        refine s_grdu 51 hF rfl rfl (by decide) fun a hF => ?_
        refine s_grdn 47 hF rfl rfl (by decide) fun a hF => ?_
        refine s_val hF (x_pick (b := false) rfl rfl) (by decide) fun a hF => ?_
        refine s_val hF (x_assign rfl) (by decide) fun a hF => ?_
        refine s_end (hK37 _ _ ?_)
        refine wp_if hF rfl ?_
        refine wp_rs fun K38 hK38 => ?_
        refine s_val hF (x_fa0 fa27_0 rfl) (by decide) fun a hF => ?_
        refine s_val hF (x_load rfl (m_load flat3 (m4.cell (j := 0) rfl))) (by decide) fun a hF => ?_
        refine s_val hF (x_eql (b := false) (decide_eq_false (by omega)) rfl rfl) (by decide) fun a hF => ?_
        refine s_val hF (x_assign rfl) (by decide) fun a hF => ?_
        refine s_end (hK38 _ _ ?_)
        refine wp_if hF rfl ?_
        refine wp_rs fun K39 hK39 => ?_
        refine s_val hF (x_fa0 fa27_0 rfl) (by decide) fun a hF => ?_
        refine s_val hF (x_load rfl (m_load flat3 (m4.cell (j := 0) rfl))) (by decide) fun a hF => ?_
        refine s_val hF (x_eql (b := true) (decide_eq_true (by omega)) rfl rfl) (by decide) fun a hF => ?_
        refine s_val hF (x_assign rfl) (by decide) fun a hF => ?_
        refine s_end (hK39 _ _ ?_)
        refine wp_if hF rfl ?_
        refine wp_seq_k fun K40 hK40 => ?_
        rcases (show nameB xs = false ∨ nameB xs = true by cases nameB xs <;> simp) with hw | hw
        · have hle : leafErr vars (.cst xs ls m) = 8 := by simp only [leafErr]; rw [if_pos hw]
          rw [hle] at hlf
          rw [hlf, if_pos (by decide)] at heq
          refine wp_rs fun K42 hK42 => ?_
          refine s_val hF (x_fa0 fa27_2 rfl) (by decide) fun a hF => ?_
          refine s_val hF (x_load rfl (m_load flat9 (m4.cell (j := 2) rfl))) (by decide) fun a hF => ?_
          refine s_callS [_] hF (enters_of Try.func28 (by kernel_rfl) rfl) rfl (by decide) ((rName32 xs w10 hfit.1).mono fun e w' h => ⟨by rw [h.1, hw], h.2⟩) fun a hF => ?_
          refine s_val hF (x_not rfl) (by decide) fun a hF => ?_
          refine s_end (hK42 _ _ ?_)
          refine wp_if hF rfl ?_
          refine wp_rs fun K43 hK43 => ?_
          refine s_val hF (x_assign rfl) (by decide) fun a hF => ?_
          refine s_end (hK43 _ _ ?_)
          refine wp_ret (then_ret (inb_ret (then_ret (res_slot hF rfl rfl ⟨_, rfl, ⟨by rw [heq], by rw [heq]; exact mg⟩, hK⟩))))
        · skip
          refine wp_rs fun K44 hK44 => ?_
          refine s_val hF (x_fa0 fa27_2 rfl) (by decide) fun a hF => ?_
          refine s_val hF (x_load rfl (m_load flat9 (m4.cell (j := 2) rfl))) (by decide) fun a hF => ?_
          refine s_callS [_] hF (enters_of Try.func28 (by kernel_rfl) rfl) rfl (by decide) ((rName32 xs w10 hfit.1).mono fun e w' h => ⟨by rw [h.1, hw], h.2⟩) fun a hF => ?_
          refine s_val hF (x_not rfl) (by decide) fun a hF => ?_
          refine s_end (hK44 _ _ ?_)
          refine wp_if hF rfl ?_
          refine wp_skip (hK40 _ _ ?_)
          refine wp_seq_k fun K45 hK45 => ?_
          rcases (show 6 < (ls.length : Int) ∨ ¬ 6 < (ls.length : Int) by omega) with hv | hv
          · have hle : leafErr vars (.cst xs ls m) = 2 := by simp only [leafErr]; rw [if_neg (by rw [hw]; decide), if_pos (by omega)]
            rw [hle] at hlf
            rw [hlf, if_pos (by decide)] at heq
            refine wp_rs fun K47 hK47 => ?_
            refine s_val hF (x_fa0 fa27_4 rfl) (by decide) fun a hF => ?_
            refine s_val hF (x_load rfl (m_load flat22 (m4.cell (j := 6) rfl))) (by decide) fun a hF => ?_
            refine s_val hF (x_len Try.underlying22 rfl) (by decide) fun a hF => ?_
            refine s_val hF (x_gtr (b := true) (decide_eq_true (by omega)) rfl rfl) (by decide) fun a hF => ?_
            refine s_end (hK47 _ _ ?_)
            refine wp_if hF rfl ?_
            refine wp_rs fun K48 hK48 => ?_
            refine s_val hF (x_assign rfl) (by decide) fun a hF => ?_
            refine s_end (hK48 _ _ ?_)
            refine wp_ret (then_ret (inb_ret (then_ret (res_slot hF rfl rfl ⟨_, rfl, ⟨by rw [heq], by rw [heq]; exact mg⟩, hK⟩))))
          · have hle0 : leafErr vars (.cst xs ls m) = fstErr vars ls := by simp only [leafErr]; rw [if_neg (by rw [hw]; decide), if_neg (by omega)]
            refine wp_rs fun K49 hK49 => ?_
            refine s_val hF (x_fa0 fa27_4 rfl) (by decide) fun a hF => ?_
            refine s_val hF (x_load rfl (m_load flat22 (m4.cell (j := 6) rfl))) (by decide) fun a hF => ?_
            refine s_val hF (x_len Try.underlying22 rfl) (by decide) fun a hF => ?_
            refine s_val hF (x_gtr (b := false) (decide_eq_false (by omega)) rfl rfl) (by decide) fun a hF => ?_
            refine s_end (hK49 _ _ ?_)
            refine wp_if hF rfl ?_
            refine wp_skip (hK45 _ _ ?_)
            refine wp_rs fun K50 hK50 => ?_
            refine s_val hF (x_fa0 fa27_4 rfl) (by decide) fun a hF => ?_
            refine s_val hF (x_load rfl (m_load flat22 (m4.cell (j := 6) rfl))) (by decide) fun a hF => ?_
            refine s_val hF (x_len Try.underlying22 rfl) (by decide) fun a hF => ?_
            refine s_val hF (x_move rfl) (by decide) fun a hF => ?_
            refine s_end (hK50 _ _ ?_)
            refine wp_block ?_
            refine wp_up ls.length (fun i a w => leafErr vars (.cst xs ls m) = fstErr vars (ls.drop i) ∧ Blk w g 3 [.int .i64 ((n + 1 : Nat) : Int)] ∧ Blk w b4 27 [.int .i64 xk, .int .i64 xn, .string xs, .int .i64 xl.1, .int .i64 xl.2.1, xl.2.2, .slice la ls.length lcp, .slice av nv cv] ∧ Below w0.heap.size w0 w ∧ Ktw g g w1 w ∧ Fs 108 a [(1, .int .i64 vars), (2, .int .i64 d), (3, .pointer (some ⟨g, 0, none⟩)), (4, .pointer (some ⟨b4, 0, none⟩)), (78, .slice la ls.length lcp), (79, .int .i64 (ls.length : Int)), (80, .int .i64 (i : Int))]) ⟨by simpa using hle0, mg, m4, hB, hK, hF.sub _ rfl⟩ ?_
            have hb4 : b4 ≠ g ∧ w1.heap.size ≤ b4 := by omega
            repeat clear hF
            clear hB hK mg m4
            rintro i a w hi ⟨hlei, mg, m4, hB, hK, hF⟩ K' hK'
            have sB := hB.size
            have sK := hK.size
            have hgl := mg.lt
            have h4l := m4.lt
            refine wp_rs fun K51 hK51 => ?_
            refine s_val hF (x_lss (b := decide (i < ls.length)) (decide_eq_decide.2 (by omega)) rfl rfl) (by decide) fun a hF => ?_
            refine s_end (hK51 _ _ ?_)
            refine wp_seq_k fun K52 hK52 => ?_
            refine wp_iff hF rfl (fun hc81 => ?_) (fun hc81 => ?_)
            · obtain ⟨b9, off9, c9, y, l, hve, hl, hry, hAb, hbl, hrow⟩ := hls9.row (i := i) (by omega)
              cases hve
              have hfe := fstErr_at (vars := vars) hl
              have h1y := hry.rl.one1
              refine wp_skip (hK52 _ _ ?_)
              refine wp_seq_k fun K53 hK53 => ?_
              refine wp_block ?_
              refine wp_rs fun K54 hK54 => ?_
              refine s_val hF (x_ixa rfl rfl (m_ixsK i Try.underlying22 el22.size rfl (by omega))) (by decide) fun a hF => ?_
              refine s_val hF (x_ldA wide24 (hrow _ (hB.block _ hbl)) rfl rfl) (by decide) fun a hF => ?_
              refine s_alloc hF (by decide) zero24 fun w22 b10 a eb10 m10 B23 zb10 hF => ?_
              have sB23 := B23.size
              have hB := hB.trans (B23.mono hB.size)
              have hK := hK.below B23
              have mg := mg.old B23
              have m4 := m4.old B23
              refine s_putW hF rfl rfl (size_wide wide24) m10 rfl (one_lc h1y) fun w26 m10 o27 => ?_
              have so27 := o27.size
              have hB := hB.trans (o27.below (by omega))
              have hK := hK.only o27 (by omega)
              have mg := mg.only o27 (by omega)
              have m4 := m4.only o27 (by omega)
              refine s_end (hK54 _ _ ?_)
              refine wp_rs fun K55 hK55 => ?_
              refine s_val hF (x_ldW wide24 m10 rfl rfl) (by decide) fun a hF => ?_
              refine s_val hF (x_move rfl) (by decide) fun a hF => ?_
              refine s_callB [_, _] hF (enters_of Try.func42 (by kernel_rfl) rfl) rfl (by decide) (rmay14 y l vars w26 ((hry.keep hB.size (fun k hk _ => hB.block k hk)).rl)) fun w28 a B29 hF => ?_
              have sB29 := B29.size
              have hB := hB.trans (B29.mono hB.size)
              have hK := hK.below B29
              have mg := mg.old B29
              have m4 := m4.old B29
              have m10 := m10.old B29
              refine s_val hF (x_assign rfl) (by decide) fun a hF => ?_
              refine s_end (hK55 _ _ ?_)
              refine wp_rs fun K56 hK56 => ?_
              refine s_val hF (x_move rfl) (by decide) fun a hF => ?_
              refine s_val hF (x_neq rfl rfl rfl) (by decide) fun a hF => ?_
              refine s_end (hK56 _ _ ?_)
              refine wp_iff hF rfl (fun hc88 => ?_) (fun hc88 => ?_)
              · rw [hfe, if_pos hc88] at hlei
                rw [hlei] at hlf
                rw [hlf, if_pos hc88] at heq
                refine wp_rs fun K57 hK57 => ?_
                refine s_val hF (x_move rfl) (by decide) fun a hF => ?_
                refine s_val hF (x_assign rfl) (by decide) fun a hF => ?_
                refine s_end (hK57 _ _ ?_)
                refine wp_ret (inb_ret (then_ret (then_ret (inb_ret (inb_ret (then_ret (res_slot hF rfl rfl ⟨_, rfl, ⟨by rw [heq], by rw [heq]; exact mg⟩, hK⟩)))))))
              · rw [hfe, if_neg hc88] at hlei
                refine wp_skip (hK53 _ _ ?_)
                refine wp_region_lit ?_
                refine s_val hF (x_addn (i + 1) (by omega) (by have := hfit.2; omega) rfl rfl) (by decide) fun a hF => ?_
                refine s_val hF (x_move rfl) (by decide) fun a hF => ?_
                refine s_end (hK' _ _ (by omega) ⟨hlei, mg, m4, hB, hK, hF.sub _ rfl⟩)
            · obtain rfl : i = ls.length := by omega
              rw [List.drop_length] at hlei
              rw [hlei] at hlf
              have hlf : nodeErr vars d (n + 1) (.cst xs ls m) = 0 := hlf
              rw [hlf, if_neg (by decide)] at heq
              have hk9 := CT.kids_arT2 hx (by omega)
              rw [← hKC] at hk9
              refine wp_exit (hK3 _ _ ?_)
              refine wp_seq_k fun K58 hK58 => ?_
              refine wp_rs fun K59 hK59 => ?_
              refine s_val hF (x_fa0 fa27_5 rfl) (by decide) fun a hF => ?_
              refine s_val hF (x_load rfl (m_load flat25 (m4.cell (j := 7) rfl))) (by decide) fun a hF => ?_
              refine s_val hF (x_len Try.underlying25 rfl) (by decide) fun a hF => ?_
              refine s_val hF (x_move rfl) (by decide) fun a hF => ?_
              refine s_end (hK59 _ _ ?_)
              refine wp_block ?_
              refine wp_up nv (fun i a w => ∃ n2 : Nat, mayK vars (KC.drop i) (d + 1) n2 = mayK vars KC (d + 1) (n + 1) ∧ n2 ≤ 400 ∧ Blk w g 3 [.int .i64 (n2 : Int)] ∧ Below w0.heap.size w0 w ∧ Ktw g g w1 w ∧ Fs 108 a [(1, .int .i64 vars), (2, .int .i64 d), (3, .pointer (some ⟨g, 0, none⟩)), (92, .slice av nv cv), (93, .int .i64 (nv : Int)), (94, .int .i64 (i : Int))]) ⟨n + 1, rfl, by omega, mg, hB, hK, hF.sub _ rfl⟩ ?_
              repeat clear hF
              clear hB hK mg m4
              rintro i a w hi ⟨n2, hn2, hn3, mg, hB, hK, hF⟩ K' hK'
              have sB := hB.size
              have sK := hK.size
              have hgl := mg.lt
              refine wp_rs fun K60 hK60 => ?_
              refine s_val hF (x_lss (b := decide (i < nv)) (decide_eq_decide.2 (by omega)) rfl rfl) (by decide) fun a hF => ?_
              refine s_end (hK60 _ _ ?_)
              refine wp_seq_k fun K61 hK61 => ?_
              refine wp_iff hF rfl (fun hc95 => ?_) (fun hc95 => ?_)
              · obtain ⟨b9, off9, c9, y, kd, hve, hyk, hry, hAb, hbl, hrow⟩ := hkid.row (i := i) (by omega)
                cases hve
                have hks := CT.kid_size (hKC ▸ hyk)
                have hkf := CT.fit_kid hfit (hKC ▸ hyk)
                have hma := mayK_at (vars := vars) (d := d + 1) (n := n2) hyk
                rw [hn2] at hma
                refine wp_skip (hK61 _ _ ?_)
                refine wp_seq_k fun K62 hK62 => ?_
                refine wp_block ?_
                refine wp_rs fun K63 hK63 => ?_
                refine s_val hF (x_ixa rfl rfl (m_ixsK i Try.underlying25 el25.size rfl (by omega))) (by decide) fun a hF => ?_
                refine s_val hF (x_ldA wide27 (hrow _ (hB.block _ hbl)) rfl rfl) (by decide) fun a hF => ?_
                refine s_alloc hF (by decide) zero27 fun w30 b13 a eb13 m13 B31 zb13 hF => ?_
                have sB31 := B31.size
                have hB := hB.trans (B31.mono hB.size)
                have hK := hK.below B31
                have mg := mg.old B31
                refine s_putW hF rfl rfl (size_wide wide27) m13 rfl hry.one fun w34 m13 o35 => ?_
                have so35 := o35.size
                have hB := hB.trans (o35.below (by omega))
                have hK := hK.only o35 (by omega)
                have mg := mg.only o35 (by omega)
                refine s_end (hK63 _ _ ?_)
                refine wp_rs fun K64 hK64 => ?_
                refine s_val hF (x_ldW wide27 m13 rfl rfl) (by decide) fun a hF => ?_
                refine s_val hF (x_move rfl) (by decide) fun a hF => ?_
                refine s_val hF (x_move rfl) (by decide) fun a hF => ?_
                refine s_val hF (x_add (by omega) (by omega) rfl rfl) (by decide) fun a hF => ?_
                refine s_val hF (x_move rfl) (by decide) fun a hF => ?_
                refine s_call (R := fun u w' => (u = .int .i64 (kd.mayT vars (d + 1) n2).1 ∧ Blk w' g 3 [.int .i64 (((kd.mayT vars (d + 1) n2).2 : Nat) : Int)]) ∧ Ktw g g w34 w') hF [_, _, _, _] (enters_of Try.func62 (by kernel_rfl) rfl) rfl (by decide) (ih kd y (by omega) hry hkf (d + 1) n2 w34 (by omega) (by omega) hn3 hB mg) ?_
                rintro _ w36 a ⟨⟨rfl, mg⟩, k37⟩ hF
                have sk37 := k37.size
                have hB := k37.under hB (by omega)
                have hK := hK.trans k37 (by omega)
                have m13 := m13.k2 k37 (by omega)
                refine s_val hF (x_assign rfl) (by decide) fun a hF => ?_
                refine s_end (hK64 _ _ ?_)
                refine wp_rs fun K65 hK65 => ?_
                refine s_val hF (x_move rfl) (by decide) fun a hF => ?_
                refine s_val hF (x_neq rfl rfl rfl) (by decide) fun a hF => ?_
                refine s_end (hK65 _ _ ?_)
                refine wp_iff hF rfl (fun hc105 => ?_) (fun hc105 => ?_)
                · rw [if_pos hc105] at hma
                  rw [hma] at heq
                  refine wp_rs fun K66 hK66 => ?_
                  refine s_val hF (x_move rfl) (by decide) fun a hF => ?_
                  refine s_val hF (x_assign rfl) (by decide) fun a hF => ?_
                  refine s_end (hK66 _ _ ?_)
                  refine wp_ret (inb_ret (then_ret (then_ret (inb_ret (then_ret (res_slot hF rfl rfl ⟨_, rfl, ⟨by rw [heq], by rw [heq]; exact mg⟩, hK⟩))))))
                · rw [if_neg hc105] at hma
                  have hmz := may_zero (vars := vars) kd y (d + 1) n2 hry (by omega)
                  refine wp_skip (hK62 _ _ ?_)
                  refine wp_region_lit ?_
                  refine s_val hF (x_addn (i + 1) (by omega) (by omega) rfl rfl) (by decide) fun a hF => ?_
                  refine s_val hF (x_move rfl) (by decide) fun a hF => ?_
                  refine s_end (hK' _ _ (by omega) ⟨_, hma.symm, by omega, mg, hB, hK, hF.sub _ rfl⟩)
              · obtain rfl : i = nv := by omega
                rw [List.drop_of_length_le (by omega), mayK] at hn2
                rw [← hn2] at heq
                refine wp_exit (hK58 _ _ ?_)
                refine wp_rs fun K67 hK67 => ?_
                refine s_val hF (x_assign rfl) (by decide) fun a hF => ?_
                refine s_end (hK67 _ _ ?_)
                refine wp_ret (res_slot hF rfl rfl ⟨_, rfl, ⟨by rw [heq], by rw [heq]; exact mg⟩, hK⟩)
      · have hlf := nodeErr_leaf (vars := vars) (n := n + 1) (d := d) (c := c) (by omega) (by omega)
        rw [leafErr_rest hx hq] at hlf
        rw [hlf, if_neg (by decide)] at heq
        have hk9 := CT.kids_arT2 hx (by omega)
        rw [← hKC] at hk9
        refine wp_rs fun K68 hK68 => ?_
        refine s_val hF (x_fa0 fa27_0 rfl) (by decide) fun a hF => ?_
        refine s_val hF (x_load rfl (m_load flat3 (m4.cell (j := 0) rfl))) (by decide) fun a hF => ?_
        refine s_val hF (x_eql (b := false) (decide_eq_false (by omega)) rfl rfl) (by decide) fun a hF => ?_
        refine s_val hF (x_move rfl) (by decide) fun a hF => ?_
        refine s_grdn 47 hF rfl rfl (by decide) fun a hF => ?_
        refine s_grdn 47 hF rfl rfl (by decide) fun a hF => ?_
        refine s_grdn 47 hF rfl rfl (by decide) fun a hF => ?_
        refine s_grdn 47 hF rfl rfl (by decide) fun a hF => ?_
        refine s_grdu 51 hF rfl rfl (by decide) fun a hF => ?_
        refine s_grdu 51 hF rfl rfl (by decide) fun a hF => ?_
        refine s_grdu 51 hF rfl rfl (by decide) fun a hF => ?_
        refine s_grdn 47 hF rfl rfl (by decide) fun a hF => ?_
        refine s_val hF (x_pick (b := false) rfl rfl) (by decide) fun a hF => ?_
        refine s_val hF (x_assign rfl) (by decide) fun a hF => ?_
        refine s_end (hK68 _ _ ?_)
        refine wp_if hF rfl ?_
        refine wp_rs fun K69 hK69 => ?_
        refine s_val hF (x_fa0 fa27_0 rfl) (by decide) fun a hF => ?_
        refine s_val hF (x_load rfl (m_load flat3 (m4.cell (j := 0) rfl))) (by decide) fun a hF => ?_
        refine s_val hF (x_eql (b := false) (decide_eq_false (by omega)) rfl rfl) (by decide) fun a hF => ?_
        refine s_val hF (x_assign rfl) (by decide) fun a hF => ?_
        refine s_end (hK69 _ _ ?_)
        refine wp_if hF rfl ?_
        refine wp_rs fun K70 hK70 => ?_
        refine s_val hF (x_fa0 fa27_0 rfl) (by decide) fun a hF => ?_
        refine s_val hF (x_load rfl (m_load flat3 (m4.cell (j := 0) rfl))) (by decide) fun a hF => ?_
        refine s_val hF (x_eql (b := false) (decide_eq_false (by omega)) rfl rfl) (by decide) fun a hF => ?_
        refine s_val hF (x_assign rfl) (by decide) fun a hF => ?_
        refine s_end (hK70 _ _ ?_)
        refine wp_if hF rfl ?_
        refine wp_skip (hK3 _ _ ?_)
        refine wp_seq_k fun K71 hK71 => ?_
        refine wp_rs fun K72 hK72 => ?_
        refine s_val hF (x_fa0 fa27_5 rfl) (by decide) fun a hF => ?_
        refine s_val hF (x_load rfl (m_load flat25 (m4.cell (j := 7) rfl))) (by decide) fun a hF => ?_
        refine s_val hF (x_len Try.underlying25 rfl) (by decide) fun a hF => ?_
        refine s_val hF (x_move rfl) (by decide) fun a hF => ?_
        refine s_end (hK72 _ _ ?_)
        refine wp_block ?_
        refine wp_up nv (fun i a w => ∃ n2 : Nat, mayK vars (KC.drop i) (d + 1) n2 = mayK vars KC (d + 1) (n + 1) ∧ n2 ≤ 400 ∧ Blk w g 3 [.int .i64 (n2 : Int)] ∧ Below w0.heap.size w0 w ∧ Ktw g g w1 w ∧ Fs 108 a [(1, .int .i64 vars), (2, .int .i64 d), (3, .pointer (some ⟨g, 0, none⟩)), (92, .slice av nv cv), (93, .int .i64 (nv : Int)), (94, .int .i64 (i : Int))]) ⟨n + 1, rfl, by omega, mg, hB, hK, hF.sub _ rfl⟩ ?_
        repeat clear hF
        clear hB hK mg m4
        rintro i a w hi ⟨n2, hn2, hn3, mg, hB, hK, hF⟩ K' hK'
        have sB := hB.size
        have sK := hK.size
        have hgl := mg.lt
        refine wp_rs fun K73 hK73 => ?_
        refine s_val hF (x_lss (b := decide (i < nv)) (decide_eq_decide.2 (by omega)) rfl rfl) (by decide) fun a hF => ?_
        refine s_end (hK73 _ _ ?_)
        refine wp_seq_k fun K74 hK74 => ?_
        refine wp_iff hF rfl (fun hc95 => ?_) (fun hc95 => ?_)
        · obtain ⟨b9, off9, c9, y, kd, hve, hyk, hry, hAb, hbl, hrow⟩ := hkid.row (i := i) (by omega)
          cases hve
          have hks := CT.kid_size (hKC ▸ hyk)
          have hkf := CT.fit_kid hfit (hKC ▸ hyk)
          have hma := mayK_at (vars := vars) (d := d + 1) (n := n2) hyk
          rw [hn2] at hma
          refine wp_skip (hK74 _ _ ?_)
          refine wp_seq_k fun K75 hK75 => ?_
          refine wp_block ?_
          refine wp_rs fun K76 hK76 => ?_
          refine s_val hF (x_ixa rfl rfl (m_ixsK i Try.underlying25 el25.size rfl (by omega))) (by decide) fun a hF => ?_
          refine s_val hF (x_ldA wide27 (hrow _ (hB.block _ hbl)) rfl rfl) (by decide) fun a hF => ?_
          refine s_alloc hF (by decide) zero27 fun w38 b13 a eb13 m13 B39 zb13 hF => ?_
          have sB39 := B39.size
          have hB := hB.trans (B39.mono hB.size)
          have hK := hK.below B39
          have mg := mg.old B39
          refine s_putW hF rfl rfl (size_wide wide27) m13 rfl hry.one fun w42 m13 o43 => ?_
          have so43 := o43.size
          have hB := hB.trans (o43.below (by omega))
          have hK := hK.only o43 (by omega)
          have mg := mg.only o43 (by omega)
          refine s_end (hK76 _ _ ?_)
          refine wp_rs fun K77 hK77 => ?_
          refine s_val hF (x_ldW wide27 m13 rfl rfl) (by decide) fun a hF => ?_
          refine s_val hF (x_move rfl) (by decide) fun a hF => ?_
          refine s_val hF (x_move rfl) (by decide) fun a hF => ?_
          refine s_val hF (x_add (by omega) (by omega) rfl rfl) (by decide) fun a hF => ?_
          refine s_val hF (x_move rfl) (by decide) fun a hF => ?_
          refine s_call (R := fun u w' => (u = .int .i64 (kd.mayT vars (d + 1) n2).1 ∧ Blk w' g 3 [.int .i64 (((kd.mayT vars (d + 1) n2).2 : Nat) : Int)]) ∧ Ktw g g w42 w') hF [_, _, _, _] (enters_of Try.func62 (by kernel_rfl) rfl) rfl (by decide) (ih kd y (by omega) hry hkf (d + 1) n2 w42 (by omega) (by omega) hn3 hB mg) ?_
          rintro _ w44 a ⟨⟨rfl, mg⟩, k45⟩ hF
          have sk45 := k45.size
          have hB := k45.under hB (by omega)
          have hK := hK.trans k45 (by omega)
          have m13 := m13.k2 k45 (by omega)
          refine s_val hF (x_assign rfl) (by decide) fun a hF => ?_
          refine s_end (hK77 _ _ ?_)
          refine wp_rs fun K78 hK78 => ?_
          refine s_val hF (x_move rfl) (by decide) fun a hF => ?_
          refine s_val hF (x_neq rfl rfl rfl) (by decide) fun a hF => ?_
          refine s_end (hK78 _ _ ?_)
          refine wp_iff hF rfl (fun hc105 => ?_) (fun hc105 => ?_)
          · rw [if_pos hc105] at hma
            rw [hma] at heq
            refine wp_rs fun K79 hK79 => ?_
            refine s_val hF (x_move rfl) (by decide) fun a hF => ?_
            refine s_val hF (x_assign rfl) (by decide) fun a hF => ?_
            refine s_end (hK79 _ _ ?_)
            refine wp_ret (inb_ret (then_ret (then_ret (inb_ret (then_ret (res_slot hF rfl rfl ⟨_, rfl, ⟨by rw [heq], by rw [heq]; exact mg⟩, hK⟩))))))
          · rw [if_neg hc105] at hma
            have hmz := may_zero (vars := vars) kd y (d + 1) n2 hry (by omega)
            refine wp_skip (hK75 _ _ ?_)
            refine wp_region_lit ?_
            refine s_val hF (x_addn (i + 1) (by omega) (by omega) rfl rfl) (by decide) fun a hF => ?_
            refine s_val hF (x_move rfl) (by decide) fun a hF => ?_
            refine s_end (hK' _ _ (by omega) ⟨_, hma.symm, by omega, mg, hB, hK, hF.sub _ rfl⟩)
        · obtain rfl : i = nv := by omega
          rw [List.drop_of_length_le (by omega), mayK] at hn2
          rw [← hn2] at heq
          refine wp_exit (hK71 _ _ ?_)
          refine wp_rs fun K80 hK80 => ?_
          refine s_val hF (x_assign rfl) (by decide) fun a hF => ?_
          refine s_end (hK80 _ _ ?_)
          refine wp_ret (res_slot hF rfl rfl ⟨_, rfl, ⟨by rw [heq], by rw [heq]; exact mg⟩, hK⟩)
end Go.Proofs.Ytaclncmkdpjnlaa

namespace Go.Proofs.Ytaclncmkdpjnlaa
open Go.RowKit Go.Shelf
set_option linter.unusedVariables false
set_option linter.unusedSimpArgs false

/-- What whole lets pass. -/
def CT.wf (c : CT) : Prop := c.okV 6 ∧ c.size ≤ 400 ∧ c.dep ≤ 64
theorem CT.wf.ok {c : CT} (h : c.wf) : c.ok := ⟨by have := h.2.1; omega, by have := h.2.2; omega⟩
def PT.loose : PT → Int → Int
  | .var n, d => if d ≤ n then min (n - d + 1) 9223372036854775807 else 0
  | .two k p q, d => max (p.loose d) (q.loose (d + if k = 3 ∨ k = 4 then 1 else 0))
  | .lt p q r, d => max (p.loose d) (max (q.loose d) (r.loose (d + 1)))
  | .sort _, _ => 0
  | .cst _ _, _ => 0
  | .odd _, _ => 0
def mostL (ps : List Int) : Int := if ps.length = 0 then 0 else mxl ps
def Glo (c : CT) (d : Int) (ps : List Int) : Int := match c with
  | .var n _ => if d ≤ n then min (n - d + 1) 9223372036854775807 else 0
  | _ => mostL ps
set_option maxRecDepth 100000 in
set_option maxHeartbeats 400000 in
theorem rMay30 (vars : Int) (c : CT) (x : C8) (w0 : World) (hx : RC w0 (fun k => k < w0.heap.size) c x) (hfit : c.fit) : Calls Try.prog 26 #[tv x, .int .i64 vars] w0 fun e w' => e = .returned (.int .i64 (c.mayT vars 1 0).1) ∧ Below w0.heap.size w0 w' := by
  have hB := Below.refl w0.heap.size w0
  have sB := hB.size
  refine calls_fs 9 [(0, tv x), (1, .int .i64 vars)] Try.func26 rfl rfl rfl rfl rfl fun a hF => ?_
  refine wp_rs fun K1 hK1 => ?_
  refine s_box (tc x) hF (by decide) rfl rfl fun w2 b2 a eb2 m2 B3 zb2 hF => ?_
  have sB3 := B3.size
  have hB := hB.trans (B3.mono hB.size)
  refine s_val hF (x_assign rfl) (by decide) fun a hF => ?_
  refine s_end (hK1 _ _ ?_)
  refine wp_rs fun K2 hK2 => ?_
  refine s_alloc1 hF (by decide) zero3 rfl fun w4 b5 a eb5 m5 B5 zb5 hF => ?_
  have sB5 := B5.size
  have hB := hB.trans (B5.mono hB.size)
  have m2 := m2.old B5
  refine s_put hF rfl rfl flat3 m5 (by first | (simp; done) | (simp [tc, lc]; done) | decide) rfl fun w6 m5 o7 => ?_
  have so7 := o7.size
  have hB := hB.trans (o7.below (by omega))
  have m2 := m2.only o7 (by omega)
  refine s_end (hK2 _ _ ?_)
  refine wp_rs fun K3 hK3 => ?_
  refine s_val hF (x_ldW wide27 m2 rfl rfl) (by decide) fun a hF => ?_
  refine s_val hF (x_move rfl) (by decide) fun a hF => ?_
  refine s_call (R := fun u w' => (u = .int .i64 (c.mayT vars 1 0).1 ∧ Blk w' b5 3 [.int .i64 (((c.mayT vars 1 0).2 : Nat) : Int)]) ∧ Ktw b5 b5 w6 w') hF [_, _, _, _] (enters_of Try.func62 (by kernel_rfl) rfl) rfl (by decide) (rmay73 vars w0 b5 (by omega) (c.size + 1) c x (by omega) hx hfit 1 0 w6 (by decide) (by decide) (by decide) hB m5) ?_
  rintro _ w8 a ⟨⟨rfl, m5⟩, k9⟩ hF
  have sk9 := k9.size
  have hB := k9.under hB (by omega)
  have m2 := m2.k2 k9 (by omega)
  refine s_val hF (x_assign rfl) (by decide) fun a hF => ?_
  refine s_end (hK3 _ _ ?_)
  refine wp_ret (res_slot hF rfl rfl ⟨rfl, hB⟩)

def CT.looseR (c : CT) : Int := if c.ok then c.ess.loose 0 else 0

end Go.Proofs.Ytaclncmkdpjnlaa
