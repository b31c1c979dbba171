/- Inst, Lift, the kinds of terms, Apps; awake. -/
import Derived.Test.YtaclncmkdpjnlaaTerm11
namespace Go.Proofs.Ytaclncmkdpjnlaa
open Go.RowKit Go.Shelf
set_option linter.unusedVariables false
set_option linter.unusedSimpArgs false

/-- x reads as a term that says p. -/
def RT (W : World) (p : PT) (x : C8) : Prop := RE W (fun k => k < W.heap.size) p x
theorem RE.rt {W : World} {A : Nat → Prop} {p : PT} {x : C8} (h : RE W A p x) : RT W p x := h.valid.mono (fun k hk => hk.2)
theorem RT.below {W W' : World} {p : PT} {x : C8} (h : RT W p x) (hB : Below W.heap.size W W') : RT W' p x := (RE.below h hB).rt
theorem RE_bare (W : World) (A : Nat → Prop) : RE W A (.odd 0) ⟨0, 0, emptyB, (0, 0, nilS), nilS, nilS⟩ := RE_odd (by left; simp [arT]) (RKE.nil W A)
theorem holds83q (n dp vn vd : Int) (q : Int × Int) (w0 : World) (h1 : 0 ≤ n ∧ n ≤ 20000) (h2 : 0 ≤ dp ∧ dp ≤ 20000) (h3 : 0 ≤ vn ∧ vn ≤ 20000) (h4 : 0 ≤ vd ∧ vd ≤ 20000) (h5 : 0 ≤ q.1 ∧ q.1 ≤ 20000) (h6 : 0 ≤ q.2 ∧ q.2 ≤ 20000) :
    Calls Try.prog 64 #[.agg [.int .i64 n, .int .i64 dp].toArray, .agg [.int .i64 vn, .int .i64 vd].toArray, .agg (enc2 q).toArray] w0 fun e w' => e = .returned (.bool (decide (holdsP n dp vn vd q.1 q.2))) ∧ Below w0.heap.size w0 w' := by
  obtain ⟨cnt, pd⟩ := q
  exact holds83 n dp vn vd cnt pd w0 h1 h2 h3 h4 h5 h6
def PT.inst (t v : PT) : PT := if t.ok ∧ v.ok ∧ (PT.put v t 0).ok then PT.put v t 0 else .odd 0
def cut20 (b : Int) : Int := min (max b (-1048576)) 1048576
def PT.Lift (t : PT) (f b : Int) : PT := if t.ok then t.lift (max f 0) (cut20 b) 0 else .odd 0

set_option maxRecDepth 100000 in
set_option maxHeartbeats 400000 in
theorem Inst42 (c v : CT) (x y : C8) (w0 : World) (hx : RC w0 (fun k => k < w0.heap.size) c x) (hv : RC w0 (fun k => k < w0.heap.size) v y) : Calls Try.prog 29 #[tv x, tv y] w0 fun e w' => ∃ u, e = .returned u ∧ (∃ y, u = tv y ∧ RT w' (PT.inst c.ess v.ess) y) ∧ Below w0.heap.size w0 w' := by
  have hin : c.ok ∧ v.ok ∧ (PT.put v.ess c.ess 0).ok → PT.inst c.ess v.ess = PT.put v.ess c.ess 0 := fun h => if_pos ⟨c.ok_ess.2 h.1, v.ok_ess.2 h.2.1, h.2.2⟩
  have hno : ¬ (c.ok ∧ v.ok ∧ (PT.put v.ess c.ess 0).ok) → PT.inst c.ess v.ess = .odd 0 := fun h => if_neg (fun h' => h ⟨c.ok_ess.1 h'.1, v.ok_ess.1 h'.2.1, h'.2.2⟩)
  obtain ⟨q, hq⟩ : ∃ q, q = c.fold Gpl 0 := ⟨_, rfl⟩
  have hg := Gpl_rng c 0
  have hh := holdsP_iff (c := c) (v := v)
  rw [← hq] at hg hh
  have hcd := c.dep_pos
  have hvd := v.dep_pos
  have hB := Below.refl w0.heap.size w0
  have sB := hB.size
  refine calls_fs 38 [(0, tv x), (1, tv y)] Try.func29 rfl rfl rfl rfl rfl fun a hF => ?_
  refine wp_rs fun K1 hK1 => ?_
  refine s_box (tc x) hF (by decide) rfl rfl fun w2 b2 a eb2 m2 B3 zb2 hF => ?_
  have sB3 := B3.size
  have hB := hB.trans (B3.mono hB.size)
  refine s_box (tc y) hF (by decide) rfl rfl fun w4 b3 a eb3 m3 B5 zb3 hF => ?_
  have sB5 := B5.size
  have hB := hB.trans (B5.mono hB.size)
  have m2 := m2.old B5
  refine s_alloc hF (by decide) zero27 fun w6 b4 a eb4 m4 B7 zb4 hF => ?_
  have sB7 := B7.size
  have hB := hB.trans (B7.mono hB.size)
  have m2 := m2.old B7
  have m3 := m3.old B7
  refine s_end (hK1 _ _ ?_)
  refine wp_rs fun K2 hK2 => ?_
  refine s_val hF (x_ldW wide27 m2 rfl rfl) (by decide) fun a hF => ?_
  refine s_callB [_] hF (enters_of Try.func51 (by kernel_rfl) rfl) rfl (by decide) (measure62 c x w6 (hx.bel hB)) fun w8 a B9 hF => ?_
  have sB9 := B9.size
  have hB := hB.trans (B9.mono hB.size)
  have m2 := m2.old B9
  have m3 := m3.old B9
  have m4 := m4.old B9
  refine s_val hF (x_move rfl) (by decide) fun a hF => ?_
  refine s_val hF (x_ext rfl rfl) (by decide) fun a hF => ?_
  refine s_val hF (x_ext rfl rfl) (by decide) fun a hF => ?_
  refine s_alloc hF (by decide) zero70 fun w10 b5 a eb5 m5 B11 zb5 hF => ?_
  have sB11 := B11.size
  have hB := hB.trans (B11.mono hB.size)
  have m2 := m2.old B11
  have m3 := m3.old B11
  have m4 := m4.old B11
  refine s_putW hF rfl rfl (size_wide wide70) m5 rfl (oneII _ _) fun w14 m5 o15 => ?_
  have so15 := o15.size
  have hB := hB.trans (o15.below (by omega))
  have m2 := m2.only o15 (by omega)
  have m3 := m3.only o15 (by omega)
  have m4 := m4.only o15 (by omega)
  refine s_val hF (x_assign rfl) (by decide) fun a hF => ?_
  refine s_end (hK2 _ _ ?_)
  refine wp_rs fun K3 hK3 => ?_
  refine s_val hF (x_ldW wide27 m3 rfl rfl) (by decide) fun a hF => ?_
  refine s_callB [_] hF (enters_of Try.func51 (by kernel_rfl) rfl) rfl (by decide) (measure62 v y w14 (hv.bel hB)) fun w16 a B17 hF => ?_
  have sB17 := B17.size
  have hB := hB.trans (B17.mono hB.size)
  have m2 := m2.old B17
  have m3 := m3.old B17
  have m4 := m4.old B17
  have m5 := m5.old B17
  refine s_val hF (x_move rfl) (by decide) fun a hF => ?_
  refine s_val hF (x_ext rfl rfl) (by decide) fun a hF => ?_
  refine s_val hF (x_ext rfl rfl) (by decide) fun a hF => ?_
  refine s_alloc hF (by decide) zero70 fun w18 b7 a eb7 m7 B19 zb7 hF => ?_
  have sB19 := B19.size
  have hB := hB.trans (B19.mono hB.size)
  have m2 := m2.old B19
  have m3 := m3.old B19
  have m4 := m4.old B19
  have m5 := m5.old B19
  refine s_putW hF rfl rfl (size_wide wide70) m7 rfl (oneII _ _) fun w22 m7 o23 => ?_
  have so23 := o23.size
  have hB := hB.trans (o23.below (by omega))
  have m2 := m2.only o23 (by omega)
  have m3 := m3.only o23 (by omega)
  have m4 := m4.only o23 (by omega)
  have m5 := m5.only o23 (by omega)
  refine s_val hF (x_assign rfl) (by decide) fun a hF => ?_
  refine s_end (hK3 _ _ ?_)
  refine wp_seq_k fun K4 hK4 => ?_
  rcases (show ¬ c.ok ∨ (c.ok ∧ ¬ v.ok) ∨ (c.ok ∧ v.ok ∧ (PT.put v.ess c.ess 0).ok) ∨ (c.ok ∧ v.ok ∧ ¬ (PT.put v.ess c.ess 0).ok) by by_cases h1 : c.ok <;> by_cases h2 : v.ok <;> by_cases h3 : (PT.put v.ess c.ess 0).ok <;> simp [h1, h2, h3]) with hk1 | ⟨hk1, hk2⟩ | ⟨hk1, hk2, hk3⟩ | ⟨hk1, hk2, hk3⟩
  · rw [decide_eq_false hk1] at hF
    refine dk2_seq (b4) (b4) (ops := regOps Try.f29 3) (N := 14) (by kernel_rfl) wide_orders (by kernel_rfl) fun w24 hw24 B25 hS K6 hK6 => ?_
    have zw24 : w24.heap.size = w22.heap.size := by rw [hw24]
    have sB25 := B25.size
    have hB := hB.trans (B25.mono hB.size)
    have m2 := m2.old B25
    have m3 := m3.old B25
    have m4 := m4.old B25
    have m5 := m5.old B25
    have m7 := m7.old B25
    have m2_d := m2
    have m3_d := m3
    have m4_d := m4
    have m5_d := m5
    have m7_d := m7
    have hB_d := hB
    refine d_val 0 19 (op := (Go.Op.move (Go.Operand.tmp 6))) hF hS (by kernel_rfl) (fun W hW => x_move rfl) (by kernel_rfl) (by decide) fun a hF => ?_
    refine d_val 1 20 (op := (Go.Op.unOp Go.UnOp.not 4 (Go.Operand.tmp 19))) hF hS (by kernel_rfl) (fun W hW => x_not rfl) (by kernel_rfl) (by decide) fun a hF => ?_
    refine d_val 2 21 (op := (Go.Op.move (Go.Operand.tmp 20))) hF hS (by kernel_rfl) (fun W hW => x_move rfl) (by kernel_rfl) (by decide) fun a hF => ?_
    refine d_skip 3 22 21 (j := 2) (want := false) (op := (Go.Op.move (Go.Operand.tmp 8))) hF hS (by kernel_rfl) (by kernel_rfl) rfl (by kernel_rfl) (by decide) fun a hF => ?_
    refine d_skip 4 23 21 (j := 2) (want := false) (op := (Go.Op.unOp Go.UnOp.not 4 (Go.Operand.tmp 22))) hF hS (by kernel_rfl) (by kernel_rfl) rfl (by kernel_rfl) (by decide) fun a hF => ?_
    refine d_val 5 24 (op := (Go.Op.pick (Go.Operand.tmp 21) (Go.Operand.const (Go.Value.bool true)) (Go.Operand.tmp 23))) hF hS (by kernel_rfl) (fun W hW => x_pick (b := true) rfl rfl) (by kernel_rfl) (by decide) fun a hF => ?_
    refine d_val 6 25 (op := (Go.Op.move (Go.Operand.tmp 24))) hF hS (by kernel_rfl) (fun W hW => x_move rfl) (by kernel_rfl) (by decide) fun a hF => ?_
    refine d_skip 7 26 25 (j := 6) (want := false) (op := (Go.Op.load 67 (Go.Operand.tmp 5))) hF hS (by kernel_rfl) (by kernel_rfl) rfl (by kernel_rfl) (by decide) fun a hF => ?_
    refine d_skip 8 27 25 (j := 6) (want := false) (op := (Go.Op.load 67 (Go.Operand.tmp 7))) hF hS (by kernel_rfl) (by kernel_rfl) rfl (by kernel_rfl) (by decide) fun a hF => ?_
    refine d_skip 9 28 25 (j := 6) (want := false) (op := (Go.Op.load 27 (Go.Operand.tmp 2))) hF hS (by kernel_rfl) (by kernel_rfl) rfl (by kernel_rfl) (by decide) fun a hF => ?_
    refine d_skip 10 29 25 (j := 6) (want := false) (op := (Go.Op.call (Go.Call.mk (Go.Callee.value (Go.Operand.func 65)) #[(Go.Operand.tmp 28)] #[27]))) hF hS (by kernel_rfl) (by kernel_rfl) rfl (by kernel_rfl) (by decide) fun a hF => ?_
    refine d_skip 11 30 25 (j := 6) (want := false) (op := (Go.Op.call (Go.Call.mk (Go.Callee.value (Go.Operand.func 64)) #[(Go.Operand.tmp 26), (Go.Operand.tmp 27), (Go.Operand.tmp 29)] #[67, 67, 81]))) hF hS (by kernel_rfl) (by kernel_rfl) rfl (by kernel_rfl) (by decide) fun a hF => ?_
    refine d_skip 12 31 25 (j := 6) (want := false) (op := (Go.Op.unOp Go.UnOp.not 4 (Go.Operand.tmp 30))) hF hS (by kernel_rfl) (by kernel_rfl) rfl (by kernel_rfl) (by decide) fun a hF => ?_
    refine d_val 13 32 (op := (Go.Op.pick (Go.Operand.tmp 25) (Go.Operand.const (Go.Value.bool true)) (Go.Operand.tmp 31))) hF hS (by kernel_rfl) (fun W hW => x_pick (b := true) rfl rfl) (by kernel_rfl) (by decide) fun a hF => ?_
    refine d_end (by kernel_rfl) (hK6 _ _ ?_)
    refine wp_if hF rfl ?_
    refine wp_rs fun K7 hK7 => ?_
    refine s_val hF (x_build (vs := []) rfl (b27_ _)) (by decide) fun a hF => ?_
    refine s_putW hF rfl rfl (size_wide wide27) m4 rfl one8 fun w28 m4 o29 => ?_
    have so29 := o29.size
    have hB := hB.trans (o29.below (by omega))
    have m2 := m2.only o29 (by omega)
    have m3 := m3.only o29 (by omega)
    have m5 := m5.only o29 (by omega)
    have m7 := m7.only o29 (by omega)
    refine s_end (hK7 _ _ ?_)
    refine wp_ret (then_ret (res_cell hF rfl rfl m4 wide27 ⟨_, rfl, ⟨⟨0, 0, emptyB, (0, 0, nilS), nilS, nilS⟩, rfl, by rw [hno (fun h => hk1 h.1)]; exact (RE_bare _ (fun _ => True)).rt⟩, hB⟩))
  · rw [decide_eq_true hk1, decide_eq_false hk2] at hF
    refine dk2_seq (b4) (b4) (ops := regOps Try.f29 3) (N := 14) (by kernel_rfl) wide_orders (by kernel_rfl) fun w30 hw30 B31 hS K8 hK8 => ?_
    have zw30 : w30.heap.size = w22.heap.size := by rw [hw30]
    have sB31 := B31.size
    have hB := hB.trans (B31.mono hB.size)
    have m2 := m2.old B31
    have m3 := m3.old B31
    have m4 := m4.old B31
    have m5 := m5.old B31
    have m7 := m7.old B31
    have m2_d := m2
    have m3_d := m3
    have m4_d := m4
    have m5_d := m5
    have m7_d := m7
    have hB_d := hB
    refine d_val 0 19 (op := (Go.Op.move (Go.Operand.tmp 6))) hF hS (by kernel_rfl) (fun W hW => x_move rfl) (by kernel_rfl) (by decide) fun a hF => ?_
    refine d_val 1 20 (op := (Go.Op.unOp Go.UnOp.not 4 (Go.Operand.tmp 19))) hF hS (by kernel_rfl) (fun W hW => x_not rfl) (by kernel_rfl) (by decide) fun a hF => ?_
    refine d_val 2 21 (op := (Go.Op.move (Go.Operand.tmp 20))) hF hS (by kernel_rfl) (fun W hW => x_move rfl) (by kernel_rfl) (by decide) fun a hF => ?_
    refine d_valg 3 22 21 (j := 2) (want := false) (op := (Go.Op.move (Go.Operand.tmp 8))) hF hS (by kernel_rfl) (by kernel_rfl) rfl (fun W hW => x_move rfl) (by kernel_rfl) (by decide) fun a hF => ?_
    refine d_valg 4 23 21 (j := 2) (want := false) (op := (Go.Op.unOp Go.UnOp.not 4 (Go.Operand.tmp 22))) hF hS (by kernel_rfl) (by kernel_rfl) rfl (fun W hW => x_not rfl) (by kernel_rfl) (by decide) fun a hF => ?_
    refine d_val 5 24 (op := (Go.Op.pick (Go.Operand.tmp 21) (Go.Operand.const (Go.Value.bool true)) (Go.Operand.tmp 23))) hF hS (by kernel_rfl) (fun W hW => x_pick (b := false) rfl rfl) (by kernel_rfl) (by decide) fun a hF => ?_
    refine d_val 6 25 (op := (Go.Op.move (Go.Operand.tmp 24))) hF hS (by kernel_rfl) (fun W hW => x_move rfl) (by kernel_rfl) (by decide) fun a hF => ?_
    refine d_skip 7 26 25 (j := 6) (want := false) (op := (Go.Op.load 67 (Go.Operand.tmp 5))) hF hS (by kernel_rfl) (by kernel_rfl) rfl (by kernel_rfl) (by decide) fun a hF => ?_
    refine d_skip 8 27 25 (j := 6) (want := false) (op := (Go.Op.load 67 (Go.Operand.tmp 7))) hF hS (by kernel_rfl) (by kernel_rfl) rfl (by kernel_rfl) (by decide) fun a hF => ?_
    refine d_skip 9 28 25 (j := 6) (want := false) (op := (Go.Op.load 27 (Go.Operand.tmp 2))) hF hS (by kernel_rfl) (by kernel_rfl) rfl (by kernel_rfl) (by decide) fun a hF => ?_
    refine d_skip 10 29 25 (j := 6) (want := false) (op := (Go.Op.call (Go.Call.mk (Go.Callee.value (Go.Operand.func 65)) #[(Go.Operand.tmp 28)] #[27]))) hF hS (by kernel_rfl) (by kernel_rfl) rfl (by kernel_rfl) (by decide) fun a hF => ?_
    refine d_skip 11 30 25 (j := 6) (want := false) (op := (Go.Op.call (Go.Call.mk (Go.Callee.value (Go.Operand.func 64)) #[(Go.Operand.tmp 26), (Go.Operand.tmp 27), (Go.Operand.tmp 29)] #[67, 67, 81]))) hF hS (by kernel_rfl) (by kernel_rfl) rfl (by kernel_rfl) (by decide) fun a hF => ?_
    refine d_skip 12 31 25 (j := 6) (want := false) (op := (Go.Op.unOp Go.UnOp.not 4 (Go.Operand.tmp 30))) hF hS (by kernel_rfl) (by kernel_rfl) rfl (by kernel_rfl) (by decide) fun a hF => ?_
    refine d_val 13 32 (op := (Go.Op.pick (Go.Operand.tmp 25) (Go.Operand.const (Go.Value.bool true)) (Go.Operand.tmp 31))) hF hS (by kernel_rfl) (fun W hW => x_pick (b := true) rfl rfl) (by kernel_rfl) (by decide) fun a hF => ?_
    refine d_end (by kernel_rfl) (hK8 _ _ ?_)
    refine wp_if hF rfl ?_
    refine wp_rs fun K9 hK9 => ?_
    refine s_val hF (x_build (vs := []) rfl (b27_ _)) (by decide) fun a hF => ?_
    refine s_putW hF rfl rfl (size_wide wide27) m4 rfl one8 fun w34 m4 o35 => ?_
    have so35 := o35.size
    have hB := hB.trans (o35.below (by omega))
    have m2 := m2.only o35 (by omega)
    have m3 := m3.only o35 (by omega)
    have m5 := m5.only o35 (by omega)
    have m7 := m7.only o35 (by omega)
    refine s_end (hK9 _ _ ?_)
    refine wp_ret (then_ret (res_cell hF rfl rfl m4 wide27 ⟨_, rfl, ⟨⟨0, 0, emptyB, (0, 0, nilS), nilS, nilS⟩, rfl, by rw [hno (fun h => hk2 h.2.1)]; exact (RE_bare _ (fun _ => True)).rt⟩, hB⟩))
  · rw [decide_eq_true hk1, decide_eq_true hk2] at hF
    rw [show c.mN = c.size from if_pos hk1, show c.mD = c.dep from if_pos hk1] at m5
    rw [show v.mN = v.size from if_pos hk2, show v.mD = v.dep from if_pos hk2] at m7
    have hk3b := decide_eq_true (hh.2 hk3)
    refine dk2_seq (b4) (b4) (ops := regOps Try.f29 3) (N := 14) (by kernel_rfl) wide_orders (by kernel_rfl) fun w36 hw36 B37 hS K10 hK10 => ?_
    have zw36 : w36.heap.size = w22.heap.size := by rw [hw36]
    have sB37 := B37.size
    have hB := hB.trans (B37.mono hB.size)
    have m2 := m2.old B37
    have m3 := m3.old B37
    have m4 := m4.old B37
    have m5 := m5.old B37
    have m7 := m7.old B37
    have m2_d := m2
    have m3_d := m3
    have m4_d := m4
    have m5_d := m5
    have m7_d := m7
    have hB_d := hB
    refine d_val 0 19 (op := (Go.Op.move (Go.Operand.tmp 6))) hF hS (by kernel_rfl) (fun W hW => x_move rfl) (by kernel_rfl) (by decide) fun a hF => ?_
    refine d_val 1 20 (op := (Go.Op.unOp Go.UnOp.not 4 (Go.Operand.tmp 19))) hF hS (by kernel_rfl) (fun W hW => x_not rfl) (by kernel_rfl) (by decide) fun a hF => ?_
    refine d_val 2 21 (op := (Go.Op.move (Go.Operand.tmp 20))) hF hS (by kernel_rfl) (fun W hW => x_move rfl) (by kernel_rfl) (by decide) fun a hF => ?_
    refine d_valg 3 22 21 (j := 2) (want := false) (op := (Go.Op.move (Go.Operand.tmp 8))) hF hS (by kernel_rfl) (by kernel_rfl) rfl (fun W hW => x_move rfl) (by kernel_rfl) (by decide) fun a hF => ?_
    refine d_valg 4 23 21 (j := 2) (want := false) (op := (Go.Op.unOp Go.UnOp.not 4 (Go.Operand.tmp 22))) hF hS (by kernel_rfl) (by kernel_rfl) rfl (fun W hW => x_not rfl) (by kernel_rfl) (by decide) fun a hF => ?_
    refine d_val 5 24 (op := (Go.Op.pick (Go.Operand.tmp 21) (Go.Operand.const (Go.Value.bool true)) (Go.Operand.tmp 23))) hF hS (by kernel_rfl) (fun W hW => x_pick (b := false) rfl rfl) (by kernel_rfl) (by decide) fun a hF => ?_
    refine d_val 6 25 (op := (Go.Op.move (Go.Operand.tmp 24))) hF hS (by kernel_rfl) (fun W hW => x_move rfl) (by kernel_rfl) (by decide) fun a hF => ?_
    refine d_valg 7 26 25 (j := 6) (want := false) (op := (Go.Op.load 67 (Go.Operand.tmp 5))) hF hS (by kernel_rfl) (by kernel_rfl) rfl (fun W hW => x_ldW wide70 (m5_d.k2 hW (by omega)) rfl rfl) (by kernel_rfl) (by decide) fun a hF => ?_
    refine d_valg 8 27 25 (j := 6) (want := false) (op := (Go.Op.load 67 (Go.Operand.tmp 7))) hF hS (by kernel_rfl) (by kernel_rfl) rfl (fun W hW => x_ldW wide70 (m7_d.k2 hW (by omega)) rfl rfl) (by kernel_rfl) (by decide) fun a hF => ?_
    refine d_valg 9 28 25 (j := 6) (want := false) (op := (Go.Op.load 27 (Go.Operand.tmp 2))) hF hS (by kernel_rfl) (by kernel_rfl) rfl (fun W hW => x_ldW wide27 (m2_d.k2 hW (by omega)) rfl rfl) (by kernel_rfl) (by decide) fun a hF => ?_
    refine d_oneg 10 25 (some 29) (Go.Op.call (Go.Call.mk (Go.Callee.value (Go.Operand.func 65)) #[(Go.Operand.tmp 28)] #[27])) (j := 6) (want := false) hF (by kernel_rfl) (by kernel_rfl) (by kernel_rfl) rfl fun ty pos af => ?_
    refine s_callB [_] hF (enters_of Try.func65 (by kernel_rfl) rfl) rfl (by decide) ((placesOf84 c x w36 (hx.bel hB) hk1).mono fun e w' h => ⟨by rw [h.1, ← hq], h.2⟩) fun w38 a B39 hF => ?_
    have sB39 := B39.size
    have hB := hB.trans (B39.mono hB.size)
    have m2 := m2.old B39
    have m3 := m3.old B39
    have m4 := m4.old B39
    have m5 := m5.old B39
    have m7 := m7.old B39
    have hS := hS.below B39
    refine s_end ⟨hS, ?_⟩
    refine d_oneg 11 25 (some 30) (Go.Op.call (Go.Call.mk (Go.Callee.value (Go.Operand.func 64)) #[(Go.Operand.tmp 26), (Go.Operand.tmp 27), (Go.Operand.tmp 29)] #[67, 67, 81])) (j := 6) (want := false) hF (by kernel_rfl) (by kernel_rfl) (by kernel_rfl) rfl fun ty pos af => ?_
    refine s_callB [_, _, _] hF (enters_of Try.func64 (by kernel_rfl) rfl) rfl (by decide) ((holds83q c.size c.dep v.size v.dep q w38 (by have := hk1.1; omega) (by have := hk1.2; omega) (by have := hk2.1; omega) (by have := hk2.2; omega) (by have := hk1.1; omega) (by have := hk1.2; omega)).mono fun e w' h => ⟨by rw [h.1, hk3b], h.2⟩) fun w40 a B41 hF => ?_
    have sB41 := B41.size
    have hB := hB.trans (B41.mono hB.size)
    have m2 := m2.old B41
    have m3 := m3.old B41
    have m4 := m4.old B41
    have m5 := m5.old B41
    have m7 := m7.old B41
    have hS := hS.below B41
    refine s_end ⟨hS, ?_⟩
    refine d_valg 12 31 25 (j := 6) (want := false) (op := (Go.Op.unOp Go.UnOp.not 4 (Go.Operand.tmp 30))) hF hS (by kernel_rfl) (by kernel_rfl) rfl (fun W hW => x_not rfl) (by kernel_rfl) (by decide) fun a hF => ?_
    refine d_val 13 32 (op := (Go.Op.pick (Go.Operand.tmp 25) (Go.Operand.const (Go.Value.bool true)) (Go.Operand.tmp 31))) hF hS (by kernel_rfl) (fun W hW => x_pick (b := false) rfl rfl) (by kernel_rfl) (by decide) fun a hF => ?_
    refine d_end (by kernel_rfl) (hK10 _ _ ?_)
    refine wp_if hF rfl ?_
    refine wp_skip (hK4 _ _ ?_)
    refine dk2_seq (b4) (b4) (ops := regOps Try.f29 5) (N := 5) (by kernel_rfl) wide_orders (by kernel_rfl) fun w42 hw42 B43 hS K11 hK11 => ?_
    have zw42 : w42.heap.size = w40.heap.size := by rw [hw42]
    have sB43 := B43.size
    have hB := hB.trans (B43.mono hB.size)
    have m2 := m2.old B43
    have m3 := m3.old B43
    have m4 := m4.old B43
    have m5 := m5.old B43
    have m7 := m7.old B43
    have m2_d := m2
    have m3_d := m3
    have m4_d := m4
    have m5_d := m5
    have m7_d := m7
    have hB_d := hB
    refine d_val 1 35 (op := (Go.Op.load 27 (Go.Operand.tmp 2))) hF hS (by kernel_rfl) (fun W hW => x_ldW wide27 (m2_d.k2 hW (by omega)) rfl rfl) (by kernel_rfl) (by decide) fun a hF => ?_
    refine d_val 2 36 (op := (Go.Op.load 27 (Go.Operand.tmp 3))) hF hS (by kernel_rfl) (fun W hW => x_ldW wide27 (m3_d.k2 hW (by omega)) rfl rfl) (by kernel_rfl) (by decide) fun a hF => ?_
    refine d_one 0 (some 34) (Go.Op.call (Go.Call.mk (Go.Callee.value (Go.Operand.func 45)) #[] #[])) (by kernel_rfl) (by kernel_rfl) fun ty pos af => ?_
    refine s_callR (R := fun v w' => ∃ br, v = .pointer (some ⟨br, 0, none⟩) ∧ w42.heap.size ≤ br ∧ Blk w' br 108 [.int .i64 2147483647]) [] hF (enters_of Try.func45 (by kernel_rfl) rfl) rfl (by decide) (newRoom56 w42) ?_
    rintro _ w44 a ⟨br, rfl, hbrw, mbr⟩ B45 hF
    have sB45 := B45.size
    have hB := hB.trans (B45.mono hB.size)
    have m2 := m2.old B45
    have m3 := m3.old B45
    have m4 := m4.old B45
    have m5 := m5.old B45
    have m7 := m7.old B45
    have hS := hS.below B45
    have hR : Room w44 br := ⟨_, mbr, by decide, by decide⟩
    have hbrl := hR.lt
    refine s_end ⟨hS, ?_⟩
    refine d_one 3 (some 37) (Go.Op.call (Go.Call.mk (Go.Callee.value (Go.Operand.func 66)) #[(Go.Operand.tmp 34), (Go.Operand.tmp 35), (Go.Operand.tmp 36)] #[61, 27, 27])) (by kernel_rfl) (by kernel_rfl) fun ty pos af => ?_
    refine s_call (R := fun u w' => ((∃ y, u = tv y ∧ RE w' (AS (fun k => k < w0.heap.size) w44.heap.size) (PT.put v.ess c.ess 0) y) ∧ Room w' br) ∧ Ktw br br w44 w') hF [_, _, _] (enters_of Try.func66 (by kernel_rfl) rfl) rfl (by decide) (put85 w44 br (by omega) (fun k => k < w0.heap.size) (fun k hk => ⟨by omega, by omega⟩) c x (hx.keep hB.size (fun k hk _ => hB.block k hk)) v y (hv.keep hB.size (fun k hk _ => hB.block k hk)) (by have := hk2.2; omega) (by have := hk1.2; omega) hR) ?_
    rintro _ w46 a ⟨⟨⟨y9, rfl, hy9⟩, hR⟩, k47⟩ hF
    have sk47 := k47.size
    have hB := k47.under hB (by omega)
    have m2 := m2.k2 k47 (by omega)
    have m3 := m3.k2 k47 (by omega)
    have m4 := m4.k2 k47 (by omega)
    have m5 := m5.k2 k47 (by omega)
    have m7 := m7.k2 k47 (by omega)
    have hS := hS.trans k47 (by omega)
    refine s_end ⟨hS, ?_⟩
    refine d_one 4 none (Go.Op.store 27 (Go.Operand.tmp 4) (Go.Operand.tmp 37)) (by kernel_rfl) (by kernel_rfl) fun ty pos af => ?_
    refine s_putW hF rfl rfl (size_wide wide27) m4 rfl hy9.one fun w50 m4 o51 => ?_
    have so51 := o51.size
    have hB := hB.trans (o51.below (by omega))
    have m2 := m2.only o51 (by omega)
    have m3 := m3.only o51 (by omega)
    have m5 := m5.only o51 (by omega)
    have m7 := m7.only o51 (by omega)
    have hS := hS.only o51 (by omega)
    have hR := hR.only o51 (by omega)
    have hy9 := hy9.only o51 (by intro h; rcases h with h | h <;> omega)
    refine s_end ⟨hS, ?_⟩
    refine d_end (by kernel_rfl) (hK11 _ _ ?_)
    refine wp_ret (res_cell hF rfl rfl m4 wide27 ⟨_, rfl, ⟨y9, rfl, by rw [hin ⟨hk1, hk2, hk3⟩]; exact hy9.rt⟩, hB⟩)
  · rw [decide_eq_true hk1, decide_eq_true hk2] at hF
    rw [show c.mN = c.size from if_pos hk1, show c.mD = c.dep from if_pos hk1] at m5
    rw [show v.mN = v.size from if_pos hk2, show v.mD = v.dep from if_pos hk2] at m7
    have hk3b := decide_eq_false (fun h => hk3 (hh.1 h))
    refine dk2_seq (b4) (b4) (ops := regOps Try.f29 3) (N := 14) (by kernel_rfl) wide_orders (by kernel_rfl) fun w52 hw52 B53 hS K12 hK12 => ?_
    have zw52 : w52.heap.size = w22.heap.size := by rw [hw52]
    have sB53 := B53.size
    have hB := hB.trans (B53.mono hB.size)
    have m2 := m2.old B53
    have m3 := m3.old B53
    have m4 := m4.old B53
    have m5 := m5.old B53
    have m7 := m7.old B53
    have m2_d := m2
    have m3_d := m3
    have m4_d := m4
    have m5_d := m5
    have m7_d := m7
    have hB_d := hB
    refine d_val 0 19 (op := (Go.Op.move (Go.Operand.tmp 6))) hF hS (by kernel_rfl) (fun W hW => x_move rfl) (by kernel_rfl) (by decide) fun a hF => ?_
    refine d_val 1 20 (op := (Go.Op.unOp Go.UnOp.not 4 (Go.Operand.tmp 19))) hF hS (by kernel_rfl) (fun W hW => x_not rfl) (by kernel_rfl) (by decide) fun a hF => ?_
    refine d_val 2 21 (op := (Go.Op.move (Go.Operand.tmp 20))) hF hS (by kernel_rfl) (fun W hW => x_move rfl) (by kernel_rfl) (by decide) fun a hF => ?_
    refine d_valg 3 22 21 (j := 2) (want := false) (op := (Go.Op.move (Go.Operand.tmp 8))) hF hS (by kernel_rfl) (by kernel_rfl) rfl (fun W hW => x_move rfl) (by kernel_rfl) (by decide) fun a hF => ?_
    refine d_valg 4 23 21 (j := 2) (want := false) (op := (Go.Op.unOp Go.UnOp.not 4 (Go.Operand.tmp 22))) hF hS (by kernel_rfl) (by kernel_rfl) rfl (fun W hW => x_not rfl) (by kernel_rfl) (by decide) fun a hF => ?_
    refine d_val 5 24 (op := (Go.Op.pick (Go.Operand.tmp 21) (Go.Operand.const (Go.Value.bool true)) (Go.Operand.tmp 23))) hF hS (by kernel_rfl) (fun W hW => x_pick (b := false) rfl rfl) (by kernel_rfl) (by decide) fun a hF => ?_
    refine d_val 6 25 (op := (Go.Op.move (Go.Operand.tmp 24))) hF hS (by kernel_rfl) (fun W hW => x_move rfl) (by kernel_rfl) (by decide) fun a hF => ?_
    refine d_valg 7 26 25 (j := 6) (want := false) (op := (Go.Op.load 67 (Go.Operand.tmp 5))) hF hS (by kernel_rfl) (by kernel_rfl) rfl (fun W hW => x_ldW wide70 (m5_d.k2 hW (by omega)) rfl rfl) (by kernel_rfl) (by decide) fun a hF => ?_
    refine d_valg 8 27 25 (j := 6) (want := false) (op := (Go.Op.load 67 (Go.Operand.tmp 7))) hF hS (by kernel_rfl) (by kernel_rfl) rfl (fun W hW => x_ldW wide70 (m7_d.k2 hW (by omega)) rfl rfl) (by kernel_rfl) (by decide) fun a hF => ?_
    refine d_valg 9 28 25 (j := 6) (want := false) (op := (Go.Op.load 27 (Go.Operand.tmp 2))) hF hS (by kernel_rfl) (by kernel_rfl) rfl (fun W hW => x_ldW wide27 (m2_d.k2 hW (by omega)) rfl rfl) (by kernel_rfl) (by decide) fun a hF => ?_
    refine d_oneg 10 25 (some 29) (Go.Op.call (Go.Call.mk (Go.Callee.value (Go.Operand.func 65)) #[(Go.Operand.tmp 28)] #[27])) (j := 6) (want := false) hF (by kernel_rfl) (by kernel_rfl) (by kernel_rfl) rfl fun ty pos af => ?_
    refine s_callB [_] hF (enters_of Try.func65 (by kernel_rfl) rfl) rfl (by decide) ((placesOf84 c x w52 (hx.bel hB) hk1).mono fun e w' h => ⟨by rw [h.1, ← hq], h.2⟩) fun w54 a B55 hF => ?_
    have sB55 := B55.size
    have hB := hB.trans (B55.mono hB.size)
    have m2 := m2.old B55
    have m3 := m3.old B55
    have m4 := m4.old B55
    have m5 := m5.old B55
    have m7 := m7.old B55
    have hS := hS.below B55
    refine s_end ⟨hS, ?_⟩
    refine d_oneg 11 25 (some 30) (Go.Op.call (Go.Call.mk (Go.Callee.value (Go.Operand.func 64)) #[(Go.Operand.tmp 26), (Go.Operand.tmp 27), (Go.Operand.tmp 29)] #[67, 67, 81])) (j := 6) (want := false) hF (by kernel_rfl) (by kernel_rfl) (by kernel_rfl) rfl fun ty pos af => ?_
    refine s_callB [_, _, _] hF (enters_of Try.func64 (by kernel_rfl) rfl) rfl (by decide) ((holds83q c.size c.dep v.size v.dep q w54 (by have := hk1.1; omega) (by have := hk1.2; omega) (by have := hk2.1; omega) (by have := hk2.2; omega) (by have := hk1.1; omega) (by have := hk1.2; omega)).mono fun e w' h => ⟨by rw [h.1, hk3b], h.2⟩) fun w56 a B57 hF => ?_
    have sB57 := B57.size
    have hB := hB.trans (B57.mono hB.size)
    have m2 := m2.old B57
    have m3 := m3.old B57
    have m4 := m4.old B57
    have m5 := m5.old B57
    have m7 := m7.old B57
    have hS := hS.below B57
    refine s_end ⟨hS, ?_⟩
    refine d_valg 12 31 25 (j := 6) (want := false) (op := (Go.Op.unOp Go.UnOp.not 4 (Go.Operand.tmp 30))) hF hS (by kernel_rfl) (by kernel_rfl) rfl (fun W hW => x_not rfl) (by kernel_rfl) (by decide) fun a hF => ?_
    refine d_val 13 32 (op := (Go.Op.pick (Go.Operand.tmp 25) (Go.Operand.const (Go.Value.bool true)) (Go.Operand.tmp 31))) hF hS (by kernel_rfl) (fun W hW => x_pick (b := false) rfl rfl) (by kernel_rfl) (by decide) fun a hF => ?_
    refine d_end (by kernel_rfl) (hK12 _ _ ?_)
    refine wp_if hF rfl ?_
    refine wp_rs fun K13 hK13 => ?_
    refine s_val hF (x_build (vs := []) rfl (b27_ _)) (by decide) fun a hF => ?_
    refine s_putW hF rfl rfl (size_wide wide27) m4 rfl one8 fun w60 m4 o61 => ?_
    have so61 := o61.size
    have hB := hB.trans (o61.below (by omega))
    have m2 := m2.only o61 (by omega)
    have m3 := m3.only o61 (by omega)
    have m5 := m5.only o61 (by omega)
    have m7 := m7.only o61 (by omega)
    refine s_end (hK13 _ _ ?_)
    refine wp_ret (then_ret (res_cell hF rfl rfl m4 wide27 ⟨_, rfl, ⟨⟨0, 0, emptyB, (0, 0, nilS), nilS, nilS⟩, rfl, by rw [hno (fun h => hk3 h.2.2)]; exact (RE_bare _ (fun _ => True)).rt⟩, hB⟩))

set_option maxRecDepth 100000 in
set_option maxHeartbeats 400000 in
theorem Const18 (s : ByteArray) (ls : List Lv) (v : Value) (w0 : World) (hv : RVn w0 (fun k => k < w0.heap.size) v ls) : Calls Try.prog 14 #[.string s, v] w0 fun e w' => ∃ u, e = .returned u ∧ (∃ y, u = tv y ∧ RT w' (.cst s (ls.map slO)) y) ∧ Below w0.heap.size w0 w' := by
  obtain ⟨av, cv, hve, _⟩ := hv.form
  subst hve
  have hB := Below.refl w0.heap.size w0
  have sB := hB.size
  refine calls_fs 10 [(0, .string s), (1, .slice av ls.length cv)] Try.func14 rfl rfl rfl rfl rfl fun a hF => ?_
  refine wp_rs fun K1 hK1 => ?_
  refine s_alloc hF (by decide) zero27 fun w2 b4 a eb4 m4 B3 zb4 hF => ?_
  have sB3 := B3.size
  have hB := hB.trans (B3.mono hB.size)
  refine s_end (hK1 _ _ ?_)
  refine wp_rs fun K2 hK2 => ?_
  refine s_callR (R := fun v w' => ∃ br, v = .pointer (some ⟨br, 0, none⟩) ∧ w2.heap.size ≤ br ∧ Blk w' br 108 [.int .i64 2147483647]) [] hF (enters_of Try.func45 (by kernel_rfl) rfl) rfl (by decide) (newRoom56 w2) ?_
  rintro _ w4 a ⟨br, rfl, hbrw, mbr⟩ B5 hF
  have sB5 := B5.size
  have hB := hB.trans (B5.mono hB.size)
  have m4 := m4.old B5
  have hR : Room w4 br := ⟨_, mbr, by decide, by decide⟩
  have hbrl := hR.lt
  refine s_val hF (x_move rfl) (by decide) fun a hF => ?_
  refine s_val hF (x_move rfl) (by decide) fun a hF => ?_
  refine s_val hF (x_build (vs := [(0, _), (2, _), (4, _)]) rfl (b27_024 _ _ _ _ _ _)) (by decide) fun a hF => ?_
  refine s_call (R := fun u w' => ((∃ y, u = tv y ∧ RE w' (AS (fun k => k < w0.heap.size) w4.heap.size) (CT.ess (.cst s ls 0)) y) ∧ Room w' br) ∧ Ktw br br w4 w') hF [_, _] (enters_of Try.func46 (by kernel_rfl) rfl) rfl (by decide) (owned57 w4 br (by omega) (fun k => k < w0.heap.size) (fun k hk => ⟨by omega, by omega⟩) (.cst s ls 0) ⟨7, 0, s, (0, 0, nilS), .slice av ls.length cv, nilS⟩ ⟨rfl, rfl, hv.keep hB.size (fun k hk _ => hB.block k hk), ⟨_, Rn.nil _ _ 8⟩, ⟨.mk 0 0 [], .mk (xs := []) (Rn.nil _ _ 3) rfl (fun i x l h => by simp at h)⟩, _, hv.keep hB.size (fun k hk _ => hB.block k hk)⟩ hR) ?_
  rintro _ w6 a ⟨⟨⟨y9, rfl, hy9⟩, hR⟩, k7⟩ hF
  have sk7 := k7.size
  have hB := k7.under hB (by omega)
  have m4 := m4.k2 k7 (by omega)
  refine s_putW hF rfl rfl (size_wide wide27) m4 rfl hy9.one fun w10 m4 o11 => ?_
  have so11 := o11.size
  have hB := hB.trans (o11.below (by omega))
  have hR := hR.only o11 (by omega)
  have hy9 := hy9.only o11 (by intro h; rcases h with h | h <;> omega)
  refine s_end (hK2 _ _ ?_)
  refine wp_ret (res_cell hF rfl rfl m4 wide27 ⟨_, rfl, ⟨y9, rfl, hy9.rt⟩, hB⟩)

set_option maxRecDepth 100000 in
set_option maxHeartbeats 400000 in
theorem Lam21 (c v : CT) (x y : C8) (w0 : World) (hx : RC w0 (fun k => k < w0.heap.size) c x) (hv : RC w0 (fun k => k < w0.heap.size) v y) : Calls Try.prog 17 #[tv x, tv y] w0 fun e w' => ∃ u, e = .returned u ∧ (∃ y, u = tv y ∧ RT w' (.two 4 c.ess v.ess) y) ∧ Below w0.heap.size w0 w' := by
  have hB := Below.refl w0.heap.size w0
  have sB := hB.size
  refine calls_fs 10 [(0, tv x), (1, tv y)] Try.func17 rfl rfl rfl rfl rfl fun a hF => ?_
  refine wp_rs fun K1 hK1 => ?_
  refine s_box (tc x) hF (by decide) rfl rfl fun w2 b2 a eb2 m2 B3 zb2 hF => ?_
  have sB3 := B3.size
  have hB := hB.trans (B3.mono hB.size)
  refine s_box (tc y) hF (by decide) rfl rfl fun w4 b3 a eb3 m3 B5 zb3 hF => ?_
  have sB5 := B5.size
  have hB := hB.trans (B5.mono hB.size)
  have m2 := m2.old B5
  refine s_alloc hF (by decide) zero27 fun w6 b4 a eb4 m4 B7 zb4 hF => ?_
  have sB7 := B7.size
  have hB := hB.trans (B7.mono hB.size)
  have m2 := m2.old B7
  have m3 := m3.old B7
  refine s_end (hK1 _ _ ?_)
  refine dk2_seq (b4) (b4) (ops := regOps Try.f17 1) (N := 6) (by kernel_rfl) wide_orders (by kernel_rfl) fun w8 hw8 B9 hS K2 hK2 => ?_
  have zw8 : w8.heap.size = w6.heap.size := by rw [hw8]
  have sB9 := B9.size
  have hB := hB.trans (B9.mono hB.size)
  have m2 := m2.old B9
  have m3 := m3.old B9
  have m4 := m4.old B9
  have m2_d := m2
  have m3_d := m3
  have m4_d := m4
  have hB_d := hB
  refine d_val 1 6 (op := (Go.Op.load 27 (Go.Operand.tmp 2))) hF hS (by kernel_rfl) (fun W hW => x_ldW wide27 (m2_d.k2 hW (by omega)) rfl rfl) (by kernel_rfl) (by decide) fun a hF => ?_
  refine d_val 2 7 (op := (Go.Op.load 27 (Go.Operand.tmp 3))) hF hS (by kernel_rfl) (fun W hW => x_ldW wide27 (m3_d.k2 hW (by omega)) rfl rfl) (by kernel_rfl) (by decide) fun a hF => ?_
  refine d_two 0 3 (by kernel_rfl) ?_ ?_
  · refine d_op 0 (some 5) (Go.Op.call (Go.Call.mk (Go.Callee.value (Go.Operand.func 45)) #[] #[])) (by kernel_rfl) fun ty pos af => ?_
    refine s_callR (R := fun v w' => ∃ br, v = .pointer (some ⟨br, 0, none⟩) ∧ w8.heap.size ≤ br ∧ Blk w' br 108 [.int .i64 2147483647]) [] hF (enters_of Try.func45 (by kernel_rfl) rfl) rfl (by decide) (newRoom56 w8) ?_
    rintro _ w10 a ⟨br, rfl, hbrw, mbr⟩ B11 hF
    have sB11 := B11.size
    have hB := hB.trans (B11.mono hB.size)
    have m2 := m2.old B11
    have m3 := m3.old B11
    have m4 := m4.old B11
    have hS := hS.below B11
    have hR : Room w10 br := ⟨_, mbr, by decide, by decide⟩
    have hbrl := hR.lt
    refine s_end ⟨hS, ?_⟩
    refine d_one 3 (some 8) (Go.Op.buildSlice 25 2 #[(0, (Go.Operand.tmp 6)), (1, (Go.Operand.tmp 7))]) (by kernel_rfl) (by kernel_rfl) fun ty pos af => ?_
    refine s_litG [tv x, tv y] el25 hF (by decide) rfl (by simp [Value.cells, tc]) rfl (by decide) (by decide) fun w12 bl a ebl ml B13 zbl hF => ?_
    have sB13 := B13.size
    have hB := hB.trans (B13.mono hB.size)
    have m2 := m2.old B13
    have m3 := m3.old B13
    have m4 := m4.old B13
    have hS := hS.below B13
    have hR := hR.below B13
    have ml : Blk w12 bl 27 (tc x ++ tc y) := by simpa [Value.cells] using ml
    refine s_end ⟨hS, ?_⟩
    refine d_one 4 (some 9) (Go.Op.call (Go.Call.mk (Go.Callee.value (Go.Operand.func 49)) #[(Go.Operand.tmp 5), (Go.Operand.const (Go.Value.int Go.IntKind.i64 4)), (Go.Operand.tmp 8)] #[61, 3, 25])) (by kernel_rfl) (by kernel_rfl) fun ty pos af => ?_
    have hbl1 := ml.lt
    have hrk : RK w12 (fun k => k < w0.heap.size ∨ k = bl) (.slice (some ⟨bl, 0, none⟩) 2 2) [c, v] := ⟨[x, y], ⟨by simpa using Rd.blk ml (n := 2) rfl, fun _ b hb => by simp [Value.ownBlock] at hb; exact .inr hb.symm⟩, rfl, fun i x2 c2 e1 e2 => by rcases i with _ | _ | i; (· simp at e1 e2; subst e1 e2; exact RC.mono (fun k hk => .inl hk) (hx.keep hB.size (fun k hk _ => hB.block k hk))); (· simp at e1 e2; subst e1 e2; exact RC.mono (fun k hk => .inl hk) (hv.keep hB.size (fun k hk _ => hB.block k hk))); simp at e1⟩
    refine s_call (R := fun u w' => ((∃ v', u = tv ⟨4, 0, emptyB, (0, 0, nilS), nilS, v'⟩ ∧ RKE w' (AS (fun k => k < w0.heap.size ∨ k = bl) w12.heap.size) v' (List.map CT.ess [c, v])) ∧ Room w' br) ∧ Ktw br br w12 w') hF [_, _, _] (enters_of Try.func49 (by kernel_rfl) rfl) rfl (by decide) (joined60 w12 br (by omega) (fun k => k < w0.heap.size ∨ k = bl) (fun k hk => by rcases hk with hk | hk <;> omega) 4 [c, v] _ hrk (by simp) hR) ?_
    rintro _ w14 a ⟨⟨⟨v9, rfl, hy9⟩, hR⟩, k15⟩ hF
    have sk15 := k15.size
    have hB := k15.under hB (by omega)
    have m2 := m2.k2 k15 (by omega)
    have m3 := m3.k2 k15 (by omega)
    have m4 := m4.k2 k15 (by omega)
    have ml := ml.k2 k15 (by omega)
    have hS := hS.trans k15 (by omega)
    have h1v9 := hy9.one
    refine s_end ⟨hS, ?_⟩
    refine d_one 5 none (Go.Op.store 27 (Go.Operand.tmp 4) (Go.Operand.tmp 9)) (by kernel_rfl) (by kernel_rfl) fun ty pos af => ?_
    refine s_putW hF rfl rfl (size_wide wide27) m4 rfl (one_tc0 _ _ _ _ h1v9) fun w18 m4 o19 => ?_
    have so19 := o19.size
    have hB := hB.trans (o19.below (by omega))
    have m2 := m2.only o19 (by omega)
    have m3 := m3.only o19 (by omega)
    have hS := hS.only o19 (by omega)
    have hR := hR.only o19 (by omega)
    have hy9 := hy9.only o19 (by intro h; rcases h with (h | h) | h <;> omega)
    refine s_end ⟨hS, ?_⟩
    refine d_end (by kernel_rfl) (hK2 _ _ ?_)
    refine wp_ret (res_cell hF rfl rfl m4 wide27 ⟨_, rfl, ⟨_, rfl, (RE_two (by decide) hy9).rt⟩, hB⟩)
  · refine d_op 3 (some 8) (Go.Op.buildSlice 25 2 #[(0, (Go.Operand.tmp 6)), (1, (Go.Operand.tmp 7))]) (by kernel_rfl) fun ty pos af => ?_
    refine s_litG [tv x, tv y] el25 hF (by decide) rfl (by simp [Value.cells, tc]) rfl (by decide) (by decide) fun w20 bl a ebl ml B21 zbl hF => ?_
    have sB21 := B21.size
    have hB := hB.trans (B21.mono hB.size)
    have m2 := m2.old B21
    have m3 := m3.old B21
    have m4 := m4.old B21
    have hS := hS.below B21
    have ml : Blk w20 bl 27 (tc x ++ tc y) := by simpa [Value.cells] using ml
    refine s_end ⟨hS, ?_⟩
    refine d_one 0 (some 5) (Go.Op.call (Go.Call.mk (Go.Callee.value (Go.Operand.func 45)) #[] #[])) (by kernel_rfl) (by kernel_rfl) fun ty pos af => ?_
    refine s_callR (R := fun v w' => ∃ br, v = .pointer (some ⟨br, 0, none⟩) ∧ w20.heap.size ≤ br ∧ Blk w' br 108 [.int .i64 2147483647]) [] hF (enters_of Try.func45 (by kernel_rfl) rfl) rfl (by decide) (newRoom56 w20) ?_
    rintro _ w22 a ⟨br, rfl, hbrw, mbr⟩ B23 hF
    have sB23 := B23.size
    have hB := hB.trans (B23.mono hB.size)
    have m2 := m2.old B23
    have m3 := m3.old B23
    have m4 := m4.old B23
    have ml := ml.old B23
    have hS := hS.below B23
    have hR : Room w22 br := ⟨_, mbr, by decide, by decide⟩
    have hbrl := hR.lt
    refine s_end ⟨hS, ?_⟩
    refine d_one 4 (some 9) (Go.Op.call (Go.Call.mk (Go.Callee.value (Go.Operand.func 49)) #[(Go.Operand.tmp 5), (Go.Operand.const (Go.Value.int Go.IntKind.i64 4)), (Go.Operand.tmp 8)] #[61, 3, 25])) (by kernel_rfl) (by kernel_rfl) fun ty pos af => ?_
    have hbl1 := ml.lt
    have hrk : RK w22 (fun k => k < w0.heap.size ∨ k = bl) (.slice (some ⟨bl, 0, none⟩) 2 2) [c, v] := ⟨[x, y], ⟨by simpa using Rd.blk ml (n := 2) rfl, fun _ b hb => by simp [Value.ownBlock] at hb; exact .inr hb.symm⟩, rfl, fun i x2 c2 e1 e2 => by rcases i with _ | _ | i; (· simp at e1 e2; subst e1 e2; exact RC.mono (fun k hk => .inl hk) (hx.keep hB.size (fun k hk _ => hB.block k hk))); (· simp at e1 e2; subst e1 e2; exact RC.mono (fun k hk => .inl hk) (hv.keep hB.size (fun k hk _ => hB.block k hk))); simp at e1⟩
    refine s_call (R := fun u w' => ((∃ v', u = tv ⟨4, 0, emptyB, (0, 0, nilS), nilS, v'⟩ ∧ RKE w' (AS (fun k => k < w0.heap.size ∨ k = bl) w22.heap.size) v' (List.map CT.ess [c, v])) ∧ Room w' br) ∧ Ktw br br w22 w') hF [_, _, _] (enters_of Try.func49 (by kernel_rfl) rfl) rfl (by decide) (joined60 w22 br (by omega) (fun k => k < w0.heap.size ∨ k = bl) (fun k hk => by rcases hk with hk | hk <;> omega) 4 [c, v] _ hrk (by simp) hR) ?_
    rintro _ w24 a ⟨⟨⟨v9, rfl, hy9⟩, hR⟩, k25⟩ hF
    have sk25 := k25.size
    have hB := k25.under hB (by omega)
    have m2 := m2.k2 k25 (by omega)
    have m3 := m3.k2 k25 (by omega)
    have m4 := m4.k2 k25 (by omega)
    have ml := ml.k2 k25 (by omega)
    have hS := hS.trans k25 (by omega)
    have h1v9 := hy9.one
    refine s_end ⟨hS, ?_⟩
    refine d_one 5 none (Go.Op.store 27 (Go.Operand.tmp 4) (Go.Operand.tmp 9)) (by kernel_rfl) (by kernel_rfl) fun ty pos af => ?_
    refine s_putW hF rfl rfl (size_wide wide27) m4 rfl (one_tc0 _ _ _ _ h1v9) fun w28 m4 o29 => ?_
    have so29 := o29.size
    have hB := hB.trans (o29.below (by omega))
    have m2 := m2.only o29 (by omega)
    have m3 := m3.only o29 (by omega)
    have hS := hS.only o29 (by omega)
    have hR := hR.only o29 (by omega)
    have hy9 := hy9.only o29 (by intro h; rcases h with (h | h) | h <;> omega)
    refine s_end ⟨hS, ?_⟩
    refine d_end (by kernel_rfl) (hK2 _ _ ?_)
    refine wp_ret (res_cell hF rfl rfl m4 wide27 ⟨_, rfl, ⟨_, rfl, (RE_two (by decide) hy9).rt⟩, hB⟩)

end Go.Proofs.Ytaclncmkdpjnlaa
