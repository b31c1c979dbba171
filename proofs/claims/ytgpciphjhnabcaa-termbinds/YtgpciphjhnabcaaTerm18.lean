/- TermBinds. -/
import Derived.Test.YtgpciphjhnabcaaTerm17
namespace Go.Proofs.Ytgpciphjhnabcaa
open Go.RowKit Go.Shelf
set_option linter.unusedVariables false
set_option linter.unusedSimpArgs false

/-- Behind b more binders a variable is looser by b less. -/
theorem loose_up {vars : Int} : ∀ (c : CT) (d : Int), c.okV vars → 0 ≤ d → c.ess.loose d ≤ 1048577 ∧ c.ess.loose (d + 1) = max 0 (c.ess.loose d - 1)
  | .var n m, d, h, hd => by
    simp only [CT.okV] at h
    simp only [CT.ess, PT.loose]
    split <;> split <;> omega
  | .two k a b m, d, h, hd => by
    have h1 := loose_up a d h.1 hd
    have h2 := loose_up b (d + if k = 3 ∨ k = 4 then 1 else 0) h.2 (by split <;> omega)
    simp only [CT.ess, PT.loose]
    rw [show d + 1 + (if k = 3 ∨ k = 4 then 1 else 0) = d + (if k = 3 ∨ k = 4 then 1 else 0) + 1 by omega]
    omega
  | .lt a b c m, d, h, hd => by
    have h1 := loose_up a d h.1 hd
    have h2 := loose_up b d h.2.1 hd
    have h3 := loose_up c (d + 1) h.2.2 (by omega)
    simp only [CT.ess, PT.loose]
    omega
  | .sort l m, d, h, hd => by simp only [CT.ess, PT.loose]; omega
  | .cst s ls m, d, h, hd => by simp only [CT.ess, PT.loose]; omega
  | .odd k m, d, h, hd => h.elim
theorem looseR_ok {c : CT} (h : c.ok) : c.looseR = c.ess.loose 0 := if_pos h
theorem mN_ok {c : CT} (h : c.ok) : c.mN = c.size := if_pos h
theorem mD_ok {c : CT} (h : c.ok) : c.mD = c.dep := if_pos h

set_option maxRecDepth 100000 in
set_option maxHeartbeats 400000 in
theorem termBinds_walk (a0 b0 : CT) (x y : C8) (w0 : World) (hx : RC w0 (fun k => k < w0.heap.size) a0 x) (hy : RC w0 (fun k => k < w0.heap.size) b0 y) (fa : a0.fit) (fb : b0.fit) : Calls Try.prog 13 #[tv x, tv y] w0 fun e w' => e = .returned (.bool true) ∧ Below w0.heap.size w0 w' := by
  have hB := Below.refl w0.heap.size w0
  have sB := hB.size
  refine calls_fs 95 [(0, tv x), (1, tv y)] Try.func13 rfl rfl rfl rfl rfl fun a hF => ?_
  refine wp_rs fun K1 hK1 => ?_
  refine s_box (tc x) hF (by decide) rfl rfl fun w2 b2 a eb2 m2 B3 zb2 hF => ?_
  have sB3 := B3.size
  have hB := hB.trans (B3.mono hB.size)
  refine s_box (tc y) hF (by decide) rfl rfl fun w4 b3 a eb3 m3 B5 zb3 hF => ?_
  have sB5 := B5.size
  have hB := hB.trans (B5.mono hB.size)
  have m2 := m2.old B5
  refine s_val hF (x_assign rfl) (by decide) fun a hF => ?_
  refine s_end (hK1 _ _ ?_)
  refine wp_seq_k fun K2 hK2 => ?_
  refine wp_rs fun K3 hK3 => ?_
  refine s_val hF (x_ldW wide27 m2 rfl rfl) (by decide) fun a hF => ?_
  refine s_val hF (x_ldW wide27 m3 rfl rfl) (by decide) fun a hF => ?_
  refine s_litG [tv x, tv y] el25 hF (by decide) rfl (by simp [Value.cells, tc]) rfl (by decide) (by decide) fun w6 bl a ebl ml B7 zbl hF => ?_
  have sB7 := B7.size
  have hB := hB.trans (B7.mono hB.size)
  have m2 := m2.old B7
  have m3 := m3.old B7
  have ml : Blk w6 bl 27 (tc x ++ tc y) := by simpa [Value.cells] using ml
  have hrk : RK w6 (fun k => k < w6.heap.size) (.slice (some ⟨bl, 0, none⟩) 2 2) [a0, b0] := ⟨[x, y], ⟨by simpa using Rd.blk ml (n := 2) rfl, fun _ b hb => by simp [Value.ownBlock] at hb; subst hb; exact ml.lt⟩, rfl, fun i x2 c2 e1 e2 => by rcases i with _ | _ | i; (· simp at e1 e2; subst e1 e2; exact hx.bel hB); (· simp at e1 e2; subst e1 e2; exact hy.bel hB); simp at e1⟩
  refine s_callR (R := fun u w' => ∃ b, u = .bool b ∧ (b = true → ∀ c ∈ [a0, b0], c.wf)) [_] hF (enters_of Try.func50 (by kernel_rfl) rfl) rfl (by decide) (whole50 [a0, b0] _ w6 hrk (by simp) (by intro c hc; simp at hc; rcases hc with rfl | rfl <;> assumption)) ?_
  rintro _ w8 a ⟨bw, rfl, hwf⟩ B9 hF
  have sB9 := B9.size
  have hB := hB.trans (B9.mono hB.size)
  have m2 := m2.old B9
  have m3 := m3.old B9
  refine s_val hF (x_not rfl) (by decide) fun a hF => ?_
  refine s_end (hK3 _ _ ?_)
  refine wp_ifb hF rfl (fun hc13 => ?_) (fun hc13 => ?_)
  · refine wp_rs fun K4 hK4 => ?_
    refine s_callB [] hF (enters_of Try.func15 (by kernel_rfl) rfl) rfl (by decide) (awake15 w8) fun w10 a B11 hF => ?_
    have sB11 := B11.size
    have hB := hB.trans (B11.mono hB.size)
    have m2 := m2.old B11
    have m3 := m3.old B11
    refine s_val hF (x_assign rfl) (by decide) fun a hF => ?_
    refine s_end (hK4 _ _ ?_)
    refine wp_ret (then_ret (res_slot hF rfl rfl ⟨rfl, hB⟩))
  · have hb9 : bw = true := by simpa using hc13
    have hw := hwf hb9
    have wa := hw a0 (by simp)
    have wb := hw b0 (by simp)
    have oa := wa.ok
    have ob := wb.ok
    have happs : PT.appsR a0.ess [b0.ess] = .two 6 a0.ess b0.ess := by unfold PT.appsR; rw [if_pos]; rfl; unfold PT.ok; simp only [PT.apps, List.foldl_cons, List.foldl_nil, PT.size, PT.dep, CT.ess_size, CT.ess_dep]; have := wa.2; have := wb.2; omega
    refine wp_skip (hK2 _ _ ?_)
    refine wp_rs fun K5 hK5 => ?_
    refine s_val hF (x_ldW wide27 m2 rfl rfl) (by decide) fun a hF => ?_
    refine s_val hF (x_ldW wide27 m3 rfl rfl) (by decide) fun a hF => ?_
    refine s_callR (R := fun u w' => ∃ y, u = tv y ∧ RT w' (.two 3 a0.ess b0.ess) y) [_, _] hF (enters_of Try.func20 (by kernel_rfl) rfl) rfl (by decide) (Pi20 a0 b0 x y w8 (hx.bel hB) (hy.bel hB)) ?_
    rintro _ w12 a ⟨yp, rfl, hp⟩ B13 hF
    have sB13 := B13.size
    have hB := hB.trans (B13.mono hB.size)
    have m2 := m2.old B13
    have m3 := m3.old B13
    obtain ⟨cp, hcp, hep⟩ := hp
    have hBp := Below.refl w12.heap.size w12
    have sBp := hBp.size
    refine s_alloc hF (by decide) zero27 fun w14 b5 a eb5 m5 B15 zb5 hF => ?_
    have sB15 := B15.size
    have hB := hB.trans (B15.mono hB.size)
    have hBp := hBp.trans (B15.mono hBp.size)
    have m2 := m2.old B15
    have m3 := m3.old B15
    refine s_putW hF rfl rfl (size_wide wide27) m5 rfl hcp.one fun w18 m5 o19 => ?_
    have so19 := o19.size
    have hB := hB.trans (o19.below (by omega))
    have hBp := hBp.trans (o19.below (by omega))
    have m2 := m2.only o19 (by omega)
    have m3 := m3.only o19 (by omega)
    refine s_end (hK5 _ _ ?_)
    refine wp_rs fun K6 hK6 => ?_
    refine s_val hF (x_ldW wide27 m2 rfl rfl) (by decide) fun a hF => ?_
    refine s_val hF (x_ldW wide27 m3 rfl rfl) (by decide) fun a hF => ?_
    refine s_litG [tv y] el25 hF (by decide) rfl (by simp [Value.cells, tc]) rfl (by decide) (by decide) fun w20 bl a ebl ml B21 zbl hF => ?_
    have sB21 := B21.size
    have hB := hB.trans (B21.mono hB.size)
    have hBp := hBp.trans (B21.mono hBp.size)
    have m2 := m2.old B21
    have m3 := m3.old B21
    have m5 := m5.old B21
    have ml : Blk w20 bl 27 (tc y) := by simpa [Value.cells] using ml
    have hrk : RK w20 (fun k => k < w20.heap.size) (.slice (some ⟨bl, 0, none⟩) 1 1) [b0] := ⟨[y], ⟨by simpa using Rd.blk ml (n := 1) rfl, fun _ b hb => by simp [Value.ownBlock] at hb; subst hb; exact ml.lt⟩, rfl, fun i x2 c2 e1 e2 => by rcases i with _ | i; (· simp at e1 e2; subst e1 e2; exact hy.bel hB); simp at e1⟩
    refine s_callR (R := fun u w' => ∃ y, u = tv y ∧ RT w' (PT.appsR a0.ess ([b0].map CT.ess)) y) [_, _] hF (enters_of Try.func24 (by kernel_rfl) rfl) rfl (by decide) (Apps24 a0 x [b0] _ w20 (hx.bel hB) hrk (by simp)) ?_
    rintro _ w22 a ⟨yf, rfl, hf⟩ B23 hF
    have sB23 := B23.size
    have hB := hB.trans (B23.mono hB.size)
    have hBp := hBp.trans (B23.mono hBp.size)
    have m2 := m2.old B23
    have m3 := m3.old B23
    have m5 := m5.old B23
    obtain ⟨cf, hcf, hef⟩ := hf
    simp only [List.map_cons, List.map_nil] at hef
    rw [happs] at hef
    have hBf := Below.refl w22.heap.size w22
    have sBf := hBf.size
    refine s_alloc hF (by decide) zero27 fun w24 b6 a eb6 m6 B25 zb6 hF => ?_
    have sB25 := B25.size
    have hB := hB.trans (B25.mono hB.size)
    have hBp := hBp.trans (B25.mono hBp.size)
    have hBf := hBf.trans (B25.mono hBf.size)
    have m2 := m2.old B25
    have m3 := m3.old B25
    have m5 := m5.old B25
    refine s_putW hF rfl rfl (size_wide wide27) m6 rfl hcf.one fun w28 m6 o29 => ?_
    have so29 := o29.size
    have hB := hB.trans (o29.below (by omega))
    have hBp := hBp.trans (o29.below (by omega))
    have hBf := hBf.trans (o29.below (by omega))
    have m2 := m2.only o29 (by omega)
    have m3 := m3.only o29 (by omega)
    have m5 := m5.only o29 (by omega)
    refine s_end (hK6 _ _ ?_)
    refine wp_rs fun K7 hK7 => ?_
    refine s_val hF (x_ldW wide27 m2 rfl rfl) (by decide) fun a hF => ?_
    refine s_val hF (x_ldW wide27 m2 rfl rfl) (by decide) fun a hF => ?_
    refine s_val hF (x_ldW wide27 m3 rfl rfl) (by decide) fun a hF => ?_
    refine s_callR (R := fun u w' => ∃ y, u = tv y ∧ RT w' (.lt a0.ess a0.ess b0.ess) y) [_, _, _] hF (enters_of Try.func22 (by kernel_rfl) rfl) rfl (by decide) (Let22 a0 a0 b0 x x y w28 (hx.bel hB) (hx.bel hB) (hy.bel hB)) ?_
    rintro _ w30 a ⟨yl, rfl, hl⟩ B31 hF
    have sB31 := B31.size
    have hB := hB.trans (B31.mono hB.size)
    have hBp := hBp.trans (B31.mono hBp.size)
    have hBf := hBf.trans (B31.mono hBf.size)
    have m2 := m2.old B31
    have m3 := m3.old B31
    have m5 := m5.old B31
    have m6 := m6.old B31
    obtain ⟨cl, hcl, hel⟩ := hl
    have hBl := Below.refl w30.heap.size w30
    have sBl := hBl.size
    refine s_alloc hF (by decide) zero27 fun w32 b7 a eb7 m7 B33 zb7 hF => ?_
    have sB33 := B33.size
    have hB := hB.trans (B33.mono hB.size)
    have hBp := hBp.trans (B33.mono hBp.size)
    have hBf := hBf.trans (B33.mono hBf.size)
    have hBl := hBl.trans (B33.mono hBl.size)
    have m2 := m2.old B33
    have m3 := m3.old B33
    have m5 := m5.old B33
    have m6 := m6.old B33
    refine s_putW hF rfl rfl (size_wide wide27) m7 rfl hcl.one fun w36 m7 o37 => ?_
    have so37 := o37.size
    have hB := hB.trans (o37.below (by omega))
    have hBp := hBp.trans (o37.below (by omega))
    have hBf := hBf.trans (o37.below (by omega))
    have hBl := hBl.trans (o37.below (by omega))
    have m2 := m2.only o37 (by omega)
    have m3 := m3.only o37 (by omega)
    have m5 := m5.only o37 (by omega)
    have m6 := m6.only o37 (by omega)
    refine s_end (hK7 _ _ ?_)
    have wa2 := wa.2
    have wb2 := wb.2
    have hsp := cp.ess_size
    have hdp := cp.ess_dep
    rw [hep] at hsp hdp
    simp only [PT.size, PT.dep, CT.ess_size, CT.ess_dep] at hsp hdp
    have hsf := cf.ess_size
    have hdf := cf.ess_dep
    rw [hef] at hsf hdf
    simp only [PT.size, PT.dep, CT.ess_size, CT.ess_dep] at hsf hdf
    have hsl := cl.ess_size
    have hdl := cl.ess_dep
    rw [hel] at hsl hdl
    simp only [PT.size, PT.dep, CT.ess_size, CT.ess_dep] at hsl hdl
    have op : cp.ok := ⟨by omega, by omega⟩
    have of : cf.ok := ⟨by omega, by omega⟩
    have ol : cl.ok := ⟨by omega, by omega⟩
    have ua := loose_up a0 0 wa.1 (by decide)
    have ub := loose_up b0 0 wb.1 (by decide)
    have na := a0.ess.loose_nn 0
    have nb := b0.ess.loose_nn 0
    have la : a0.looseR = a0.ess.loose 0 := looseR_ok oa
    have lb : b0.looseR = b0.ess.loose 0 := looseR_ok ob
    have lp : cp.looseR = max (a0.ess.loose 0) (b0.ess.loose (0 + 1)) := by rw [looseR_ok op, hep]; simp only [PT.loose]; rw [if_pos (by decide)]
    have lf : cf.looseR = max (a0.ess.loose 0) (b0.ess.loose 0) := by rw [looseR_ok of, hef]; simp only [PT.loose]; rw [if_neg (by decide)]; simp
    have ll : cl.looseR = max (a0.ess.loose 0) (max (a0.ess.loose 0) (b0.ess.loose (0 + 1))) := by rw [looseR_ok ol, hel]; rfl
    have zp := mN_ok op
    have zf := mN_ok of
    have zl := mN_ok ol
    have za := mN_ok oa
    have zb := mN_ok ob
    have df := mD_ok of
    have da := mD_ok oa
    have db := mD_ok ob
    have hpk : yp.k = 3 := (RE_two_inv ⟨cp, hcp, hep⟩).choose_spec.choose_spec.choose_spec.choose_spec.choose_spec.choose_spec.2.2.1
    refine dk2_seq (w36.heap.size) (w36.heap.size) (ops := regOps Try.f13 6) (N := 7) (by kernel_rfl) wide_orders (by kernel_rfl) fun w38 hw38 B39 hS K8 hK8 => ?_
    have zw38 : w38.heap.size = w36.heap.size := by rw [hw38]
    have sB39 := B39.size
    have hB := hB.trans (B39.mono hB.size)
    have hBp := hBp.trans (B39.mono hBp.size)
    have hBf := hBf.trans (B39.mono hBf.size)
    have hBl := hBl.trans (B39.mono hBl.size)
    have m2 := m2.old B39
    have m3 := m3.old B39
    have m5 := m5.old B39
    have m6 := m6.old B39
    have m7 := m7.old B39
    have m2_d := m2
    have m3_d := m3
    have m5_d := m5
    have m6_d := m6
    have m7_d := m7
    have hB_d := hB
    have hBp_d := hBp
    have hBf_d := hBf
    have hBl_d := hBl
    refine d_val 0 26 (op := (Go.Op.load 27 (Go.Operand.tmp 2))) hF hS (by kernel_rfl) (fun W hW => x_ldW wide27 (m2_d.k2 hW (by omega)) rfl rfl) (by kernel_rfl) (by decide) fun a hF => ?_
    refine d_val 2 28 (op := (Go.Op.load 27 (Go.Operand.tmp 3))) hF hS (by kernel_rfl) (fun W hW => x_ldW wide27 (m3_d.k2 hW (by omega)) rfl rfl) (by kernel_rfl) (by decide) fun a hF => ?_
    refine d_one 1 (some 27) (Go.Op.call (Go.Call.mk (Go.Callee.value (Go.Operand.func 36)) #[(Go.Operand.tmp 26)] #[27])) (by kernel_rfl) (by kernel_rfl) fun ty pos af => ?_
    refine s_callB [_] hF (enters_of Try.func36 (by kernel_rfl) rfl) rfl (by decide) (Loose36 a0 x w38 (hx.bel hB)) fun w40 a B41 hF => ?_
    have sB41 := B41.size
    have hB := hB.trans (B41.mono hB.size)
    have hBp := hBp.trans (B41.mono hBp.size)
    have hBf := hBf.trans (B41.mono hBf.size)
    have hBl := hBl.trans (B41.mono hBl.size)
    have m2 := m2.old B41
    have m3 := m3.old B41
    have m5 := m5.old B41
    have m6 := m6.old B41
    have m7 := m7.old B41
    have hS := hS.below B41
    refine s_end ⟨hS, ?_⟩
    refine d_one 3 (some 29) (Go.Op.call (Go.Call.mk (Go.Callee.value (Go.Operand.func 36)) #[(Go.Operand.tmp 28)] #[27])) (by kernel_rfl) (by kernel_rfl) fun ty pos af => ?_
    refine s_callB [_] hF (enters_of Try.func36 (by kernel_rfl) rfl) rfl (by decide) (Loose36 b0 y w40 (hy.bel hB)) fun w42 a B43 hF => ?_
    have sB43 := B43.size
    have hB := hB.trans (B43.mono hB.size)
    have hBp := hBp.trans (B43.mono hBp.size)
    have hBf := hBf.trans (B43.mono hBf.size)
    have hBl := hBl.trans (B43.mono hBl.size)
    have m2 := m2.old B43
    have m3 := m3.old B43
    have m5 := m5.old B43
    have m6 := m6.old B43
    have m7 := m7.old B43
    have hS := hS.below B43
    refine s_end ⟨hS, ?_⟩
    refine d_val 4 30 (op := (Go.Op.binOp Go.BinOp.sub 3 (Go.Operand.tmp 29) (Go.Operand.const (Go.Value.int Go.IntKind.i64 1)) 3)) hF hS (by kernel_rfl) (fun W hW => x_sub (by omega) (by omega) rfl rfl) (by kernel_rfl) (by decide) fun a hF => ?_
    refine d_val 5 31 (op := (Go.Op.call (Go.Call.mk (Go.Callee.builtin Go.Builtin.max) #[(Go.Operand.tmp 27), (Go.Operand.tmp 30)] #[3, 3]))) hF hS (by kernel_rfl) (fun W hW => x_imax rfl rfl) (by kernel_rfl) (by decide) fun a hF => ?_
    refine d_val 6 8 (op := (Go.Op.assign (Go.Operand.tmp 31))) hF hS (by kernel_rfl) (fun W hW => x_assign rfl) (by kernel_rfl) (by decide) fun a hF => ?_
    refine d_end (by kernel_rfl) (hK8 _ _ ?_)
    refine dk2_seq (w42.heap.size) (w42.heap.size) (ops := regOps Try.f13 7) (N := 64) (by kernel_rfl) wide_orders (by kernel_rfl) fun w44 hw44 B45 hS K9 hK9 => ?_
    have zw44 : w44.heap.size = w42.heap.size := by rw [hw44]
    have sB45 := B45.size
    have hB := hB.trans (B45.mono hB.size)
    have hBp := hBp.trans (B45.mono hBp.size)
    have hBf := hBf.trans (B45.mono hBf.size)
    have hBl := hBl.trans (B45.mono hBl.size)
    have m2 := m2.old B45
    have m3 := m3.old B45
    have m5 := m5.old B45
    have m6 := m6.old B45
    have m7 := m7.old B45
    have m2_d := m2
    have m3_d := m3
    have m5_d := m5
    have m6_d := m6
    have m7_d := m7
    have hB_d := hB
    have hBp_d := hBp
    have hBf_d := hBf
    have hBl_d := hBl
    refine d_val 0 32 (op := (Go.Op.load 27 (Go.Operand.tmp 5))) hF hS (by kernel_rfl) (fun W hW => x_ldW wide27 (m5_d.k2 hW (by omega)) rfl rfl) (by kernel_rfl) (by decide) fun a hF => ?_
    refine d_val 2 34 (op := (Go.Op.move (Go.Operand.tmp 8))) hF hS (by kernel_rfl) (fun W hW => x_move rfl) (by kernel_rfl) (by decide) fun a hF => ?_
    refine d_one 1 (some 33) (Go.Op.call (Go.Call.mk (Go.Callee.value (Go.Operand.func 36)) #[(Go.Operand.tmp 32)] #[27])) (by kernel_rfl) (by kernel_rfl) fun ty pos af => ?_
    refine s_callB [_] hF (enters_of Try.func36 (by kernel_rfl) rfl) rfl (by decide) (Loose36 cp yp w44 (hcp.bel hBp)) fun w46 a B47 hF => ?_
    have sB47 := B47.size
    have hB := hB.trans (B47.mono hB.size)
    have hBp := hBp.trans (B47.mono hBp.size)
    have hBf := hBf.trans (B47.mono hBf.size)
    have hBl := hBl.trans (B47.mono hBl.size)
    have m2 := m2.old B47
    have m3 := m3.old B47
    have m5 := m5.old B47
    have m6 := m6.old B47
    have m7 := m7.old B47
    have hS := hS.below B47
    refine s_end ⟨hS, ?_⟩
    refine d_val 3 35 (op := (Go.Op.binOp Go.BinOp.eql 3 (Go.Operand.tmp 33) (Go.Operand.tmp 34) 3)) hF hS (by kernel_rfl) (fun W hW => x_eql (b := true) (decide_eq_true (by omega)) rfl rfl) (by kernel_rfl) (by decide) fun a hF => ?_
    refine d_val 4 36 (op := (Go.Op.move (Go.Operand.tmp 35))) hF hS (by kernel_rfl) (fun W hW => x_move rfl) (by kernel_rfl) (by decide) fun a hF => ?_
    refine d_valg 5 37 36 (j := 4) (want := true) (op := (Go.Op.load 27 (Go.Operand.tmp 7))) hF hS (by kernel_rfl) (by kernel_rfl) rfl (fun W hW => x_ldW wide27 (m7_d.k2 hW (by omega)) rfl rfl) (by kernel_rfl) (by decide) fun a hF => ?_
    refine d_valg 7 39 36 (j := 4) (want := true) (op := (Go.Op.move (Go.Operand.tmp 8))) hF hS (by kernel_rfl) (by kernel_rfl) rfl (fun W hW => x_move rfl) (by kernel_rfl) (by decide) fun a hF => ?_
    refine d_oneg 6 36 (some 38) (Go.Op.call (Go.Call.mk (Go.Callee.value (Go.Operand.func 36)) #[(Go.Operand.tmp 37)] #[27])) (j := 4) (want := true) hF (by kernel_rfl) (by kernel_rfl) (by kernel_rfl) rfl fun ty pos af => ?_
    refine s_callB [_] hF (enters_of Try.func36 (by kernel_rfl) rfl) rfl (by decide) (Loose36 cl yl w46 (hcl.bel hBl)) fun w48 a B49 hF => ?_
    have sB49 := B49.size
    have hB := hB.trans (B49.mono hB.size)
    have hBp := hBp.trans (B49.mono hBp.size)
    have hBf := hBf.trans (B49.mono hBf.size)
    have hBl := hBl.trans (B49.mono hBl.size)
    have m2 := m2.old B49
    have m3 := m3.old B49
    have m5 := m5.old B49
    have m6 := m6.old B49
    have m7 := m7.old B49
    have hS := hS.below B49
    refine s_end ⟨hS, ?_⟩
    refine d_valg 8 40 36 (j := 4) (want := true) (op := (Go.Op.binOp Go.BinOp.eql 3 (Go.Operand.tmp 38) (Go.Operand.tmp 39) 3)) hF hS (by kernel_rfl) (by kernel_rfl) rfl (fun W hW => x_eql (b := true) (decide_eq_true (by omega)) rfl rfl) (by kernel_rfl) (by decide) fun a hF => ?_
    refine d_val 9 41 (op := (Go.Op.pick (Go.Operand.tmp 36) (Go.Operand.tmp 40) (Go.Operand.const (Go.Value.bool false)))) hF hS (by kernel_rfl) (fun W hW => x_pick (b := true) rfl rfl) (by kernel_rfl) (by decide) fun a hF => ?_
    refine d_val 10 42 (op := (Go.Op.move (Go.Operand.tmp 41))) hF hS (by kernel_rfl) (fun W hW => x_move rfl) (by kernel_rfl) (by decide) fun a hF => ?_
    refine d_valg 11 43 42 (j := 10) (want := true) (op := (Go.Op.load 27 (Go.Operand.tmp 6))) hF hS (by kernel_rfl) (by kernel_rfl) rfl (fun W hW => x_ldW wide27 (m6_d.k2 hW (by omega)) rfl rfl) (by kernel_rfl) (by decide) fun a hF => ?_
    refine d_valg 13 45 42 (j := 10) (want := true) (op := (Go.Op.load 27 (Go.Operand.tmp 2))) hF hS (by kernel_rfl) (by kernel_rfl) rfl (fun W hW => x_ldW wide27 (m2_d.k2 hW (by omega)) rfl rfl) (by kernel_rfl) (by decide) fun a hF => ?_
    refine d_valg 15 47 42 (j := 10) (want := true) (op := (Go.Op.load 27 (Go.Operand.tmp 3))) hF hS (by kernel_rfl) (by kernel_rfl) rfl (fun W hW => x_ldW wide27 (m3_d.k2 hW (by omega)) rfl rfl) (by kernel_rfl) (by decide) fun a hF => ?_
    refine d_oneg 12 42 (some 44) (Go.Op.call (Go.Call.mk (Go.Callee.value (Go.Operand.func 36)) #[(Go.Operand.tmp 43)] #[27])) (j := 10) (want := true) hF (by kernel_rfl) (by kernel_rfl) (by kernel_rfl) rfl fun ty pos af => ?_
    refine s_callB [_] hF (enters_of Try.func36 (by kernel_rfl) rfl) rfl (by decide) (Loose36 cf yf w48 (hcf.bel hBf)) fun w50 a B51 hF => ?_
    have sB51 := B51.size
    have hB := hB.trans (B51.mono hB.size)
    have hBp := hBp.trans (B51.mono hBp.size)
    have hBf := hBf.trans (B51.mono hBf.size)
    have hBl := hBl.trans (B51.mono hBl.size)
    have m2 := m2.old B51
    have m3 := m3.old B51
    have m5 := m5.old B51
    have m6 := m6.old B51
    have m7 := m7.old B51
    have hS := hS.below B51
    refine s_end ⟨hS, ?_⟩
    refine d_oneg 14 42 (some 46) (Go.Op.call (Go.Call.mk (Go.Callee.value (Go.Operand.func 36)) #[(Go.Operand.tmp 45)] #[27])) (j := 10) (want := true) hF (by kernel_rfl) (by kernel_rfl) (by kernel_rfl) rfl fun ty pos af => ?_
    refine s_callB [_] hF (enters_of Try.func36 (by kernel_rfl) rfl) rfl (by decide) (Loose36 a0 x w50 (hx.bel hB)) fun w52 a B53 hF => ?_
    have sB53 := B53.size
    have hB := hB.trans (B53.mono hB.size)
    have hBp := hBp.trans (B53.mono hBp.size)
    have hBf := hBf.trans (B53.mono hBf.size)
    have hBl := hBl.trans (B53.mono hBl.size)
    have m2 := m2.old B53
    have m3 := m3.old B53
    have m5 := m5.old B53
    have m6 := m6.old B53
    have m7 := m7.old B53
    have hS := hS.below B53
    refine s_end ⟨hS, ?_⟩
    refine d_oneg 16 42 (some 48) (Go.Op.call (Go.Call.mk (Go.Callee.value (Go.Operand.func 36)) #[(Go.Operand.tmp 47)] #[27])) (j := 10) (want := true) hF (by kernel_rfl) (by kernel_rfl) (by kernel_rfl) rfl fun ty pos af => ?_
    refine s_callB [_] hF (enters_of Try.func36 (by kernel_rfl) rfl) rfl (by decide) (Loose36 b0 y w52 (hy.bel hB)) fun w54 a B55 hF => ?_
    have sB55 := B55.size
    have hB := hB.trans (B55.mono hB.size)
    have hBp := hBp.trans (B55.mono hBp.size)
    have hBf := hBf.trans (B55.mono hBf.size)
    have hBl := hBl.trans (B55.mono hBl.size)
    have m2 := m2.old B55
    have m3 := m3.old B55
    have m5 := m5.old B55
    have m6 := m6.old B55
    have m7 := m7.old B55
    have hS := hS.below B55
    refine s_end ⟨hS, ?_⟩
    refine d_valg 17 49 42 (j := 10) (want := true) (op := (Go.Op.call (Go.Call.mk (Go.Callee.builtin Go.Builtin.max) #[(Go.Operand.tmp 46), (Go.Operand.tmp 48)] #[3, 3]))) hF hS (by kernel_rfl) (by kernel_rfl) rfl (fun W hW => x_imax rfl rfl) (by kernel_rfl) (by decide) fun a hF => ?_
    refine d_valg 18 50 42 (j := 10) (want := true) (op := (Go.Op.binOp Go.BinOp.eql 3 (Go.Operand.tmp 44) (Go.Operand.tmp 49) 3)) hF hS (by kernel_rfl) (by kernel_rfl) rfl (fun W hW => x_eql (b := true) (decide_eq_true (by omega)) rfl rfl) (by kernel_rfl) (by decide) fun a hF => ?_
    refine d_val 19 51 (op := (Go.Op.pick (Go.Operand.tmp 42) (Go.Operand.tmp 50) (Go.Operand.const (Go.Value.bool false)))) hF hS (by kernel_rfl) (fun W hW => x_pick (b := true) rfl rfl) (by kernel_rfl) (by decide) fun a hF => ?_
    refine d_val 20 52 (op := (Go.Op.move (Go.Operand.tmp 51))) hF hS (by kernel_rfl) (fun W hW => x_move rfl) (by kernel_rfl) (by decide) fun a hF => ?_
    refine d_valg 21 53 52 (j := 20) (want := true) (op := (Go.Op.load 27 (Go.Operand.tmp 5))) hF hS (by kernel_rfl) (by kernel_rfl) rfl (fun W hW => x_ldW wide27 (m5_d.k2 hW (by omega)) rfl rfl) (by kernel_rfl) (by decide) fun a hF => ?_
    refine d_valg 23 55 52 (j := 20) (want := true) (op := (Go.Op.load 27 (Go.Operand.tmp 2))) hF hS (by kernel_rfl) (by kernel_rfl) rfl (fun W hW => x_ldW wide27 (m2_d.k2 hW (by omega)) rfl rfl) (by kernel_rfl) (by decide) fun a hF => ?_
    refine d_valg 25 57 52 (j := 20) (want := true) (op := (Go.Op.load 27 (Go.Operand.tmp 3))) hF hS (by kernel_rfl) (by kernel_rfl) rfl (fun W hW => x_ldW wide27 (m3_d.k2 hW (by omega)) rfl rfl) (by kernel_rfl) (by decide) fun a hF => ?_
    refine d_oneg 22 52 (some 54) (Go.Op.call (Go.Call.mk (Go.Callee.value (Go.Operand.func 33)) #[(Go.Operand.tmp 53)] #[27])) (j := 20) (want := true) hF (by kernel_rfl) (by kernel_rfl) (by kernel_rfl) rfl fun ty pos af => ?_
    refine s_callB [_] hF (enters_of Try.func33 (by kernel_rfl) rfl) rfl (by decide) (Size33 cp yp w54 (hcp.bel hBp)) fun w56 a B57 hF => ?_
    have sB57 := B57.size
    have hB := hB.trans (B57.mono hB.size)
    have hBp := hBp.trans (B57.mono hBp.size)
    have hBf := hBf.trans (B57.mono hBf.size)
    have hBl := hBl.trans (B57.mono hBl.size)
    have m2 := m2.old B57
    have m3 := m3.old B57
    have m5 := m5.old B57
    have m6 := m6.old B57
    have m7 := m7.old B57
    have hS := hS.below B57
    refine s_end ⟨hS, ?_⟩
    refine d_oneg 24 52 (some 56) (Go.Op.call (Go.Call.mk (Go.Callee.value (Go.Operand.func 33)) #[(Go.Operand.tmp 55)] #[27])) (j := 20) (want := true) hF (by kernel_rfl) (by kernel_rfl) (by kernel_rfl) rfl fun ty pos af => ?_
    refine s_callB [_] hF (enters_of Try.func33 (by kernel_rfl) rfl) rfl (by decide) (Size33 a0 x w56 (hx.bel hB)) fun w58 a B59 hF => ?_
    have sB59 := B59.size
    have hB := hB.trans (B59.mono hB.size)
    have hBp := hBp.trans (B59.mono hBp.size)
    have hBf := hBf.trans (B59.mono hBf.size)
    have hBl := hBl.trans (B59.mono hBl.size)
    have m2 := m2.old B59
    have m3 := m3.old B59
    have m5 := m5.old B59
    have m6 := m6.old B59
    have m7 := m7.old B59
    have hS := hS.below B59
    refine s_end ⟨hS, ?_⟩
    refine d_oneg 26 52 (some 58) (Go.Op.call (Go.Call.mk (Go.Callee.value (Go.Operand.func 33)) #[(Go.Operand.tmp 57)] #[27])) (j := 20) (want := true) hF (by kernel_rfl) (by kernel_rfl) (by kernel_rfl) rfl fun ty pos af => ?_
    refine s_callB [_] hF (enters_of Try.func33 (by kernel_rfl) rfl) rfl (by decide) (Size33 b0 y w58 (hy.bel hB)) fun w60 a B61 hF => ?_
    have sB61 := B61.size
    have hB := hB.trans (B61.mono hB.size)
    have hBp := hBp.trans (B61.mono hBp.size)
    have hBf := hBf.trans (B61.mono hBf.size)
    have hBl := hBl.trans (B61.mono hBl.size)
    have m2 := m2.old B61
    have m3 := m3.old B61
    have m5 := m5.old B61
    have m6 := m6.old B61
    have m7 := m7.old B61
    have hS := hS.below B61
    refine s_end ⟨hS, ?_⟩
    refine d_valg 27 59 52 (j := 20) (want := true) (op := (Go.Op.binOp Go.BinOp.add 3 (Go.Operand.tmp 56) (Go.Operand.tmp 58) 3)) hF hS (by kernel_rfl) (by kernel_rfl) rfl (fun W hW => x_add (by omega) (by omega) rfl rfl) (by kernel_rfl) (by decide) fun a hF => ?_
    refine d_valg 28 60 52 (j := 20) (want := true) (op := (Go.Op.binOp Go.BinOp.add 3 (Go.Operand.tmp 59) (Go.Operand.const (Go.Value.int Go.IntKind.i64 1)) 3)) hF hS (by kernel_rfl) (by kernel_rfl) rfl (fun W hW => x_add (by omega) (by omega) rfl rfl) (by kernel_rfl) (by decide) fun a hF => ?_
    refine d_valg 29 61 52 (j := 20) (want := true) (op := (Go.Op.binOp Go.BinOp.eql 3 (Go.Operand.tmp 54) (Go.Operand.tmp 60) 3)) hF hS (by kernel_rfl) (by kernel_rfl) rfl (fun W hW => x_eql (b := true) (decide_eq_true (by omega)) rfl rfl) (by kernel_rfl) (by decide) fun a hF => ?_
    refine d_val 30 62 (op := (Go.Op.pick (Go.Operand.tmp 52) (Go.Operand.tmp 61) (Go.Operand.const (Go.Value.bool false)))) hF hS (by kernel_rfl) (fun W hW => x_pick (b := true) rfl rfl) (by kernel_rfl) (by decide) fun a hF => ?_
    refine d_val 31 63 (op := (Go.Op.move (Go.Operand.tmp 62))) hF hS (by kernel_rfl) (fun W hW => x_move rfl) (by kernel_rfl) (by decide) fun a hF => ?_
    refine d_valg 32 64 63 (j := 31) (want := true) (op := (Go.Op.load 27 (Go.Operand.tmp 7))) hF hS (by kernel_rfl) (by kernel_rfl) rfl (fun W hW => x_ldW wide27 (m7_d.k2 hW (by omega)) rfl rfl) (by kernel_rfl) (by decide) fun a hF => ?_
    refine d_valg 34 66 63 (j := 31) (want := true) (op := (Go.Op.load 27 (Go.Operand.tmp 2))) hF hS (by kernel_rfl) (by kernel_rfl) rfl (fun W hW => x_ldW wide27 (m2_d.k2 hW (by omega)) rfl rfl) (by kernel_rfl) (by decide) fun a hF => ?_
    refine d_valg 37 69 63 (j := 31) (want := true) (op := (Go.Op.load 27 (Go.Operand.tmp 3))) hF hS (by kernel_rfl) (by kernel_rfl) rfl (fun W hW => x_ldW wide27 (m3_d.k2 hW (by omega)) rfl rfl) (by kernel_rfl) (by decide) fun a hF => ?_
    refine d_oneg 33 63 (some 65) (Go.Op.call (Go.Call.mk (Go.Callee.value (Go.Operand.func 33)) #[(Go.Operand.tmp 64)] #[27])) (j := 31) (want := true) hF (by kernel_rfl) (by kernel_rfl) (by kernel_rfl) rfl fun ty pos af => ?_
    refine s_callB [_] hF (enters_of Try.func33 (by kernel_rfl) rfl) rfl (by decide) (Size33 cl yl w60 (hcl.bel hBl)) fun w62 a B63 hF => ?_
    have sB63 := B63.size
    have hB := hB.trans (B63.mono hB.size)
    have hBp := hBp.trans (B63.mono hBp.size)
    have hBf := hBf.trans (B63.mono hBf.size)
    have hBl := hBl.trans (B63.mono hBl.size)
    have m2 := m2.old B63
    have m3 := m3.old B63
    have m5 := m5.old B63
    have m6 := m6.old B63
    have m7 := m7.old B63
    have hS := hS.below B63
    refine s_end ⟨hS, ?_⟩
    refine d_oneg 35 63 (some 67) (Go.Op.call (Go.Call.mk (Go.Callee.value (Go.Operand.func 33)) #[(Go.Operand.tmp 66)] #[27])) (j := 31) (want := true) hF (by kernel_rfl) (by kernel_rfl) (by kernel_rfl) rfl fun ty pos af => ?_
    refine s_callB [_] hF (enters_of Try.func33 (by kernel_rfl) rfl) rfl (by decide) (Size33 a0 x w62 (hx.bel hB)) fun w64 a B65 hF => ?_
    have sB65 := B65.size
    have hB := hB.trans (B65.mono hB.size)
    have hBp := hBp.trans (B65.mono hBp.size)
    have hBf := hBf.trans (B65.mono hBf.size)
    have hBl := hBl.trans (B65.mono hBl.size)
    have m2 := m2.old B65
    have m3 := m3.old B65
    have m5 := m5.old B65
    have m6 := m6.old B65
    have m7 := m7.old B65
    have hS := hS.below B65
    refine s_end ⟨hS, ?_⟩
    refine d_valg 36 68 63 (j := 31) (want := true) (op := (Go.Op.binOp Go.BinOp.mul 3 (Go.Operand.const (Go.Value.int Go.IntKind.i64 2)) (Go.Operand.tmp 67) 3)) hF hS (by kernel_rfl) (by kernel_rfl) rfl (fun W hW => x_mul (by omega) (by omega) rfl rfl) (by kernel_rfl) (by decide) fun a hF => ?_
    refine d_oneg 38 63 (some 70) (Go.Op.call (Go.Call.mk (Go.Callee.value (Go.Operand.func 33)) #[(Go.Operand.tmp 69)] #[27])) (j := 31) (want := true) hF (by kernel_rfl) (by kernel_rfl) (by kernel_rfl) rfl fun ty pos af => ?_
    refine s_callB [_] hF (enters_of Try.func33 (by kernel_rfl) rfl) rfl (by decide) (Size33 b0 y w64 (hy.bel hB)) fun w66 a B67 hF => ?_
    have sB67 := B67.size
    have hB := hB.trans (B67.mono hB.size)
    have hBp := hBp.trans (B67.mono hBp.size)
    have hBf := hBf.trans (B67.mono hBf.size)
    have hBl := hBl.trans (B67.mono hBl.size)
    have m2 := m2.old B67
    have m3 := m3.old B67
    have m5 := m5.old B67
    have m6 := m6.old B67
    have m7 := m7.old B67
    have hS := hS.below B67
    refine s_end ⟨hS, ?_⟩
    refine d_valg 39 71 63 (j := 31) (want := true) (op := (Go.Op.binOp Go.BinOp.add 3 (Go.Operand.tmp 68) (Go.Operand.tmp 70) 3)) hF hS (by kernel_rfl) (by kernel_rfl) rfl (fun W hW => x_add (by omega) (by omega) rfl rfl) (by kernel_rfl) (by decide) fun a hF => ?_
    refine d_valg 40 72 63 (j := 31) (want := true) (op := (Go.Op.binOp Go.BinOp.add 3 (Go.Operand.tmp 71) (Go.Operand.const (Go.Value.int Go.IntKind.i64 1)) 3)) hF hS (by kernel_rfl) (by kernel_rfl) rfl (fun W hW => x_add (by omega) (by omega) rfl rfl) (by kernel_rfl) (by decide) fun a hF => ?_
    refine d_valg 41 73 63 (j := 31) (want := true) (op := (Go.Op.binOp Go.BinOp.eql 3 (Go.Operand.tmp 65) (Go.Operand.tmp 72) 3)) hF hS (by kernel_rfl) (by kernel_rfl) rfl (fun W hW => x_eql (b := true) (decide_eq_true (by omega)) rfl rfl) (by kernel_rfl) (by decide) fun a hF => ?_
    refine d_val 42 74 (op := (Go.Op.pick (Go.Operand.tmp 63) (Go.Operand.tmp 73) (Go.Operand.const (Go.Value.bool false)))) hF hS (by kernel_rfl) (fun W hW => x_pick (b := true) rfl rfl) (by kernel_rfl) (by decide) fun a hF => ?_
    refine d_val 43 75 (op := (Go.Op.move (Go.Operand.tmp 74))) hF hS (by kernel_rfl) (fun W hW => x_move rfl) (by kernel_rfl) (by decide) fun a hF => ?_
    refine d_valg 44 76 75 (j := 43) (want := true) (op := (Go.Op.load 27 (Go.Operand.tmp 6))) hF hS (by kernel_rfl) (by kernel_rfl) rfl (fun W hW => x_ldW wide27 (m6_d.k2 hW (by omega)) rfl rfl) (by kernel_rfl) (by decide) fun a hF => ?_
    refine d_valg 46 78 75 (j := 43) (want := true) (op := (Go.Op.load 27 (Go.Operand.tmp 2))) hF hS (by kernel_rfl) (by kernel_rfl) rfl (fun W hW => x_ldW wide27 (m2_d.k2 hW (by omega)) rfl rfl) (by kernel_rfl) (by decide) fun a hF => ?_
    refine d_valg 48 80 75 (j := 43) (want := true) (op := (Go.Op.load 27 (Go.Operand.tmp 3))) hF hS (by kernel_rfl) (by kernel_rfl) rfl (fun W hW => x_ldW wide27 (m3_d.k2 hW (by omega)) rfl rfl) (by kernel_rfl) (by decide) fun a hF => ?_
    refine d_oneg 45 75 (some 77) (Go.Op.call (Go.Call.mk (Go.Callee.value (Go.Operand.func 34)) #[(Go.Operand.tmp 76)] #[27])) (j := 43) (want := true) hF (by kernel_rfl) (by kernel_rfl) (by kernel_rfl) rfl fun ty pos af => ?_
    refine s_callB [_] hF (enters_of Try.func34 (by kernel_rfl) rfl) rfl (by decide) (Depth34 cf yf w66 (hcf.bel hBf)) fun w68 a B69 hF => ?_
    have sB69 := B69.size
    have hB := hB.trans (B69.mono hB.size)
    have hBp := hBp.trans (B69.mono hBp.size)
    have hBf := hBf.trans (B69.mono hBf.size)
    have hBl := hBl.trans (B69.mono hBl.size)
    have m2 := m2.old B69
    have m3 := m3.old B69
    have m5 := m5.old B69
    have m6 := m6.old B69
    have m7 := m7.old B69
    have hS := hS.below B69
    refine s_end ⟨hS, ?_⟩
    refine d_oneg 47 75 (some 79) (Go.Op.call (Go.Call.mk (Go.Callee.value (Go.Operand.func 34)) #[(Go.Operand.tmp 78)] #[27])) (j := 43) (want := true) hF (by kernel_rfl) (by kernel_rfl) (by kernel_rfl) rfl fun ty pos af => ?_
    refine s_callB [_] hF (enters_of Try.func34 (by kernel_rfl) rfl) rfl (by decide) (Depth34 a0 x w68 (hx.bel hB)) fun w70 a B71 hF => ?_
    have sB71 := B71.size
    have hB := hB.trans (B71.mono hB.size)
    have hBp := hBp.trans (B71.mono hBp.size)
    have hBf := hBf.trans (B71.mono hBf.size)
    have hBl := hBl.trans (B71.mono hBl.size)
    have m2 := m2.old B71
    have m3 := m3.old B71
    have m5 := m5.old B71
    have m6 := m6.old B71
    have m7 := m7.old B71
    have hS := hS.below B71
    refine s_end ⟨hS, ?_⟩
    refine d_oneg 49 75 (some 81) (Go.Op.call (Go.Call.mk (Go.Callee.value (Go.Operand.func 34)) #[(Go.Operand.tmp 80)] #[27])) (j := 43) (want := true) hF (by kernel_rfl) (by kernel_rfl) (by kernel_rfl) rfl fun ty pos af => ?_
    refine s_callB [_] hF (enters_of Try.func34 (by kernel_rfl) rfl) rfl (by decide) (Depth34 b0 y w70 (hy.bel hB)) fun w72 a B73 hF => ?_
    have sB73 := B73.size
    have hB := hB.trans (B73.mono hB.size)
    have hBp := hBp.trans (B73.mono hBp.size)
    have hBf := hBf.trans (B73.mono hBf.size)
    have hBl := hBl.trans (B73.mono hBl.size)
    have m2 := m2.old B73
    have m3 := m3.old B73
    have m5 := m5.old B73
    have m6 := m6.old B73
    have m7 := m7.old B73
    have hS := hS.below B73
    refine s_end ⟨hS, ?_⟩
    refine d_valg 50 82 75 (j := 43) (want := true) (op := (Go.Op.call (Go.Call.mk (Go.Callee.builtin Go.Builtin.max) #[(Go.Operand.tmp 79), (Go.Operand.tmp 81)] #[3, 3]))) hF hS (by kernel_rfl) (by kernel_rfl) rfl (fun W hW => x_imax rfl rfl) (by kernel_rfl) (by decide) fun a hF => ?_
    refine d_valg 51 83 75 (j := 43) (want := true) (op := (Go.Op.binOp Go.BinOp.add 3 (Go.Operand.tmp 82) (Go.Operand.const (Go.Value.int Go.IntKind.i64 1)) 3)) hF hS (by kernel_rfl) (by kernel_rfl) rfl (fun W hW => x_add (by omega) (by omega) rfl rfl) (by kernel_rfl) (by decide) fun a hF => ?_
    refine d_valg 52 84 75 (j := 43) (want := true) (op := (Go.Op.binOp Go.BinOp.eql 3 (Go.Operand.tmp 77) (Go.Operand.tmp 83) 3)) hF hS (by kernel_rfl) (by kernel_rfl) rfl (fun W hW => x_eql (b := true) (decide_eq_true (by omega)) rfl rfl) (by kernel_rfl) (by decide) fun a hF => ?_
    refine d_val 53 85 (op := (Go.Op.pick (Go.Operand.tmp 75) (Go.Operand.tmp 84) (Go.Operand.const (Go.Value.bool false)))) hF hS (by kernel_rfl) (fun W hW => x_pick (b := true) rfl rfl) (by kernel_rfl) (by decide) fun a hF => ?_
    refine d_val 54 86 (op := (Go.Op.move (Go.Operand.tmp 85))) hF hS (by kernel_rfl) (fun W hW => x_move rfl) (by kernel_rfl) (by decide) fun a hF => ?_
    refine d_valg 55 87 86 (j := 54) (want := true) (op := (Go.Op.fieldAddr 27 (Go.Operand.tmp 5) 0)) hF hS (by kernel_rfl) (by kernel_rfl) rfl (fun W hW => x_fa0 fa27_0 rfl) (by kernel_rfl) (by decide) fun a hF => ?_
    refine d_valg 56 88 86 (j := 54) (want := true) (op := (Go.Op.load 3 (Go.Operand.tmp 87))) hF hS (by kernel_rfl) (by kernel_rfl) rfl (fun W hW => x_load rfl (m_load flat3 (m5_d.k2 hW (by omega) |>.cell (j := 0) rfl))) (by kernel_rfl) (by decide) fun a hF => ?_
    refine d_oneg 57 86 (some 89) (Go.Op.call (Go.Call.mk (Go.Callee.value (Go.Operand.func 54)) #[(Go.Operand.tmp 88)] #[3])) (j := 54) (want := true) hF (by kernel_rfl) (by kernel_rfl) (by kernel_rfl) rfl fun ty pos af => ?_
    refine s_callS [_] hF (enters_of Try.func54 (by kernel_rfl) rfl) rfl (by decide) (kids54 _ w72) fun a hF => ?_
    refine s_end ⟨hS, ?_⟩
    refine d_valg 58 90 86 (j := 54) (want := true) (op := (Go.Op.binOp Go.BinOp.eql 3 (Go.Operand.tmp 89) (Go.Operand.const (Go.Value.int Go.IntKind.i64 2)) 3)) hF hS (by kernel_rfl) (by kernel_rfl) rfl (fun W hW => x_eql (b := true) (decide_eq_true (by rw [hpk]; rfl)) rfl rfl) (by kernel_rfl) (by decide) fun a hF => ?_
    refine d_val 59 91 (op := (Go.Op.pick (Go.Operand.tmp 86) (Go.Operand.tmp 90) (Go.Operand.const (Go.Value.bool false)))) hF hS (by kernel_rfl) (fun W hW => x_pick (b := true) rfl rfl) (by kernel_rfl) (by decide) fun a hF => ?_
    refine d_val 60 92 (op := (Go.Op.move (Go.Operand.tmp 91))) hF hS (by kernel_rfl) (fun W hW => x_move rfl) (by kernel_rfl) (by decide) fun a hF => ?_
    refine d_oneg 61 92 (some 93) (Go.Op.call (Go.Call.mk (Go.Callee.value (Go.Operand.func 15)) #[] #[])) (j := 60) (want := true) hF (by kernel_rfl) (by kernel_rfl) (by kernel_rfl) rfl fun ty pos af => ?_
    refine s_callB [] hF (enters_of Try.func15 (by kernel_rfl) rfl) rfl (by decide) (awake15 w72) fun w74 a B75 hF => ?_
    have sB75 := B75.size
    have hB := hB.trans (B75.mono hB.size)
    have hBp := hBp.trans (B75.mono hBp.size)
    have hBf := hBf.trans (B75.mono hBf.size)
    have hBl := hBl.trans (B75.mono hBl.size)
    have m2 := m2.old B75
    have m3 := m3.old B75
    have m5 := m5.old B75
    have m6 := m6.old B75
    have m7 := m7.old B75
    have hS := hS.below B75
    refine s_end ⟨hS, ?_⟩
    refine d_val 62 94 (op := (Go.Op.pick (Go.Operand.tmp 92) (Go.Operand.tmp 93) (Go.Operand.const (Go.Value.bool false)))) hF hS (by kernel_rfl) (fun W hW => x_pick (b := true) rfl rfl) (by kernel_rfl) (by decide) fun a hF => ?_
    refine d_val 63 4 (op := (Go.Op.assign (Go.Operand.tmp 94))) hF hS (by kernel_rfl) (fun W hW => x_assign rfl) (by kernel_rfl) (by decide) fun a hF => ?_
    refine d_end (by kernel_rfl) (hK9 _ _ ?_)
    refine wp_ret (res_slot hF rfl rfl ⟨rfl, hB⟩)
end Go.Proofs.Ytgpciphjhnabcaa
