/- TermClosed. -/
import Derived.Test.YtgpciphjhnabcaaTerm19
namespace Go.Proofs.Ytgpciphjhnabcaa
open Go.RowKit Go.Shelf
set_option linter.unusedVariables false
set_option linter.unusedSimpArgs false
/-- Behind b more binders a variable is looser by b less. -/
theorem loose_up {vars : Int} : ∀ (c : CT) (d : Int), c.okV vars → 0 ≤ d → c.ess.loose d ≤ 1048577 ∧ c.ess.loose (d + 1) = max 0 (c.ess.loose d - 1)
  | .var n m, d, h, hd => by
    simp only [CT.okV] at h
    simp only [CT.ess, PT.loose]
    split <;> split <;> omega
  | .two k a b m, d, h, hd => by
    have h1 := loose_up a d h.1 hd
    have h2 := loose_up b (d + if k = 3 ∨ k = 4 then 1 else 0) h.2 (by split <;> omega)
    simp only [CT.ess, PT.loose]
    rw [show d + 1 + (if k = 3 ∨ k = 4 then 1 else 0) = d + (if k = 3 ∨ k = 4 then 1 else 0) + 1 by omega]
    omega
  | .lt a b c m, d, h, hd => by
    have h1 := loose_up a d h.1 hd
    have h2 := loose_up b d h.2.1 hd
    have h3 := loose_up c (d + 1) h.2.2 (by omega)
    simp only [CT.ess, PT.loose]
    omega
  | .sort l m, d, h, hd => by simp only [CT.ess, PT.loose]; omega
  | .cst s ls m, d, h, hd => by simp only [CT.ess, PT.loose]; omega
  | .odd k m, d, h, hd => h.elim
theorem looseR_ok {c : CT} (h : c.ok) : c.looseR = c.ess.loose 0 := if_pos h
theorem lift_id {vars : Int} : ∀ (c : CT) (f b d : Int), c.okV vars → 0 ≤ d → c.ess.loose d ≤ f → c.ess.lift f b d = c.ess
  | .var n m, f, b, d, h, hd, hl => by
    simp only [CT.okV] at h
    simp only [CT.ess, PT.loose] at hl
    simp only [CT.ess, PT.lift, liftN]
    rw [if_neg]
    intro h2
    rw [if_pos h2.1] at hl
    omega
  | .two k p q m, f, b, d, h, hd, hl => by
    simp only [CT.ess, PT.loose] at hl
    simp only [CT.ess, PT.lift]
    rw [lift_id p f b d h.1 hd (by omega), lift_id q f b _ h.2 (by split <;> omega) (by omega)]
  | .lt p q r m, f, b, d, h, hd, hl => by
    simp only [CT.ess, PT.loose] at hl
    simp only [CT.ess, PT.lift]
    rw [lift_id p f b d h.1 hd (by omega), lift_id q f b d h.2.1 hd (by omega), lift_id r f b _ h.2.2 (by omega) (by omega)]
  | .sort .., f, b, d, h, hd, hl => rfl
  | .cst .., f, b, d, h, hd, hl => rfl
  | .odd .., f, b, d, h, hd, hl => rfl
theorem loose_lift {vars : Int} : ∀ (c : CT) (b d : Int), c.okV vars → 0 ≤ d → 0 ≤ b → b ≤ 1048576 → (c.ess.lift 0 b d).loose d = if 0 < c.ess.loose d then c.ess.loose d + b else 0
  | .var n m, b, d, h, hd, hb, hb2 => by
    simp only [CT.okV] at h
    simp only [CT.ess, PT.lift, PT.loose]
    by_cases h1 : d ≤ n
    · have e : liftN 0 b d n = n + b := by
        unfold liftN
        rw [if_pos ⟨h1, by omega⟩]
        omega
      rw [e, if_pos (show d ≤ n + b by omega), if_pos h1, if_pos (by omega)]
      omega
    · have e : liftN 0 b d n = n := by
        unfold liftN
        rw [if_neg (fun h2 => h1 h2.1)]
      rw [e, if_neg h1, if_neg (by omega)]
  | .two k p q m, b, d, h, hd, hb, hb2 => by
    have h1 := loose_lift p b d h.1 hd hb hb2
    have h2 := loose_lift q b (d + if k = 3 ∨ k = 4 then 1 else 0) h.2 (by split <;> omega) hb hb2
    have n1 := p.ess.loose_nn d
    have n2 := q.ess.loose_nn (d + if k = 3 ∨ k = 4 then 1 else 0)
    simp only [CT.ess, PT.lift, PT.loose]
    rw [h1, h2]
    generalize p.ess.loose d = u at *
    generalize q.ess.loose (d + if k = 3 ∨ k = 4 then 1 else 0) = v at *
    by_cases g1 : 0 < u <;> by_cases g2 : 0 < v <;> simp only [g1, g2, if_true, if_false] <;> split <;> omega
  | .lt p q r m, b, d, h, hd, hb, hb2 => by
    have h1 := loose_lift p b d h.1 hd hb hb2
    have h2 := loose_lift q b d h.2.1 hd hb hb2
    have h3 := loose_lift r b (d + 1) h.2.2 (by omega) hb hb2
    have n1 := p.ess.loose_nn d
    have n2 := q.ess.loose_nn d
    have n3 := r.ess.loose_nn (d + 1)
    simp only [CT.ess, PT.lift, PT.loose]
    rw [h1, h2, h3]
    generalize p.ess.loose d = u at *
    generalize q.ess.loose d = v at *
    generalize r.ess.loose (d + 1) = z at *
    by_cases g1 : 0 < u <;> by_cases g2 : 0 < v <;> by_cases g3 : 0 < z <;> simp only [g1, g2, g3, if_true, if_false] <;> split <;> omega
  | .sort .., b, d, h, hd, hb, hb2 => by simp [CT.ess, PT.lift, PT.loose]
  | .cst .., b, d, h, hd, hb, hb2 => by simp [CT.ess, PT.lift, PT.loose]
  | .odd .., b, d, h, hd, hb, hb2 => h.elim
theorem put_id {vars : Int} (v : PT) : ∀ (c : CT) (d : Int), c.okV vars → 0 ≤ d → c.ess.loose d = 0 → PT.put v c.ess d = c.ess
  | .var n m, d, h, hd, hl => by
    simp only [CT.okV] at h
    simp only [CT.ess, PT.loose] at hl
    simp only [CT.ess, PT.put]
    split at hl
    · omega
    · rw [if_neg (by omega), if_neg (by omega)]
  | .two k p q m, d, h, hd, hl => by
    have n1 := p.ess.loose_nn d
    have n2 := q.ess.loose_nn (d + if k = 3 ∨ k = 4 then 1 else 0)
    simp only [CT.ess, PT.loose] at hl
    simp only [CT.ess, PT.put]
    rw [put_id v p d h.1 hd (by omega), put_id v q _ h.2 (by split <;> omega) (by omega)]
  | .lt p q r m, d, h, hd, hl => by
    have n1 := p.ess.loose_nn d
    have n2 := q.ess.loose_nn d
    have n3 := r.ess.loose_nn (d + 1)
    simp only [CT.ess, PT.loose] at hl
    simp only [CT.ess, PT.put]
    rw [put_id v p d h.1 hd (by omega), put_id v q d h.2.1 hd (by omega), put_id v r _ h.2.2 (by omega) (by omega)]
  | .sort .., d, h, hd, hl => rfl
  | .cst .., d, h, hd, hl => rfl
  | .odd .., d, h, hd, hl => rfl
theorem okL_snd {W : World} {x : C3} {l : Lv} (h : RL W x l) (hc : (chk 32 1048576 6 1 100 l).1 = 0) : sndL l := by
  obtain ⟨s, h1, h2, h3, h4⟩ := chk_sl (D := 32) (top := 1048576) (vars := 6) h 1 100 hc
  refine rs_snd h h1 ⟨by omega, by omega, ?_⟩
  have key : ∀ s : SL, s.nums 1048576 6 → s.nums 1099511627776 1001 := by
    intro s
    induction s with
    | num n => simp only [SL.nums]; omega
    | var n => simp only [SL.nums]; omega
    | succ n a ih => simp only [SL.nums]; exact fun ⟨a1, a2, a3⟩ => ⟨a1, by omega, ih a3⟩
    | mx a b ha hb => simp only [SL.nums]; exact fun ⟨a1, a2⟩ => ⟨ha a1, hb a2⟩
  exact key s h2
theorem eqO_self {W : World} {x : C3} {l : Lv} (h : RL W x l) (hc : (chk 32 1048576 6 1 100 l).1 = 0) : eqO (slO l) (slO l) := by
  obtain ⟨s, h1, h2⟩ := sound_sl h (okL_snd h hc)
  rw [slO_of h h1 h2]
  exact ⟨rfl, rfl⟩
theorem same_self {W : World} {A : Nat → Prop} : ∀ {c : CT} {x : C8}, RC W A c x → c.okV 6 → sameP c.ess c.ess
  | .var n m, x, h, ho => rfl
  | .sort l m, x, h, ho => eqO_self h.2.1.rl ho
  | .cst s ls m, x, h, ho => by
    obtain ⟨xs, g1, g2, g3⟩ := h.2.2.1
    refine ⟨rfl, rfl, fun i o p e1 e2 => ?_⟩
    rw [e1] at e2
    cases e2
    rw [List.getElem?_map] at e1
    obtain ⟨l, e3, rfl⟩ := Option.map_eq_some_iff.1 e1
    have hi := (List.getElem?_eq_some_iff.1 e3).1
    exact eqO_self (g3 i (xs[i]'(by omega)) l (List.getElem?_eq_getElem (by omega)) e3).rl (ho.2 l (List.mem_of_getElem? e3))
  | .odd k m, x, h, ho => ho.elim
  | .two k a b m, x, ⟨_, _, ⟨y, z, cs, _, ha, hb⟩, _⟩, ho => ⟨rfl, same_self ha ho.1, same_self hb ho.2⟩
  | .lt a b c m, x, ⟨_, ⟨y, z, u, cs, _, ha, hb, hc⟩, _⟩, ho => ⟨same_self ha ho.1, same_self hb ho.2.1, same_self hc ho.2.2⟩
section
variable {P : Program} {n : Nat} {l : List (Nat × Value)} {w : World}
theorem x_remu {t t' : TypeId} {x y : Operand} {k : IntKind} {p q : Int} (r : Int) (h0 : q ≠ 0) (h1 : p.tmod q = r) (hx : ov l x = some (.int k p)) (hy : ov l y = some (.int k q)) : Runs P n l w (.binOp .rem t x y t') (.int k r) :=
  x_bin hx hy (b_int fun W => by simp [binOp, Op.intDiv, h0, h1])
end
theorem u64_rem (z q : Int) (hq : 0 < q) (hq2 : q ≤ 1000) : 0 ≤ (z % 18446744073709551616).tmod q ∧ (z % 18446744073709551616).tmod q < q := by
  have h1 : 0 ≤ z % 18446744073709551616 := Int.emod_nonneg _ (by decide)
  rw [Int.tmod_eq_emod_of_nonneg h1]
  exact ⟨Int.emod_nonneg _ (by omega), Int.emod_lt_of_pos _ hq⟩

set_option maxRecDepth 100000 in
set_option maxHeartbeats 400000 in
theorem termClosed_walk (a0 v0 : CT) (x y : C8) (fr by0 : Int) (w0 : World) (hx : RC w0 (fun k => k < w0.heap.size) a0 x) (hy : RC w0 (fun k => k < w0.heap.size) v0 y) (fa : a0.fit) (fv : v0.fit) : Calls Try.prog 12 #[tv x, tv y, .int .i64 fr, .int .i64 by0] w0 fun e w' => e = .returned (.bool true) ∧ Below w0.heap.size w0 w' := by
  obtain ⟨B, hBe⟩ : ∃ B, B = (by0 % 18446744073709551616).tmod 1000 := ⟨_, rfl⟩
  obtain ⟨R, hRe⟩ : ∃ R, R = (fr % 18446744073709551616).tmod 10 := ⟨_, rfl⟩
  have hBr := u64_rem by0 1000 (by decide) (by decide)
  have hRr := u64_rem fr 10 (by decide) (by decide)
  rw [← hBe] at hBr
  rw [← hRe] at hRr
  have hfe := CT.fit_ess fa
  have hB := Below.refl w0.heap.size w0
  have sB := hB.size
  refine calls_fs 63 [(0, tv x), (1, tv y), (2, .int .i64 fr), (3, .int .i64 by0)] Try.func12 rfl rfl rfl rfl rfl fun a hF => ?_
  refine wp_rs fun K1 hK1 => ?_
  refine s_box (tc x) hF (by decide) rfl rfl fun w2 b4 a eb4 m4 B3 zb4 hF => ?_
  have sB3 := B3.size
  have hB := hB.trans (B3.mono hB.size)
  refine s_box (tc y) hF (by decide) rfl rfl fun w4 b5 a eb5 m5 B5 zb5 hF => ?_
  have sB5 := B5.size
  have hB := hB.trans (B5.mono hB.size)
  have m4 := m4.old B5
  refine s_val hF (x_assign rfl) (by decide) fun a hF => ?_
  refine s_end (hK1 _ _ ?_)
  refine wp_seq_k fun K2 hK2 => ?_
  refine wp_rs fun K3 hK3 => ?_
  refine s_val hF (x_ldW wide27 m4 rfl rfl) (by decide) fun a hF => ?_
  refine s_val hF (x_ldW wide27 m5 rfl rfl) (by decide) fun a hF => ?_
  refine s_litG [tv x, tv y] el25 hF (by decide) rfl (by simp [Value.cells, tc]) rfl (by decide) (by decide) fun w6 bl a ebl ml B7 zbl hF => ?_
  have sB7 := B7.size
  have hB := hB.trans (B7.mono hB.size)
  have m4 := m4.old B7
  have m5 := m5.old B7
  have ml : Blk w6 bl 27 (tc x ++ tc y) := by simpa [Value.cells] using ml
  have hrk : RK w6 (fun k => k < w6.heap.size) (.slice (some ⟨bl, 0, none⟩) 2 2) [a0, v0] := ⟨[x, y], ⟨by simpa using Rd.blk ml (n := 2) rfl, fun _ b hb => by simp [Value.ownBlock] at hb; subst hb; exact ml.lt⟩, rfl, fun i x2 c2 e1 e2 => by rcases i with _ | _ | i; (· simp at e1 e2; subst e1 e2; exact hx.bel hB); (· simp at e1 e2; subst e1 e2; exact hy.bel hB); simp at e1⟩
  refine s_callR (R := fun u w' => ∃ b, u = .bool b ∧ (b = true → ∀ c ∈ [a0, v0], c.wf)) [_] hF (enters_of Try.func50 (by kernel_rfl) rfl) rfl (by decide) (whole50 [a0, v0] _ w6 hrk (by simp) (by intro c hc; simp at hc; rcases hc with rfl | rfl <;> assumption)) ?_
  rintro _ w8 a ⟨bw, rfl, hwf⟩ B9 hF
  have sB9 := B9.size
  have hB := hB.trans (B9.mono hB.size)
  have m4 := m4.old B9
  have m5 := m5.old B9
  refine s_val hF (x_not rfl) (by decide) fun a hF => ?_
  refine s_end (hK3 _ _ ?_)
  refine wp_ifb hF rfl (fun hc14 => ?_) (fun hc14 => ?_)
  · refine wp_rs fun K4 hK4 => ?_
    refine s_callB [] hF (enters_of Try.func15 (by kernel_rfl) rfl) rfl (by decide) (awake15 w8) fun w10 a B11 hF => ?_
    have sB11 := B11.size
    have hB := hB.trans (B11.mono hB.size)
    have m4 := m4.old B11
    have m5 := m5.old B11
    refine s_val hF (x_assign rfl) (by decide) fun a hF => ?_
    refine s_end (hK4 _ _ ?_)
    refine wp_ret (then_ret (res_slot hF rfl rfl ⟨rfl, hB⟩))
  · have hb9 : bw = true := by simpa using hc14
    have hw := hwf hb9
    have wa := hw a0 (by simp)
    have wv := hw v0 (by simp)
    have oa := wa.ok
    have ov_ := wv.ok
    have oaE := a0.ok_ess.2 oa
    have ovE := v0.ok_ess.2 ov_
    have nn := a0.ess.loose_nn 0
    have ua := (loose_up a0 0 wa.1 (by decide)).1
    have hsl := same_self hx wa.1
    refine wp_skip (hK2 _ _ ?_)
    refine wp_rs fun K5 hK5 => ?_
    refine s_val hF (x_ldW wide27 m4 rfl rfl) (by decide) fun a hF => ?_
    refine s_callB [_] hF (enters_of Try.func36 (by kernel_rfl) rfl) rfl (by decide) (Loose36 a0 x w8 (hx.bel hB)) fun w12 a B13 hF => ?_
    have sB13 := B13.size
    have hB := hB.trans (B13.mono hB.size)
    have m4 := m4.old B13
    have m5 := m5.old B13
    rw [looseR_ok oa] at hF
    refine s_val hF (x_assign rfl) (by decide) fun a hF => ?_
    refine s_end (hK5 _ _ ?_)
    refine wp_rs fun K6 hK6 => ?_
    refine s_val hF (x_move rfl) (by decide) fun a hF => ?_
    refine s_val hF (x_cvt (k := .u64) Try.underlying3 Try.underlying50 (wrap_u64 _) rfl) (by decide) fun a hF => ?_
    refine s_val hF (x_remu _ (by decide) rfl rfl rfl) (by decide) fun a hF => ?_
    refine s_val hF (x_cvt (k := .i64) (r := B) Try.underlying50 Try.underlying3 (by rw [← hBe]; exact wrap_i64 (by omega) (by omega)) rfl) (by decide) fun a hF => ?_
    refine s_val hF (x_assign rfl) (by decide) fun a hF => ?_
    refine s_end (hK6 _ _ ?_)
    refine wp_rs fun K7 hK7 => ?_
    refine s_val hF (x_move rfl) (by decide) fun a hF => ?_
    refine s_val hF (x_move rfl) (by decide) fun a hF => ?_
    refine s_val hF (x_cvt (k := .u64) Try.underlying3 Try.underlying50 (wrap_u64 _) rfl) (by decide) fun a hF => ?_
    refine s_val hF (x_remu _ (by decide) rfl rfl rfl) (by decide) fun a hF => ?_
    refine s_val hF (x_cvt (k := .i64) (r := R) Try.underlying50 Try.underlying3 (by rw [← hRe]; exact wrap_i64 (by omega) (by omega)) rfl) (by decide) fun a hF => ?_
    refine s_val hF (x_add (by omega) (by omega) rfl rfl) (by decide) fun a hF => ?_
    refine s_val hF (x_assign rfl) (by decide) fun a hF => ?_
    refine s_end (hK7 _ _ ?_)
    refine wp_seq_k fun K8 hK8 => ?_
    refine dk2_seq (w12.heap.size) (w12.heap.size) (ops := regOps Try.f12 6) (N := 7) (by kernel_rfl) wide_orders (by kernel_rfl) fun w14 hw14 B15 hS K9 hK9 => ?_
    have zw14 : w14.heap.size = w12.heap.size := by rw [hw14]
    have sB15 := B15.size
    have hB := hB.trans (B15.mono hB.size)
    have m4 := m4.old B15
    have m5 := m5.old B15
    have m4_d := m4
    have m5_d := m5
    have hB_d := hB
    refine d_val 0 28 (op := (Go.Op.load 27 (Go.Operand.tmp 4))) hF hS (by kernel_rfl) (fun W hW => x_ldW wide27 (m4_d.k2 hW (by omega)) rfl rfl) (by kernel_rfl) (by decide) fun a hF => ?_
    refine d_val 1 29 (op := (Go.Op.move (Go.Operand.tmp 2))) hF hS (by kernel_rfl) (fun W hW => x_move rfl) (by kernel_rfl) (by decide) fun a hF => ?_
    refine d_val 2 30 (op := (Go.Op.move (Go.Operand.tmp 3))) hF hS (by kernel_rfl) (fun W hW => x_move rfl) (by kernel_rfl) (by decide) fun a hF => ?_
    refine d_val 4 32 (op := (Go.Op.load 27 (Go.Operand.tmp 4))) hF hS (by kernel_rfl) (fun W hW => x_ldW wide27 (m4_d.k2 hW (by omega)) rfl rfl) (by kernel_rfl) (by decide) fun a hF => ?_
    refine d_one 3 (some 31) (Go.Op.call (Go.Call.mk (Go.Callee.value (Go.Operand.func 48)) #[(Go.Operand.tmp 28), (Go.Operand.tmp 29), (Go.Operand.tmp 30)] #[27, 3, 3])) (by kernel_rfl) (by kernel_rfl) fun ty pos af => ?_
    refine s_callR (R := fun u w' => ∃ y, u = tv y ∧ RT w' (a0.ess.Lift (a0.ess.loose 0 + R) B) y) [_, _, _] hF (enters_of Try.func48 (by kernel_rfl) rfl) rfl (by decide) (Lift48 a0 x (a0.ess.loose 0 + R) B w14 (hx.bel hB)) ?_
    rintro _ w16 a ⟨yh, rfl, hh⟩ B17 hF
    have sB17 := B17.size
    have hB := hB.trans (B17.mono hB.size)
    have m4 := m4.old B17
    have m5 := m5.old B17
    have hS := hS.below B17
    obtain ⟨ch, hch, heh⟩ := hh
    have hBh := Below.refl w16.heap.size w16
    have sBh := hBh.size
    have hidh : a0.ess.Lift (a0.ess.loose 0 + R) B = a0.ess := by unfold PT.Lift; rw [if_pos oaE]; exact lift_id a0 _ _ 0 wa.1 (by decide) (by omega)
    rw [hidh] at heh
    refine s_end ⟨hS, ?_⟩
    refine d_one 5 (some 33) (Go.Op.call (Go.Call.mk (Go.Callee.value (Go.Operand.func 40)) #[(Go.Operand.tmp 31), (Go.Operand.tmp 32)] #[27, 27])) (by kernel_rfl) (by kernel_rfl) fun ty pos af => ?_
    refine s_callB [_, _] hF (enters_of Try.func40 (by kernel_rfl) rfl) rfl (by decide) ((Same40 ch a0 yh x w16 (hch.bel hBh) (hx.bel hB) (by rw [heh]; exact hfe)).mono fun e w' ⟨z, h1, ⟨b, h2, h3⟩, h4⟩ => ⟨by rw [h1, h2, h3.2 ⟨ch.ok_ess.1 (by rw [heh]; exact oaE), oa, by rw [heh]; exact hsl⟩], h4⟩) fun w18 a B19 hF => ?_
    have sB19 := B19.size
    have hB := hB.trans (B19.mono hB.size)
    have hBh := hBh.trans (B19.mono hBh.size)
    have m4 := m4.old B19
    have m5 := m5.old B19
    have hS := hS.below B19
    refine s_end ⟨hS, ?_⟩
    refine d_val 6 34 (op := (Go.Op.unOp Go.UnOp.not 4 (Go.Operand.tmp 33))) hF hS (by kernel_rfl) (fun W hW => x_not rfl) (by kernel_rfl) (by decide) fun a hF => ?_
    refine d_end (by kernel_rfl) (hK9 _ _ ?_)
    refine wp_if hF rfl ?_
    refine wp_skip (hK8 _ _ ?_)
    refine wp_seq_k fun K10 hK10 => ?_
    rcases (show 0 < a0.ess.loose 0 ∨ a0.ess.loose 0 = 0 by omega) with hk | hk
    · skip
      refine wp_rs fun K12 hK12 => ?_
      refine s_val hF (x_move rfl) (by decide) fun a hF => ?_
      refine s_val hF (x_gtr (b := true) (decide_eq_true (by omega)) rfl rfl) (by decide) fun a hF => ?_
      refine s_end (hK12 _ _ ?_)
      refine wp_if hF rfl ?_
      refine wp_rs fun K13 hK13 => ?_
      refine s_val hF (x_ldW wide27 m4 rfl rfl) (by decide) fun a hF => ?_
      refine s_val hF (x_move rfl) (by decide) fun a hF => ?_
      refine s_callR (R := fun u w' => ∃ y, u = tv y ∧ RT w' (a0.ess.Lift (0) B) y) [_, _, _] hF (enters_of Try.func48 (by kernel_rfl) rfl) rfl (by decide) (Lift48 a0 x (0) B w18 (hx.bel hB)) ?_
      rintro _ w20 a ⟨yg, rfl, hg⟩ B21 hF
      have sB21 := B21.size
      have hB := hB.trans (B21.mono hB.size)
      have hBh := hBh.trans (B21.mono hBh.size)
      have m4 := m4.old B21
      have m5 := m5.old B21
      obtain ⟨cg, hcg, heg⟩ := hg
      have hBg := Below.refl w20.heap.size w20
      have sBg := hBg.size
      have hgl : cg.ess.loose 0 = a0.ess.loose 0 + B := by rw [heg]; unfold PT.Lift; rw [if_pos oaE, show max (0 : Int) 0 = 0 by decide, show cut20 B = B by unfold cut20; omega, loose_lift a0 B 0 wa.1 (by decide) hBr.1 (by omega), if_pos hk]
      have hgo : cg.ok := cg.ok_ess.1 (by rw [heg]; unfold PT.Lift; rw [if_pos oaE]; unfold PT.ok at oaE ⊢; rw [(PT.lift_size _ _ _ _).1, (PT.lift_size _ _ _ _).2]; exact oaE)
      refine s_callB [_] hF (enters_of Try.func36 (by kernel_rfl) rfl) rfl (by decide) ((Loose36 cg yg w20 (hcg.bel hBg)).mono fun e w' h => ⟨by rw [h.1, looseR_ok hgo, hgl], h.2⟩) fun w22 a B23 hF => ?_
      have sB23 := B23.size
      have hB := hB.trans (B23.mono hB.size)
      have hBh := hBh.trans (B23.mono hBh.size)
      have hBg := hBg.trans (B23.mono hBg.size)
      have m4 := m4.old B23
      have m5 := m5.old B23
      refine s_val hF (x_move rfl) (by decide) fun a hF => ?_
      refine s_val hF (x_move rfl) (by decide) fun a hF => ?_
      refine s_val hF (x_add (by omega) (by omega) rfl rfl) (by decide) fun a hF => ?_
      refine s_val hF (x_eql (b := true) (decide_eq_true (by omega)) rfl rfl) (by decide) fun a hF => ?_
      refine s_val hF (x_move rfl) (by decide) fun a hF => ?_
      refine s_grd 45 hF rfl rfl rfl ?_
      refine s_callB [] hF (enters_of Try.func15 (by kernel_rfl) rfl) rfl (by decide) (awake15 w22) fun w24 a B25 hF => ?_
      have sB25 := B25.size
      have hB := hB.trans (B25.mono hB.size)
      have hBh := hBh.trans (B25.mono hBh.size)
      have hBg := hBg.trans (B25.mono hBg.size)
      have m4 := m4.old B25
      have m5 := m5.old B25
      refine s_val hF (x_pick (b := true) rfl rfl) (by decide) fun a hF => ?_
      refine s_val hF (x_assign rfl) (by decide) fun a hF => ?_
      refine s_end (hK13 _ _ ?_)
      refine wp_ret (then_ret (res_slot hF rfl rfl ⟨rfl, hB⟩))
    · skip
      refine wp_rs fun K14 hK14 => ?_
      refine s_val hF (x_move rfl) (by decide) fun a hF => ?_
      refine s_val hF (x_gtr (b := false) (decide_eq_false (by omega)) rfl rfl) (by decide) fun a hF => ?_
      refine s_end (hK14 _ _ ?_)
      refine wp_if hF rfl ?_
      refine wp_skip (hK10 _ _ ?_)
      refine dk2_seq (w18.heap.size) (w18.heap.size) (ops := regOps Try.f12 10) (N := 16) (by kernel_rfl) wide_orders (by kernel_rfl) fun w26 hw26 B27 hS K15 hK15 => ?_
      have zw26 : w26.heap.size = w18.heap.size := by rw [hw26]
      have sB27 := B27.size
      have hB := hB.trans (B27.mono hB.size)
      have hBh := hBh.trans (B27.mono hBh.size)
      have m4 := m4.old B27
      have m5 := m5.old B27
      have m4_d := m4
      have m5_d := m5
      have hB_d := hB
      have hBh_d := hBh
      refine d_val 0 48 (op := (Go.Op.load 27 (Go.Operand.tmp 4))) hF hS (by kernel_rfl) (fun W hW => x_ldW wide27 (m4_d.k2 hW (by omega)) rfl rfl) (by kernel_rfl) (by decide) fun a hF => ?_
      refine d_val 1 49 (op := (Go.Op.load 27 (Go.Operand.tmp 5))) hF hS (by kernel_rfl) (fun W hW => x_ldW wide27 (m5_d.k2 hW (by omega)) rfl rfl) (by kernel_rfl) (by decide) fun a hF => ?_
      refine d_val 3 51 (op := (Go.Op.load 27 (Go.Operand.tmp 4))) hF hS (by kernel_rfl) (fun W hW => x_ldW wide27 (m4_d.k2 hW (by omega)) rfl rfl) (by kernel_rfl) (by decide) fun a hF => ?_
      refine d_one 2 (some 50) (Go.Op.call (Go.Call.mk (Go.Callee.value (Go.Operand.func 42)) #[(Go.Operand.tmp 48), (Go.Operand.tmp 49)] #[27, 27])) (by kernel_rfl) (by kernel_rfl) fun ty pos af => ?_
      refine s_callR (R := fun u w' => ∃ y, u = tv y ∧ RT w' (PT.inst a0.ess v0.ess) y) [_, _] hF (enters_of Try.func42 (by kernel_rfl) rfl) rfl (by decide) (Inst42 a0 v0 x y w26 (hx.bel hB) (hy.bel hB)) ?_
      rintro _ w28 a ⟨yi, rfl, hi⟩ B29 hF
      have sB29 := B29.size
      have hB := hB.trans (B29.mono hB.size)
      have hBh := hBh.trans (B29.mono hBh.size)
      have m4 := m4.old B29
      have m5 := m5.old B29
      have hS := hS.below B29
      obtain ⟨ci, hci, hei⟩ := hi
      have hin : PT.inst a0.ess v0.ess = a0.ess := by unfold PT.inst; rw [put_id v0.ess a0 0 wa.1 (by decide) (by omega), if_pos ⟨oaE, ovE, oaE⟩]
      rw [hin] at hei
      have hBi := Below.refl w28.heap.size w28
      have sBi := hBi.size
      refine s_end ⟨hS, ?_⟩
      refine d_one 4 (some 52) (Go.Op.call (Go.Call.mk (Go.Callee.value (Go.Operand.func 40)) #[(Go.Operand.tmp 50), (Go.Operand.tmp 51)] #[27, 27])) (by kernel_rfl) (by kernel_rfl) fun ty pos af => ?_
      refine s_callB [_, _] hF (enters_of Try.func40 (by kernel_rfl) rfl) rfl (by decide) ((Same40 ci a0 yi x w28 (hci.bel hBi) (hx.bel hB) (by rw [hei]; exact hfe)).mono fun e w' ⟨z, h1, ⟨b, h2, h3⟩, h4⟩ => ⟨by rw [h1, h2, h3.2 ⟨ci.ok_ess.1 (by rw [hei]; exact oaE), oa, by rw [hei]; exact hsl⟩], h4⟩) fun w30 a B31 hF => ?_
      have sB31 := B31.size
      have hB := hB.trans (B31.mono hB.size)
      have hBh := hBh.trans (B31.mono hBh.size)
      have hBi := hBi.trans (B31.mono hBi.size)
      have m4 := m4.old B31
      have m5 := m5.old B31
      have hS := hS.below B31
      refine s_end ⟨hS, ?_⟩
      refine d_val 5 53 (op := (Go.Op.move (Go.Operand.tmp 52))) hF hS (by kernel_rfl) (fun W hW => x_move rfl) (by kernel_rfl) (by decide) fun a hF => ?_
      refine d_valg 6 54 53 (j := 5) (want := true) (op := (Go.Op.load 27 (Go.Operand.tmp 4))) hF hS (by kernel_rfl) (by kernel_rfl) rfl (fun W hW => x_ldW wide27 (m4_d.k2 hW (by omega)) rfl rfl) (by kernel_rfl) (by decide) fun a hF => ?_
      refine d_valg 7 55 53 (j := 5) (want := true) (op := (Go.Op.move (Go.Operand.tmp 3))) hF hS (by kernel_rfl) (by kernel_rfl) rfl (fun W hW => x_move rfl) (by kernel_rfl) (by decide) fun a hF => ?_
      refine d_valg 9 57 53 (j := 5) (want := true) (op := (Go.Op.load 27 (Go.Operand.tmp 4))) hF hS (by kernel_rfl) (by kernel_rfl) rfl (fun W hW => x_ldW wide27 (m4_d.k2 hW (by omega)) rfl rfl) (by kernel_rfl) (by decide) fun a hF => ?_
      refine d_oneg 8 53 (some 56) (Go.Op.call (Go.Call.mk (Go.Callee.value (Go.Operand.func 48)) #[(Go.Operand.tmp 54), (Go.Operand.const (Go.Value.int Go.IntKind.i64 0)), (Go.Operand.tmp 55)] #[27, 3, 3])) (j := 5) (want := true) hF (by kernel_rfl) (by kernel_rfl) (by kernel_rfl) rfl fun ty pos af => ?_
      refine s_callR (R := fun u w' => ∃ y, u = tv y ∧ RT w' (a0.ess.Lift (0) B) y) [_, _, _] hF (enters_of Try.func48 (by kernel_rfl) rfl) rfl (by decide) (Lift48 a0 x (0) B w30 (hx.bel hB)) ?_
      rintro _ w32 a ⟨yj, rfl, hj⟩ B33 hF
      have sB33 := B33.size
      have hB := hB.trans (B33.mono hB.size)
      have hBh := hBh.trans (B33.mono hBh.size)
      have hBi := hBi.trans (B33.mono hBi.size)
      have m4 := m4.old B33
      have m5 := m5.old B33
      have hS := hS.below B33
      obtain ⟨cj, hcj, hej⟩ := hj
      have hBj := Below.refl w32.heap.size w32
      have sBj := hBj.size
      have hidj : a0.ess.Lift (0) B = a0.ess := by unfold PT.Lift; rw [if_pos oaE]; exact lift_id a0 _ _ 0 wa.1 (by decide) (by omega)
      rw [hidj] at hej
      refine s_end ⟨hS, ?_⟩
      refine d_oneg 10 53 (some 58) (Go.Op.call (Go.Call.mk (Go.Callee.value (Go.Operand.func 40)) #[(Go.Operand.tmp 56), (Go.Operand.tmp 57)] #[27, 27])) (j := 5) (want := true) hF (by kernel_rfl) (by kernel_rfl) (by kernel_rfl) rfl fun ty pos af => ?_
      refine s_callB [_, _] hF (enters_of Try.func40 (by kernel_rfl) rfl) rfl (by decide) ((Same40 cj a0 yj x w32 (hcj.bel hBj) (hx.bel hB) (by rw [hej]; exact hfe)).mono fun e w' ⟨z, h1, ⟨b, h2, h3⟩, h4⟩ => ⟨by rw [h1, h2, h3.2 ⟨cj.ok_ess.1 (by rw [hej]; exact oaE), oa, by rw [hej]; exact hsl⟩], h4⟩) fun w34 a B35 hF => ?_
      have sB35 := B35.size
      have hB := hB.trans (B35.mono hB.size)
      have hBh := hBh.trans (B35.mono hBh.size)
      have hBi := hBi.trans (B35.mono hBi.size)
      have hBj := hBj.trans (B35.mono hBj.size)
      have m4 := m4.old B35
      have m5 := m5.old B35
      have hS := hS.below B35
      refine s_end ⟨hS, ?_⟩
      refine d_val 11 59 (op := (Go.Op.pick (Go.Operand.tmp 53) (Go.Operand.tmp 58) (Go.Operand.const (Go.Value.bool false)))) hF hS (by kernel_rfl) (fun W hW => x_pick (b := true) rfl rfl) (by kernel_rfl) (by decide) fun a hF => ?_
      refine d_val 12 60 (op := (Go.Op.move (Go.Operand.tmp 59))) hF hS (by kernel_rfl) (fun W hW => x_move rfl) (by kernel_rfl) (by decide) fun a hF => ?_
      refine d_oneg 13 60 (some 61) (Go.Op.call (Go.Call.mk (Go.Callee.value (Go.Operand.func 15)) #[] #[])) (j := 12) (want := true) hF (by kernel_rfl) (by kernel_rfl) (by kernel_rfl) rfl fun ty pos af => ?_
      refine s_callB [] hF (enters_of Try.func15 (by kernel_rfl) rfl) rfl (by decide) (awake15 w34) fun w36 a B37 hF => ?_
      have sB37 := B37.size
      have hB := hB.trans (B37.mono hB.size)
      have hBh := hBh.trans (B37.mono hBh.size)
      have hBi := hBi.trans (B37.mono hBi.size)
      have hBj := hBj.trans (B37.mono hBj.size)
      have m4 := m4.old B37
      have m5 := m5.old B37
      have hS := hS.below B37
      refine s_end ⟨hS, ?_⟩
      refine d_val 14 62 (op := (Go.Op.pick (Go.Operand.tmp 60) (Go.Operand.tmp 61) (Go.Operand.const (Go.Value.bool false)))) hF hS (by kernel_rfl) (fun W hW => x_pick (b := true) rfl rfl) (by kernel_rfl) (by decide) fun a hF => ?_
      refine d_val 15 8 (op := (Go.Op.assign (Go.Operand.tmp 62))) hF hS (by kernel_rfl) (fun W hW => x_assign rfl) (by kernel_rfl) (by decide) fun a hF => ?_
      refine d_end (by kernel_rfl) (hK15 _ _ ?_)
      refine wp_ret (res_slot hF rfl rfl ⟨rfl, hB⟩)
end Go.Proofs.Ytgpciphjhnabcaa
