/- The reference's Same; the walk of TermSame. -/
import Derived.Test.YtgpciphjhnabcaaTerm21
import Derived.Test.YtgpciphjhnabcaaTerm19
import Derived.Test.YtgpciphjhnabcaaLev8
namespace Go.Proofs.Ytgpciphjhnabcaa
open Go.RowKit Go.Shelf
set_option linter.unusedVariables false
set_option linter.unusedSimpArgs false

theorem x_neB {P : Program} {n : Nat} {l : List (Nat × Value)} {w : World} {t t' : TypeId} {x y : Operand} {p q b : Bool} (ht : P.underlying t = some .bool) (h : (p != q) = b) (hx : ov l x = some (.bool p)) (hy : ov l y = some (.bool q)) : Runs P n l w (.binOp .neq t x y t') (.bool b) :=
  x_bin hx hy fun W => ⟨by simp [eqGuard], by
    subst h
    have h := fun d => run_equalIn_bool' (P := P) W d t p q ht
    have h := h 9999
    simp only [binOp, Op.equal, Op.maxDepth]
    simp [h]
    cases p <;> cases q <;> rfl⟩
theorem x_neS {P : Program} {n : Nat} {l : List (Nat × Value)} {w : World} {t t' : TypeId} {x y : Operand} {p q : ByteArray} {b : Bool} (h : decide (p ≠ q) = b) (hx : ov l x = some (.string p)) (hy : ov l y = some (.string q)) : Runs P n l w (.binOp .neq t x y t') (.bool b) :=
  x_bin hx hy fun W => ⟨by simp [eqGuard], by
    subst h
    simp [binOp, Op.stringOp]
    rw [Bool.eq_iff_iff]
    simp only [bne_iff_ne, ne_eq, Bool.not_eq_true', decide_eq_false_iff_not, beq_iff_eq, decide_eq_true_eq, Bool.not_eq_eq_eq_not, Bool.not_true, beq_eq_false_iff_ne]
    refine ⟨fun h => ?_, ?_⟩
    · rw [ByteArray.toList_eq, ByteArray.toList_eq] at h
      exact ByteArray.ext (Array.ext' h)
    · rintro rfl
      rfl⟩
theorem leaf_odd {W : World} {A : Nat → Prop} : ∀ {c : CT} {x : C8}, RC W A c x → (arT c.kd < 0 ∨ (c.len : Int) < arT c.kd) → ∃ k m, c = .odd k m
  | .odd k m, x, _, _ => ⟨k, m, rfl⟩
  | .var n m, x, _, h => by simp [CT.kd, CT.len, arT] at h; omega
  | .sort l m, x, _, h => by simp [CT.kd, CT.len, arT] at h; omega
  | .cst s l m, x, _, h => by simp [CT.kd, CT.len, arT] at h; omega
  | .two k a b m, x, hx, h => by
    have h1 := hx.2.1
    have h2 : arT k = 2 := by rcases h1 with rfl | rfl | rfl <;> rfl
    simp only [CT.kd, CT.len, h2] at h
    omega
  | .lt a b c m, x, _, h => by simp [CT.kd, CT.len, arT] at h; omega
theorem leaf_same {W : World} {A : Nat → Prop} {c d : CT} {x y : C8} (hx : RC W A c x) (hy : RC W A d y) (h : sameP c.ess d.ess) : (arT c.kd < 0 ∨ (c.len : Int) < arT c.kd) ↔ (arT d.kd < 0 ∨ (d.len : Int) < arT d.kd) := by
  constructor
  · intro h1
    obtain ⟨k, m, rfl⟩ := leaf_odd hx h1
    cases d <;> simp only [CT.ess, sameP] at h
    next j n => exact hy.2.1
  · intro h1
    obtain ⟨k, m, rfl⟩ := leaf_odd hy h1
    cases c <;> simp only [CT.ess, sameP] at h
    next j n => exact hx.2.1

set_option maxRecDepth 100000 in
set_option maxHeartbeats 400000 in
theorem rsame82 : ∀ (N : Nat) (c d : CT) (x y : C8) (w0 : World), c.size < N → RC w0 (fun k => k < w0.heap.size) c x → RC w0 (fun k => k < w0.heap.size) d y → c.ess.fit → Calls Try.prog 82 #[tv x, tv y] w0 fun e w' => ∃ z, e = .returned z ∧ (∃ b, z = .bool b ∧ (b = true ↔ sameP c.ess d.ess)) ∧ Below w0.heap.size w0 w' := by
  intro N
  induction N with
  | zero => intro c d x y w0 h; omega
  | succ N ih =>
  intro c d x y w0 hN hx hy hfit
  have h3 := c.kids_le
  have hkc := CT.kids_arT hx
  have hkd_ := CT.kids_arT hy
  have hrc := arT_rng c.kd
  have hrd := arT_rng d.kd
  obtain ⟨av, nv, cv, hts, hle9, hlen9, hcap, hkid⟩ := hx.kids
  obtain ⟨au, nu, cu, hus, hle8, hlen8, hcap8, hkid8⟩ := hy.kids
  obtain ⟨xk, xn, xs, xl, xls, xts⟩ := x
  obtain ⟨yk, yn, ys, yl, yls, yts⟩ := y
  simp only at hts hus
  subst hts hus
  have hkx : xk = c.kd := hx.kd
  have hky : yk = d.kd := hy.kd
  have honex := hx.one
  have honey := hy.one
  have hB := Below.refl w0.heap.size w0
  have sB := hB.size
  refine calls_fs 91 [(0, tv ⟨xk, xn, xs, xl, xls, .slice av nv cv⟩), (1, tv ⟨yk, yn, ys, yl, yls, .slice au nu cu⟩)] Try.func82 rfl rfl rfl rfl rfl fun a hF => ?_
  refine wp_rs fun K1 hK1 => ?_
  refine s_box ([.int .i64 xk, .int .i64 xn, .string xs, .int .i64 xl.1, .int .i64 xl.2.1, xl.2.2, xls, .slice av nv cv]) hF (by decide) rfl rfl fun w2 b2 a eb2 m2 B3 zb2 hF => ?_
  have sB3 := B3.size
  have hB := hB.trans (B3.mono hB.size)
  refine s_box ([.int .i64 yk, .int .i64 yn, .string ys, .int .i64 yl.1, .int .i64 yl.2.1, yl.2.2, yls, .slice au nu cu]) hF (by decide) rfl rfl fun w4 b3 a eb3 m3 B5 zb3 hF => ?_
  have sB5 := B5.size
  have hB := hB.trans (B5.mono hB.size)
  have m2 := m2.old B5
  refine s_val hF (x_assign rfl) (by decide) fun a hF => ?_
  refine s_end (hK1 _ _ ?_)
  refine wp_seq_k fun K2 hK2 => ?_
  rcases (show xk ≠ yk ∨ (xk = yk ∧ (arT c.kd < 0 ∨ (c.len : Int) < arT c.kd) ∧ ¬ (arT d.kd < 0 ∨ (d.len : Int) < arT d.kd)) ∨ (xk = yk ∧ ¬ (arT c.kd < 0 ∨ (c.len : Int) < arT c.kd) ∧ (arT d.kd < 0 ∨ (d.len : Int) < arT d.kd)) ∨ (xk = yk ∧ (arT c.kd < 0 ∨ (c.len : Int) < arT c.kd) ∧ (arT d.kd < 0 ∨ (d.len : Int) < arT d.kd)) ∨ (xk = yk ∧ ¬ (arT c.kd < 0 ∨ (c.len : Int) < arT c.kd) ∧ ¬ (arT d.kd < 0 ∨ (d.len : Int) < arT d.kd)) by by_cases h1 : xk = yk <;> by_cases h2 : (arT c.kd < 0 ∨ (c.len : Int) < arT c.kd) <;> by_cases h3 : (arT d.kd < 0 ∨ (d.len : Int) < arT d.kd) <;> simp only [h1, h2, h3, ne_eq, not_true_eq_false, not_false_eq_true, true_and, and_true, false_and, and_false, or_true, true_or, or_false, false_or]) with hk | hk | hk | hk | hk
  · skip
    refine dk2_seq (w4.heap.size) (w4.heap.size) (ops := regOps Try.f82 1) (N := 12) (by kernel_rfl) wide_orders (by kernel_rfl) fun w6 hw6 B7 hS K4 hK4 => ?_
    have zw6 : w6.heap.size = w4.heap.size := by rw [hw6]
    have sB7 := B7.size
    have hB := hB.trans (B7.mono hB.size)
    have m2 := m2.old B7
    have m3 := m3.old B7
    have m2_d := m2
    have m3_d := m3
    have hB_d := hB
    refine d_val 0 7 (op := (Go.Op.fieldAddr 27 (Go.Operand.tmp 2) 0)) hF hS (by kernel_rfl) (fun W hW => x_fa0 fa27_0 rfl) (by kernel_rfl) (by decide) fun a hF => ?_
    refine d_val 1 8 (op := (Go.Op.load 3 (Go.Operand.tmp 7))) hF hS (by kernel_rfl) (fun W hW => x_load rfl (m_load flat3 ((m2_d.k2 hW (by omega)).cell (j := 0) rfl))) (by kernel_rfl) (by decide) fun a hF => ?_
    refine d_val 2 9 (op := (Go.Op.fieldAddr 27 (Go.Operand.tmp 3) 0)) hF hS (by kernel_rfl) (fun W hW => x_fa0 fa27_0 rfl) (by kernel_rfl) (by decide) fun a hF => ?_
    refine d_val 3 10 (op := (Go.Op.load 3 (Go.Operand.tmp 9))) hF hS (by kernel_rfl) (fun W hW => x_load rfl (m_load flat3 ((m3_d.k2 hW (by omega)).cell (j := 0) rfl))) (by kernel_rfl) (by decide) fun a hF => ?_
    refine d_val 4 11 (op := (Go.Op.binOp Go.BinOp.neq 3 (Go.Operand.tmp 8) (Go.Operand.tmp 10) 3)) hF hS (by kernel_rfl) (fun W hW => x_neq (b := true) (decide_eq_true (by omega)) rfl rfl) (by kernel_rfl) (by decide) fun a hF => ?_
    refine d_val 5 12 (op := (Go.Op.move (Go.Operand.tmp 11))) hF hS (by kernel_rfl) (fun W hW => x_move rfl) (by kernel_rfl) (by decide) fun a hF => ?_
    refine d_skip 6 13 12 (j := 5) (want := false) (op := (Go.Op.load 27 (Go.Operand.tmp 2))) hF hS (by kernel_rfl) (by kernel_rfl) rfl (by kernel_rfl) (by decide) fun a hF => ?_
    refine d_skip 7 14 12 (j := 5) (want := false) (op := (Go.Op.call (Go.Call.mk (Go.Callee.value (Go.Operand.func 70)) #[(Go.Operand.tmp 13)] #[27]))) hF hS (by kernel_rfl) (by kernel_rfl) rfl (by kernel_rfl) (by decide) fun a hF => ?_
    refine d_skip 8 15 12 (j := 5) (want := false) (op := (Go.Op.load 27 (Go.Operand.tmp 3))) hF hS (by kernel_rfl) (by kernel_rfl) rfl (by kernel_rfl) (by decide) fun a hF => ?_
    refine d_skip 9 16 12 (j := 5) (want := false) (op := (Go.Op.call (Go.Call.mk (Go.Callee.value (Go.Operand.func 70)) #[(Go.Operand.tmp 15)] #[27]))) hF hS (by kernel_rfl) (by kernel_rfl) rfl (by kernel_rfl) (by decide) fun a hF => ?_
    refine d_skip 10 17 12 (j := 5) (want := false) (op := (Go.Op.binOp Go.BinOp.neq 4 (Go.Operand.tmp 14) (Go.Operand.tmp 16) 4)) hF hS (by kernel_rfl) (by kernel_rfl) rfl (by kernel_rfl) (by decide) fun a hF => ?_
    refine d_val 11 18 (op := (Go.Op.pick (Go.Operand.tmp 12) (Go.Operand.const (Go.Value.bool true)) (Go.Operand.tmp 17))) hF hS (by kernel_rfl) (fun W hW => x_pick (b := true) rfl rfl) (by kernel_rfl) (by decide) fun a hF => ?_
    refine d_end (by kernel_rfl) (hK4 _ _ ?_)
    refine wp_if hF rfl ?_
    refine wp_rs fun K5 hK5 => ?_
    refine s_val hF (x_assign rfl) (by decide) fun a hF => ?_
    refine s_end (hK5 _ _ ?_)
    refine wp_ret (then_ret (res_slot hF rfl rfl ⟨_, rfl, ⟨false, rfl, fun h => absurd h (by decide), fun h => (hk (kd_same hx hy h)).elim⟩, hB⟩))
  · skip
    refine dk2_seq (w4.heap.size) (w4.heap.size) (ops := regOps Try.f82 1) (N := 12) (by kernel_rfl) wide_orders (by kernel_rfl) fun w8 hw8 B9 hS K6 hK6 => ?_
    have zw8 : w8.heap.size = w4.heap.size := by rw [hw8]
    have sB9 := B9.size
    have hB := hB.trans (B9.mono hB.size)
    have m2 := m2.old B9
    have m3 := m3.old B9
    have m2_d := m2
    have m3_d := m3
    have hB_d := hB
    refine d_val 0 7 (op := (Go.Op.fieldAddr 27 (Go.Operand.tmp 2) 0)) hF hS (by kernel_rfl) (fun W hW => x_fa0 fa27_0 rfl) (by kernel_rfl) (by decide) fun a hF => ?_
    refine d_val 1 8 (op := (Go.Op.load 3 (Go.Operand.tmp 7))) hF hS (by kernel_rfl) (fun W hW => x_load rfl (m_load flat3 ((m2_d.k2 hW (by omega)).cell (j := 0) rfl))) (by kernel_rfl) (by decide) fun a hF => ?_
    refine d_val 2 9 (op := (Go.Op.fieldAddr 27 (Go.Operand.tmp 3) 0)) hF hS (by kernel_rfl) (fun W hW => x_fa0 fa27_0 rfl) (by kernel_rfl) (by decide) fun a hF => ?_
    refine d_val 3 10 (op := (Go.Op.load 3 (Go.Operand.tmp 9))) hF hS (by kernel_rfl) (fun W hW => x_load rfl (m_load flat3 ((m3_d.k2 hW (by omega)).cell (j := 0) rfl))) (by kernel_rfl) (by decide) fun a hF => ?_
    refine d_val 4 11 (op := (Go.Op.binOp Go.BinOp.neq 3 (Go.Operand.tmp 8) (Go.Operand.tmp 10) 3)) hF hS (by kernel_rfl) (fun W hW => x_neq (b := false) (decide_eq_false (by omega)) rfl rfl) (by kernel_rfl) (by decide) fun a hF => ?_
    refine d_val 5 12 (op := (Go.Op.move (Go.Operand.tmp 11))) hF hS (by kernel_rfl) (fun W hW => x_move rfl) (by kernel_rfl) (by decide) fun a hF => ?_
    refine d_valg 6 13 12 (j := 5) (want := false) (op := (Go.Op.load 27 (Go.Operand.tmp 2))) hF hS (by kernel_rfl) (by kernel_rfl) rfl (fun W hW => x_ldW wide27 (m2_d.k2 hW (by omega)) rfl rfl) (by kernel_rfl) (by decide) fun a hF => ?_
    refine d_valg 8 15 12 (j := 5) (want := false) (op := (Go.Op.load 27 (Go.Operand.tmp 3))) hF hS (by kernel_rfl) (by kernel_rfl) rfl (fun W hW => x_ldW wide27 (m3_d.k2 hW (by omega)) rfl rfl) (by kernel_rfl) (by decide) fun a hF => ?_
    refine d_oneg 7 12 (some 14) (Go.Op.call (Go.Call.mk (Go.Callee.value (Go.Operand.func 70)) #[(Go.Operand.tmp 13)] #[27])) (j := 5) (want := false) hF (by kernel_rfl) (by kernel_rfl) (by kernel_rfl) rfl fun ty pos af => ?_
    refine s_callB [_] hF (enters_of Try.func70 (by kernel_rfl) rfl) rfl (by decide) ((leaf70 c ⟨xk, xn, xs, xl, xls, .slice av nv cv⟩ _ w0 w8 hx).mono fun e w' h => ⟨by rw [h.1, decide_eq_true hk.2.1], h.2⟩) fun w10 a B11 hF => ?_
    have sB11 := B11.size
    have hB := hB.trans (B11.mono hB.size)
    have m2 := m2.old B11
    have m3 := m3.old B11
    have hS := hS.below B11
    refine s_end ⟨hS, ?_⟩
    refine d_oneg 9 12 (some 16) (Go.Op.call (Go.Call.mk (Go.Callee.value (Go.Operand.func 70)) #[(Go.Operand.tmp 15)] #[27])) (j := 5) (want := false) hF (by kernel_rfl) (by kernel_rfl) (by kernel_rfl) rfl fun ty pos af => ?_
    refine s_callB [_] hF (enters_of Try.func70 (by kernel_rfl) rfl) rfl (by decide) ((leaf70 d ⟨yk, yn, ys, yl, yls, .slice au nu cu⟩ _ w0 w10 hy).mono fun e w' h => ⟨by rw [h.1, decide_eq_false hk.2.2], h.2⟩) fun w12 a B13 hF => ?_
    have sB13 := B13.size
    have hB := hB.trans (B13.mono hB.size)
    have m2 := m2.old B13
    have m3 := m3.old B13
    have hS := hS.below B13
    refine s_end ⟨hS, ?_⟩
    refine d_valg 10 17 12 (j := 5) (want := false) (op := (Go.Op.binOp Go.BinOp.neq 4 (Go.Operand.tmp 14) (Go.Operand.tmp 16) 4)) hF hS (by kernel_rfl) (by kernel_rfl) rfl (fun W hW => x_neB (b := true) Try.underlying4 rfl rfl rfl) (by kernel_rfl) (by decide) fun a hF => ?_
    refine d_val 11 18 (op := (Go.Op.pick (Go.Operand.tmp 12) (Go.Operand.const (Go.Value.bool true)) (Go.Operand.tmp 17))) hF hS (by kernel_rfl) (fun W hW => x_pick (b := false) rfl rfl) (by kernel_rfl) (by decide) fun a hF => ?_
    refine d_end (by kernel_rfl) (hK6 _ _ ?_)
    refine wp_if hF rfl ?_
    refine wp_rs fun K7 hK7 => ?_
    refine s_val hF (x_assign rfl) (by decide) fun a hF => ?_
    refine s_end (hK7 _ _ ?_)
    refine wp_ret (then_ret (res_slot hF rfl rfl ⟨_, rfl, ⟨false, rfl, fun h => absurd h (by decide), fun h => by have := leaf_same hx hy h; omega⟩, hB⟩))
  · skip
    refine dk2_seq (w4.heap.size) (w4.heap.size) (ops := regOps Try.f82 1) (N := 12) (by kernel_rfl) wide_orders (by kernel_rfl) fun w14 hw14 B15 hS K8 hK8 => ?_
    have zw14 : w14.heap.size = w4.heap.size := by rw [hw14]
    have sB15 := B15.size
    have hB := hB.trans (B15.mono hB.size)
    have m2 := m2.old B15
    have m3 := m3.old B15
    have m2_d := m2
    have m3_d := m3
    have hB_d := hB
    refine d_val 0 7 (op := (Go.Op.fieldAddr 27 (Go.Operand.tmp 2) 0)) hF hS (by kernel_rfl) (fun W hW => x_fa0 fa27_0 rfl) (by kernel_rfl) (by decide) fun a hF => ?_
    refine d_val 1 8 (op := (Go.Op.load 3 (Go.Operand.tmp 7))) hF hS (by kernel_rfl) (fun W hW => x_load rfl (m_load flat3 ((m2_d.k2 hW (by omega)).cell (j := 0) rfl))) (by kernel_rfl) (by decide) fun a hF => ?_
    refine d_val 2 9 (op := (Go.Op.fieldAddr 27 (Go.Operand.tmp 3) 0)) hF hS (by kernel_rfl) (fun W hW => x_fa0 fa27_0 rfl) (by kernel_rfl) (by decide) fun a hF => ?_
    refine d_val 3 10 (op := (Go.Op.load 3 (Go.Operand.tmp 9))) hF hS (by kernel_rfl) (fun W hW => x_load rfl (m_load flat3 ((m3_d.k2 hW (by omega)).cell (j := 0) rfl))) (by kernel_rfl) (by decide) fun a hF => ?_
    refine d_val 4 11 (op := (Go.Op.binOp Go.BinOp.neq 3 (Go.Operand.tmp 8) (Go.Operand.tmp 10) 3)) hF hS (by kernel_rfl) (fun W hW => x_neq (b := false) (decide_eq_false (by omega)) rfl rfl) (by kernel_rfl) (by decide) fun a hF => ?_
    refine d_val 5 12 (op := (Go.Op.move (Go.Operand.tmp 11))) hF hS (by kernel_rfl) (fun W hW => x_move rfl) (by kernel_rfl) (by decide) fun a hF => ?_
    refine d_valg 6 13 12 (j := 5) (want := false) (op := (Go.Op.load 27 (Go.Operand.tmp 2))) hF hS (by kernel_rfl) (by kernel_rfl) rfl (fun W hW => x_ldW wide27 (m2_d.k2 hW (by omega)) rfl rfl) (by kernel_rfl) (by decide) fun a hF => ?_
    refine d_valg 8 15 12 (j := 5) (want := false) (op := (Go.Op.load 27 (Go.Operand.tmp 3))) hF hS (by kernel_rfl) (by kernel_rfl) rfl (fun W hW => x_ldW wide27 (m3_d.k2 hW (by omega)) rfl rfl) (by kernel_rfl) (by decide) fun a hF => ?_
    refine d_oneg 7 12 (some 14) (Go.Op.call (Go.Call.mk (Go.Callee.value (Go.Operand.func 70)) #[(Go.Operand.tmp 13)] #[27])) (j := 5) (want := false) hF (by kernel_rfl) (by kernel_rfl) (by kernel_rfl) rfl fun ty pos af => ?_
    refine s_callB [_] hF (enters_of Try.func70 (by kernel_rfl) rfl) rfl (by decide) ((leaf70 c ⟨xk, xn, xs, xl, xls, .slice av nv cv⟩ _ w0 w14 hx).mono fun e w' h => ⟨by rw [h.1, decide_eq_false hk.2.1], h.2⟩) fun w16 a B17 hF => ?_
    have sB17 := B17.size
    have hB := hB.trans (B17.mono hB.size)
    have m2 := m2.old B17
    have m3 := m3.old B17
    have hS := hS.below B17
    refine s_end ⟨hS, ?_⟩
    refine d_oneg 9 12 (some 16) (Go.Op.call (Go.Call.mk (Go.Callee.value (Go.Operand.func 70)) #[(Go.Operand.tmp 15)] #[27])) (j := 5) (want := false) hF (by kernel_rfl) (by kernel_rfl) (by kernel_rfl) rfl fun ty pos af => ?_
    refine s_callB [_] hF (enters_of Try.func70 (by kernel_rfl) rfl) rfl (by decide) ((leaf70 d ⟨yk, yn, ys, yl, yls, .slice au nu cu⟩ _ w0 w16 hy).mono fun e w' h => ⟨by rw [h.1, decide_eq_true hk.2.2], h.2⟩) fun w18 a B19 hF => ?_
    have sB19 := B19.size
    have hB := hB.trans (B19.mono hB.size)
    have m2 := m2.old B19
    have m3 := m3.old B19
    have hS := hS.below B19
    refine s_end ⟨hS, ?_⟩
    refine d_valg 10 17 12 (j := 5) (want := false) (op := (Go.Op.binOp Go.BinOp.neq 4 (Go.Operand.tmp 14) (Go.Operand.tmp 16) 4)) hF hS (by kernel_rfl) (by kernel_rfl) rfl (fun W hW => x_neB (b := true) Try.underlying4 rfl rfl rfl) (by kernel_rfl) (by decide) fun a hF => ?_
    refine d_val 11 18 (op := (Go.Op.pick (Go.Operand.tmp 12) (Go.Operand.const (Go.Value.bool true)) (Go.Operand.tmp 17))) hF hS (by kernel_rfl) (fun W hW => x_pick (b := false) rfl rfl) (by kernel_rfl) (by decide) fun a hF => ?_
    refine d_end (by kernel_rfl) (hK8 _ _ ?_)
    refine wp_if hF rfl ?_
    refine wp_rs fun K9 hK9 => ?_
    refine s_val hF (x_assign rfl) (by decide) fun a hF => ?_
    refine s_end (hK9 _ _ ?_)
    refine wp_ret (then_ret (res_slot hF rfl rfl ⟨_, rfl, ⟨false, rfl, fun h => absurd h (by decide), fun h => by have := leaf_same hx hy h; omega⟩, hB⟩))
  · skip
    refine dk2_seq (w4.heap.size) (w4.heap.size) (ops := regOps Try.f82 1) (N := 12) (by kernel_rfl) wide_orders (by kernel_rfl) fun w20 hw20 B21 hS K10 hK10 => ?_
    have zw20 : w20.heap.size = w4.heap.size := by rw [hw20]
    have sB21 := B21.size
    have hB := hB.trans (B21.mono hB.size)
    have m2 := m2.old B21
    have m3 := m3.old B21
    have m2_d := m2
    have m3_d := m3
    have hB_d := hB
    refine d_val 0 7 (op := (Go.Op.fieldAddr 27 (Go.Operand.tmp 2) 0)) hF hS (by kernel_rfl) (fun W hW => x_fa0 fa27_0 rfl) (by kernel_rfl) (by decide) fun a hF => ?_
    refine d_val 1 8 (op := (Go.Op.load 3 (Go.Operand.tmp 7))) hF hS (by kernel_rfl) (fun W hW => x_load rfl (m_load flat3 ((m2_d.k2 hW (by omega)).cell (j := 0) rfl))) (by kernel_rfl) (by decide) fun a hF => ?_
    refine d_val 2 9 (op := (Go.Op.fieldAddr 27 (Go.Operand.tmp 3) 0)) hF hS (by kernel_rfl) (fun W hW => x_fa0 fa27_0 rfl) (by kernel_rfl) (by decide) fun a hF => ?_
    refine d_val 3 10 (op := (Go.Op.load 3 (Go.Operand.tmp 9))) hF hS (by kernel_rfl) (fun W hW => x_load rfl (m_load flat3 ((m3_d.k2 hW (by omega)).cell (j := 0) rfl))) (by kernel_rfl) (by decide) fun a hF => ?_
    refine d_val 4 11 (op := (Go.Op.binOp Go.BinOp.neq 3 (Go.Operand.tmp 8) (Go.Operand.tmp 10) 3)) hF hS (by kernel_rfl) (fun W hW => x_neq (b := false) (decide_eq_false (by omega)) rfl rfl) (by kernel_rfl) (by decide) fun a hF => ?_
    refine d_val 5 12 (op := (Go.Op.move (Go.Operand.tmp 11))) hF hS (by kernel_rfl) (fun W hW => x_move rfl) (by kernel_rfl) (by decide) fun a hF => ?_
    refine d_valg 6 13 12 (j := 5) (want := false) (op := (Go.Op.load 27 (Go.Operand.tmp 2))) hF hS (by kernel_rfl) (by kernel_rfl) rfl (fun W hW => x_ldW wide27 (m2_d.k2 hW (by omega)) rfl rfl) (by kernel_rfl) (by decide) fun a hF => ?_
    refine d_valg 8 15 12 (j := 5) (want := false) (op := (Go.Op.load 27 (Go.Operand.tmp 3))) hF hS (by kernel_rfl) (by kernel_rfl) rfl (fun W hW => x_ldW wide27 (m3_d.k2 hW (by omega)) rfl rfl) (by kernel_rfl) (by decide) fun a hF => ?_
    refine d_oneg 7 12 (some 14) (Go.Op.call (Go.Call.mk (Go.Callee.value (Go.Operand.func 70)) #[(Go.Operand.tmp 13)] #[27])) (j := 5) (want := false) hF (by kernel_rfl) (by kernel_rfl) (by kernel_rfl) rfl fun ty pos af => ?_
    refine s_callB [_] hF (enters_of Try.func70 (by kernel_rfl) rfl) rfl (by decide) ((leaf70 c ⟨xk, xn, xs, xl, xls, .slice av nv cv⟩ _ w0 w20 hx).mono fun e w' h => ⟨by rw [h.1, decide_eq_true hk.2.1], h.2⟩) fun w22 a B23 hF => ?_
    have sB23 := B23.size
    have hB := hB.trans (B23.mono hB.size)
    have m2 := m2.old B23
    have m3 := m3.old B23
    have hS := hS.below B23
    refine s_end ⟨hS, ?_⟩
    refine d_oneg 9 12 (some 16) (Go.Op.call (Go.Call.mk (Go.Callee.value (Go.Operand.func 70)) #[(Go.Operand.tmp 15)] #[27])) (j := 5) (want := false) hF (by kernel_rfl) (by kernel_rfl) (by kernel_rfl) rfl fun ty pos af => ?_
    refine s_callB [_] hF (enters_of Try.func70 (by kernel_rfl) rfl) rfl (by decide) ((leaf70 d ⟨yk, yn, ys, yl, yls, .slice au nu cu⟩ _ w0 w22 hy).mono fun e w' h => ⟨by rw [h.1, decide_eq_true hk.2.2], h.2⟩) fun w24 a B25 hF => ?_
    have sB25 := B25.size
    have hB := hB.trans (B25.mono hB.size)
    have m2 := m2.old B25
    have m3 := m3.old B25
    have hS := hS.below B25
    refine s_end ⟨hS, ?_⟩
    refine d_valg 10 17 12 (j := 5) (want := false) (op := (Go.Op.binOp Go.BinOp.neq 4 (Go.Operand.tmp 14) (Go.Operand.tmp 16) 4)) hF hS (by kernel_rfl) (by kernel_rfl) rfl (fun W hW => x_neB (b := false) Try.underlying4 rfl rfl rfl) (by kernel_rfl) (by decide) fun a hF => ?_
    refine d_val 11 18 (op := (Go.Op.pick (Go.Operand.tmp 12) (Go.Operand.const (Go.Value.bool true)) (Go.Operand.tmp 17))) hF hS (by kernel_rfl) (fun W hW => x_pick (b := false) rfl rfl) (by kernel_rfl) (by decide) fun a hF => ?_
    refine d_end (by kernel_rfl) (hK10 _ _ ?_)
    refine wp_if hF rfl ?_
    refine wp_skip (hK2 _ _ ?_)
    refine wp_seq_k fun K11 hK11 => ?_
    refine wp_rs fun K12 hK12 => ?_
    refine s_val hF (x_ldW wide27 m2 rfl rfl) (by decide) fun a hF => ?_
    refine s_callB [_] hF (enters_of Try.func70 (by kernel_rfl) rfl) rfl (by decide) ((leaf70 c ⟨xk, xn, xs, xl, xls, .slice av nv cv⟩ _ w0 w24 hx).mono fun e w' h => ⟨by rw [h.1, decide_eq_true hk.2.1], h.2⟩) fun w26 a B27 hF => ?_
    have sB27 := B27.size
    have hB := hB.trans (B27.mono hB.size)
    have m2 := m2.old B27
    have m3 := m3.old B27
    refine s_end (hK12 _ _ ?_)
    refine wp_if hF rfl ?_
    refine wp_rs fun K13 hK13 => ?_
    refine s_val hF (x_assign rfl) (by decide) fun a hF => ?_
    refine s_end (hK13 _ _ ?_)
    obtain ⟨k1, m1_, rfl⟩ := leaf_odd hx hk.2.1
    obtain ⟨k2, m2_, rfl⟩ := leaf_odd hy hk.2.2
    have e1 : xk = k1 := hx.1
    have e2 : yk = k2 := hy.1
    refine wp_ret (then_ret (res_slot hF rfl rfl ⟨_, rfl, ⟨true, rfl, fun _ => (show k1 = k2 by omega), fun _ => rfl⟩, hB⟩))
  · skip
    refine dk2_seq (w4.heap.size) (w4.heap.size) (ops := regOps Try.f82 1) (N := 12) (by kernel_rfl) wide_orders (by kernel_rfl) fun w28 hw28 B29 hS K14 hK14 => ?_
    have zw28 : w28.heap.size = w4.heap.size := by rw [hw28]
    have sB29 := B29.size
    have hB := hB.trans (B29.mono hB.size)
    have m2 := m2.old B29
    have m3 := m3.old B29
    have m2_d := m2
    have m3_d := m3
    have hB_d := hB
    refine d_val 0 7 (op := (Go.Op.fieldAddr 27 (Go.Operand.tmp 2) 0)) hF hS (by kernel_rfl) (fun W hW => x_fa0 fa27_0 rfl) (by kernel_rfl) (by decide) fun a hF => ?_
    refine d_val 1 8 (op := (Go.Op.load 3 (Go.Operand.tmp 7))) hF hS (by kernel_rfl) (fun W hW => x_load rfl (m_load flat3 ((m2_d.k2 hW (by omega)).cell (j := 0) rfl))) (by kernel_rfl) (by decide) fun a hF => ?_
    refine d_val 2 9 (op := (Go.Op.fieldAddr 27 (Go.Operand.tmp 3) 0)) hF hS (by kernel_rfl) (fun W hW => x_fa0 fa27_0 rfl) (by kernel_rfl) (by decide) fun a hF => ?_
    refine d_val 3 10 (op := (Go.Op.load 3 (Go.Operand.tmp 9))) hF hS (by kernel_rfl) (fun W hW => x_load rfl (m_load flat3 ((m3_d.k2 hW (by omega)).cell (j := 0) rfl))) (by kernel_rfl) (by decide) fun a hF => ?_
    refine d_val 4 11 (op := (Go.Op.binOp Go.BinOp.neq 3 (Go.Operand.tmp 8) (Go.Operand.tmp 10) 3)) hF hS (by kernel_rfl) (fun W hW => x_neq (b := false) (decide_eq_false (by omega)) rfl rfl) (by kernel_rfl) (by decide) fun a hF => ?_
    refine d_val 5 12 (op := (Go.Op.move (Go.Operand.tmp 11))) hF hS (by kernel_rfl) (fun W hW => x_move rfl) (by kernel_rfl) (by decide) fun a hF => ?_
    refine d_valg 6 13 12 (j := 5) (want := false) (op := (Go.Op.load 27 (Go.Operand.tmp 2))) hF hS (by kernel_rfl) (by kernel_rfl) rfl (fun W hW => x_ldW wide27 (m2_d.k2 hW (by omega)) rfl rfl) (by kernel_rfl) (by decide) fun a hF => ?_
    refine d_valg 8 15 12 (j := 5) (want := false) (op := (Go.Op.load 27 (Go.Operand.tmp 3))) hF hS (by kernel_rfl) (by kernel_rfl) rfl (fun W hW => x_ldW wide27 (m3_d.k2 hW (by omega)) rfl rfl) (by kernel_rfl) (by decide) fun a hF => ?_
    refine d_oneg 7 12 (some 14) (Go.Op.call (Go.Call.mk (Go.Callee.value (Go.Operand.func 70)) #[(Go.Operand.tmp 13)] #[27])) (j := 5) (want := false) hF (by kernel_rfl) (by kernel_rfl) (by kernel_rfl) rfl fun ty pos af => ?_
    refine s_callB [_] hF (enters_of Try.func70 (by kernel_rfl) rfl) rfl (by decide) ((leaf70 c ⟨xk, xn, xs, xl, xls, .slice av nv cv⟩ _ w0 w28 hx).mono fun e w' h => ⟨by rw [h.1, decide_eq_false hk.2.1], h.2⟩) fun w30 a B31 hF => ?_
    have sB31 := B31.size
    have hB := hB.trans (B31.mono hB.size)
    have m2 := m2.old B31
    have m3 := m3.old B31
    have hS := hS.below B31
    refine s_end ⟨hS, ?_⟩
    refine d_oneg 9 12 (some 16) (Go.Op.call (Go.Call.mk (Go.Callee.value (Go.Operand.func 70)) #[(Go.Operand.tmp 15)] #[27])) (j := 5) (want := false) hF (by kernel_rfl) (by kernel_rfl) (by kernel_rfl) rfl fun ty pos af => ?_
    refine s_callB [_] hF (enters_of Try.func70 (by kernel_rfl) rfl) rfl (by decide) ((leaf70 d ⟨yk, yn, ys, yl, yls, .slice au nu cu⟩ _ w0 w30 hy).mono fun e w' h => ⟨by rw [h.1, decide_eq_false hk.2.2], h.2⟩) fun w32 a B33 hF => ?_
    have sB33 := B33.size
    have hB := hB.trans (B33.mono hB.size)
    have m2 := m2.old B33
    have m3 := m3.old B33
    have hS := hS.below B33
    refine s_end ⟨hS, ?_⟩
    refine d_valg 10 17 12 (j := 5) (want := false) (op := (Go.Op.binOp Go.BinOp.neq 4 (Go.Operand.tmp 14) (Go.Operand.tmp 16) 4)) hF hS (by kernel_rfl) (by kernel_rfl) rfl (fun W hW => x_neB (b := false) Try.underlying4 rfl rfl rfl) (by kernel_rfl) (by decide) fun a hF => ?_
    refine d_val 11 18 (op := (Go.Op.pick (Go.Operand.tmp 12) (Go.Operand.const (Go.Value.bool true)) (Go.Operand.tmp 17))) hF hS (by kernel_rfl) (fun W hW => x_pick (b := false) rfl rfl) (by kernel_rfl) (by decide) fun a hF => ?_
    refine d_end (by kernel_rfl) (hK14 _ _ ?_)
    refine wp_if hF rfl ?_
    refine wp_skip (hK2 _ _ ?_)
    refine wp_seq_k fun K15 hK15 => ?_
    refine wp_rs fun K16 hK16 => ?_
    refine s_val hF (x_ldW wide27 m2 rfl rfl) (by decide) fun a hF => ?_
    refine s_callB [_] hF (enters_of Try.func70 (by kernel_rfl) rfl) rfl (by decide) ((leaf70 c ⟨xk, xn, xs, xl, xls, .slice av nv cv⟩ _ w0 w32 hx).mono fun e w' h => ⟨by rw [h.1, decide_eq_false hk.2.1], h.2⟩) fun w34 a B35 hF => ?_
    have sB35 := B35.size
    have hB := hB.trans (B35.mono hB.size)
    have m2 := m2.old B35
    have m3 := m3.old B35
    refine s_end (hK16 _ _ ?_)
    refine wp_if hF rfl ?_
    refine wp_skip (hK15 _ _ ?_)
    refine wp_seq_k fun K17 hK17 => ?_
    refine wp_rs fun K18 hK18 => ?_
    refine s_val hF (x_fa0 fa27_0 rfl) (by decide) fun a hF => ?_
    refine s_val hF (x_load rfl (m_load flat3 (m2.cell (j := 0) rfl))) (by decide) fun a hF => ?_
    refine s_end (hK18 _ _ ?_)
    refine wp_block ?_
    rcases (show xk = 1 ∨ xk = 2 ∨ xk = 7 ∨ (xk ≠ 1 ∧ xk ≠ 2 ∧ xk ≠ 7) by omega) with hq | hq | hq | hq
    · skip
      refine wp_rs fun K20 hK20 => ?_
      refine s_val hF (x_eql (b := true) (decide_eq_true (by omega)) rfl rfl) (by decide) fun a hF => ?_
      refine s_val hF (x_assign rfl) (by decide) fun a hF => ?_
      refine s_end (hK20 _ _ ?_)
      refine wp_if hF rfl ?_
      refine wp_rs fun K21 hK21 => ?_
      refine s_val hF (x_fa0 fa27_1 rfl) (by decide) fun a hF => ?_
      refine s_val hF (x_load rfl (m_load flat3 (m2.cell (j := 1) rfl))) (by decide) fun a hF => ?_
      refine s_val hF (x_fa0 fa27_1 rfl) (by decide) fun a hF => ?_
      refine s_val hF (x_load rfl (m_load flat3 (m3.cell (j := 1) rfl))) (by decide) fun a hF => ?_
      refine s_val hF (x_eql rfl rfl rfl) (by decide) fun a hF => ?_
      refine s_val hF (x_assign rfl) (by decide) fun a hF => ?_
      refine s_end (hK21 _ _ ?_)
      obtain ⟨n1, m1_, rfl⟩ := hx.var_of hq
      obtain ⟨n2, m2_, rfl⟩ := hy.var_of (show yk = 1 by omega)
      have hn1 : xn = n1 := hx.2.1
      have hn2 : yn = n2 := hy.2.1
      refine wp_ret (inb_ret (then_ret (res_slot hF rfl rfl ⟨_, rfl, ⟨_, rfl, by rw [decide_eq_true_iff, hn1, hn2]; rfl⟩, hB⟩)))
    · obtain ⟨l, q1, rfl⟩ := hx.sort_of hq
      obtain ⟨l2, q2, rfl⟩ := hy.sort_of (show yk = 2 by omega)
      have hl1 : RLn w0 _ xl l := hx.2.1
      have hl2 : RLn w0 _ yl l2 := hy.2.1
      refine wp_rs fun K22 hK22 => ?_
      refine s_val hF (x_eql (b := false) (decide_eq_false (by omega)) rfl rfl) (by decide) fun a hF => ?_
      refine s_val hF (x_assign rfl) (by decide) fun a hF => ?_
      refine s_end (hK22 _ _ ?_)
      refine wp_if hF rfl ?_
      refine wp_rs fun K23 hK23 => ?_
      refine s_val hF (x_eql (b := true) (decide_eq_true (by omega)) rfl rfl) (by decide) fun a hF => ?_
      refine s_val hF (x_assign rfl) (by decide) fun a hF => ?_
      refine s_end (hK23 _ _ ?_)
      refine wp_if hF rfl ?_
      refine wp_rs fun K24 hK24 => ?_
      refine s_val hF (x_fa0 fa27_3 rfl) (by decide) fun a hF => ?_
      refine s_val hF (x_load rfl (m_loadP (vs := [_, _, _]) wide24 m2 rfl)) (by decide) fun a hF => ?_
      refine s_val hF (x_fa0 fa27_3 rfl) (by decide) fun a hF => ?_
      refine s_val hF (x_load rfl (m_loadP (vs := [_, _, _]) wide24 m3 rfl)) (by decide) fun a hF => ?_
      refine s_callR (R := fun v w' => ∃ b, v = .bool b ∧ (b = true ↔ eqO (slO l) (slO l2))) [_, _] hF (enters_of Try.func118 (by kernel_rfl) rfl) rfl (by decide) ((rEqual24 xl yl l l2 w34 (hl1.keep hB.size (fun k hk _ => hB.block k hk)).rl (hl2.keep hB.size (fun k hk _ => hB.block k hk)).rl).mono fun e w' ⟨v, h1, ⟨b, h2, h4⟩, h5⟩ => ⟨v, h1, ⟨b, h2, h4.iff (hl1.keep hB.size (fun k hk _ => hB.block k hk)).rl (hl2.keep hB.size (fun k hk _ => hB.block k hk)).rl⟩, h5⟩) ?_
      rintro _ w36 a ⟨b36, rfl, h36⟩ B37 hF
      have sB37 := B37.size
      have hB := hB.trans (B37.mono hB.size)
      have m2 := m2.old B37
      have m3 := m3.old B37
      refine s_val hF (x_assign rfl) (by decide) fun a hF => ?_
      refine s_end (hK24 _ _ ?_)
      refine wp_ret (inb_ret (then_ret (res_slot hF rfl rfl ⟨_, rfl, ⟨_, rfl, h36⟩, hB⟩)))
    · obtain ⟨s1, ls1, m1_, rfl⟩ := hx.cst_of hq
      obtain ⟨s2, ls2, m2_, rfl⟩ := hy.cst_of (show yk = 7 by omega)
      have hs1 : xs = s1 := hx.2.1
      have hs2 : ys = s2 := hy.2.1
      have hv1 : RVn w0 _ xls ls1 := hx.2.2.1
      have hv2 : RVn w0 _ yls ls2 := hy.2.2.1
      have hfl : ls1.length ≤ 9223372036854775807 := by have := hfit; simp only [CT.ess, PT.fit, List.length_map] at this; exact this
      obtain ⟨la, lca, hla, _⟩ := hv1.form
      obtain ⟨lb, lcb, hlb, _⟩ := hv2.form
      subst hla hlb
      refine wp_rs fun K25 hK25 => ?_
      refine s_val hF (x_eql (b := false) (decide_eq_false (by omega)) rfl rfl) (by decide) fun a hF => ?_
      refine s_val hF (x_assign rfl) (by decide) fun a hF => ?_
      refine s_end (hK25 _ _ ?_)
      refine wp_if hF rfl ?_
      refine wp_rs fun K26 hK26 => ?_
      refine s_val hF (x_eql (b := false) (decide_eq_false (by omega)) rfl rfl) (by decide) fun a hF => ?_
      refine s_val hF (x_assign rfl) (by decide) fun a hF => ?_
      refine s_end (hK26 _ _ ?_)
      refine wp_if hF rfl ?_
      refine wp_rs fun K27 hK27 => ?_
      refine s_val hF (x_eql (b := true) (decide_eq_true (by omega)) rfl rfl) (by decide) fun a hF => ?_
      refine s_val hF (x_assign rfl) (by decide) fun a hF => ?_
      refine s_end (hK27 _ _ ?_)
      refine wp_if hF rfl ?_
      refine wp_seq_k fun K28 hK28 => ?_
      rcases (show xs ≠ ys ∨ (xs = ys ∧ ls1.length ≠ ls2.length) ∨ (xs = ys ∧ ls1.length = ls2.length) by by_cases h : xs = ys <;> by_cases h2 : ls1.length = ls2.length <;> simp [h, h2]) with hst | hst | hst
      · skip
        refine wp_rs fun K30 hK30 => ?_
        refine s_val hF (x_fa0 fa27_2 rfl) (by decide) fun a hF => ?_
        refine s_val hF (x_load rfl (m_load flat9 (m2.cell (j := 2) rfl))) (by decide) fun a hF => ?_
        refine s_val hF (x_fa0 fa27_2 rfl) (by decide) fun a hF => ?_
        refine s_val hF (x_load rfl (m_load flat9 (m3.cell (j := 2) rfl))) (by decide) fun a hF => ?_
        refine s_val hF (x_neS (b := true) (decide_eq_true hst) rfl rfl) (by decide) fun a hF => ?_
        refine s_val hF (x_move rfl) (by decide) fun a hF => ?_
        refine s_grdn 44 hF rfl rfl (by decide) fun a hF => ?_
        refine s_grdn 44 hF rfl rfl (by decide) fun a hF => ?_
        refine s_grdn 44 hF rfl rfl (by decide) fun a hF => ?_
        refine s_grdn 44 hF rfl rfl (by decide) fun a hF => ?_
        refine s_grdn 44 hF rfl rfl (by decide) fun a hF => ?_
        refine s_grdn 44 hF rfl rfl (by decide) fun a hF => ?_
        refine s_grdn 44 hF rfl rfl (by decide) fun a hF => ?_
        refine s_val hF (x_pick (b := true) rfl rfl) (by decide) fun a hF => ?_
        refine s_end (hK30 _ _ ?_)
        refine wp_if hF rfl ?_
        refine wp_rs fun K31 hK31 => ?_
        refine s_val hF (x_assign rfl) (by decide) fun a hF => ?_
        refine s_end (hK31 _ _ ?_)
        refine wp_ret (then_ret (inb_ret (then_ret (res_slot hF rfl rfl ⟨_, rfl, ⟨false, rfl, fun h => absurd h (by decide), fun h => (hst (by rw [hs1, hs2]; exact h.1)).elim⟩, hB⟩))))
      · skip
        refine wp_rs fun K32 hK32 => ?_
        refine s_val hF (x_fa0 fa27_2 rfl) (by decide) fun a hF => ?_
        refine s_val hF (x_load rfl (m_load flat9 (m2.cell (j := 2) rfl))) (by decide) fun a hF => ?_
        refine s_val hF (x_fa0 fa27_2 rfl) (by decide) fun a hF => ?_
        refine s_val hF (x_load rfl (m_load flat9 (m3.cell (j := 2) rfl))) (by decide) fun a hF => ?_
        refine s_val hF (x_neS (b := false) (decide_eq_false (fun h => h hst.1)) rfl rfl) (by decide) fun a hF => ?_
        refine s_val hF (x_move rfl) (by decide) fun a hF => ?_
        refine s_grd 44 hF rfl rfl rfl ?_
        refine s_val hF (x_fa0 fa27_4 rfl) (by decide) fun a hF => ?_
        refine s_grd 44 hF rfl rfl rfl ?_
        refine s_val hF (x_load rfl (m_load flat22 (m2.cell (j := 6) rfl))) (by decide) fun a hF => ?_
        refine s_grd 44 hF rfl rfl rfl ?_
        refine s_val hF (x_len Try.underlying22 rfl) (by decide) fun a hF => ?_
        refine s_grd 44 hF rfl rfl rfl ?_
        refine s_val hF (x_fa0 fa27_4 rfl) (by decide) fun a hF => ?_
        refine s_grd 44 hF rfl rfl rfl ?_
        refine s_val hF (x_load rfl (m_load flat22 (m3.cell (j := 6) rfl))) (by decide) fun a hF => ?_
        refine s_grd 44 hF rfl rfl rfl ?_
        refine s_val hF (x_len Try.underlying22 rfl) (by decide) fun a hF => ?_
        refine s_grd 44 hF rfl rfl rfl ?_
        refine s_val hF (x_neq (b := true) (decide_eq_true (by omega)) rfl rfl) (by decide) fun a hF => ?_
        refine s_val hF (x_pick (b := false) rfl rfl) (by decide) fun a hF => ?_
        refine s_end (hK32 _ _ ?_)
        refine wp_if hF rfl ?_
        refine wp_rs fun K33 hK33 => ?_
        refine s_val hF (x_assign rfl) (by decide) fun a hF => ?_
        refine s_end (hK33 _ _ ?_)
        refine wp_ret (then_ret (inb_ret (then_ret (res_slot hF rfl rfl ⟨_, rfl, ⟨false, rfl, fun h => absurd h (by decide), fun h => (hst.2 (by have := h.2.1; simpa using this)).elim⟩, hB⟩))))
      · skip
        refine wp_rs fun K34 hK34 => ?_
        refine s_val hF (x_fa0 fa27_2 rfl) (by decide) fun a hF => ?_
        refine s_val hF (x_load rfl (m_load flat9 (m2.cell (j := 2) rfl))) (by decide) fun a hF => ?_
        refine s_val hF (x_fa0 fa27_2 rfl) (by decide) fun a hF => ?_
        refine s_val hF (x_load rfl (m_load flat9 (m3.cell (j := 2) rfl))) (by decide) fun a hF => ?_
        refine s_val hF (x_neS (b := false) (decide_eq_false (fun h => h hst.1)) rfl rfl) (by decide) fun a hF => ?_
        refine s_val hF (x_move rfl) (by decide) fun a hF => ?_
        refine s_grd 44 hF rfl rfl rfl ?_
        refine s_val hF (x_fa0 fa27_4 rfl) (by decide) fun a hF => ?_
        refine s_grd 44 hF rfl rfl rfl ?_
        refine s_val hF (x_load rfl (m_load flat22 (m2.cell (j := 6) rfl))) (by decide) fun a hF => ?_
        refine s_grd 44 hF rfl rfl rfl ?_
        refine s_val hF (x_len Try.underlying22 rfl) (by decide) fun a hF => ?_
        refine s_grd 44 hF rfl rfl rfl ?_
        refine s_val hF (x_fa0 fa27_4 rfl) (by decide) fun a hF => ?_
        refine s_grd 44 hF rfl rfl rfl ?_
        refine s_val hF (x_load rfl (m_load flat22 (m3.cell (j := 6) rfl))) (by decide) fun a hF => ?_
        refine s_grd 44 hF rfl rfl rfl ?_
        refine s_val hF (x_len Try.underlying22 rfl) (by decide) fun a hF => ?_
        refine s_grd 44 hF rfl rfl rfl ?_
        refine s_val hF (x_neq (b := false) (decide_eq_false (by omega)) rfl rfl) (by decide) fun a hF => ?_
        refine s_val hF (x_pick (b := false) rfl rfl) (by decide) fun a hF => ?_
        refine s_end (hK34 _ _ ?_)
        refine wp_if hF rfl ?_
        refine wp_skip (hK28 _ _ ?_)
        refine wp_seq_k fun K35 hK35 => ?_
        refine wp_rs fun K36 hK36 => ?_
        refine s_val hF (x_fa0 fa27_4 rfl) (by decide) fun a hF => ?_
        refine s_val hF (x_load rfl (m_load flat22 (m2.cell (j := 6) rfl))) (by decide) fun a hF => ?_
        refine s_val hF (x_len Try.underlying22 rfl) (by decide) fun a hF => ?_
        refine s_val hF (x_move rfl) (by decide) fun a hF => ?_
        refine s_end (hK36 _ _ ?_)
        refine wp_block ?_
        refine wp_up ls1.length (fun i a w => (∀ (j : Nat) p q, j < i → ls1[j]? = some p → ls2[j]? = some q → eqO (slO p) (slO q)) ∧ Blk w b2 27 [.int .i64 xk, .int .i64 xn, .string xs, .int .i64 xl.1, .int .i64 xl.2.1, xl.2.2, .slice la ls1.length lca, .slice av nv cv] ∧ Blk w b3 27 [.int .i64 yk, .int .i64 yn, .string ys, .int .i64 yl.1, .int .i64 yl.2.1, yl.2.2, .slice lb ls2.length lcb, .slice au nu cu] ∧ Below w0.heap.size w0 w ∧ Fs 91 a [(2, .pointer (some ⟨b2, 0, none⟩)), (3, .pointer (some ⟨b3, 0, none⟩)), (55, .int .i64 (ls1.length : Int)), (56, .int .i64 (i : Int))]) ⟨(fun j p q h => absurd h (by omega)), m2, m3, hB, hF.sub _ rfl⟩ ?_
        repeat clear hF
        clear hB m2 m3
        rintro i a w hi ⟨hok, m2, m3, hB, hF⟩ K' hK'
        have sB := hB.size
        have l2_ := m2.lt
        have l3_ := m3.lt
        refine wp_rs fun K37 hK37 => ?_
        refine s_val hF (x_lss (b := decide (i < ls1.length)) (decide_eq_decide.2 (by omega)) rfl rfl) (by decide) fun a hF => ?_
        refine s_end (hK37 _ _ ?_)
        refine wp_seq_k fun K38 hK38 => ?_
        refine wp_iff hF rfl (fun hc57 => ?_) (fun hc57 => ?_)
        · obtain ⟨b9, off9, c9, x9, p, hve, hp, hrx, hAb, hbl, hrow⟩ := hv1.row (i := i) (by omega)
          obtain ⟨b8, off8, c8, y9, q, hue, hq9, hry, hAb8, hbl8, hrow8⟩ := hv2.row (i := i) (by omega)
          cases hve
          cases hue
          refine wp_skip (hK38 _ _ ?_)
          refine wp_seq_k fun K39 hK39 => ?_
          refine wp_block ?_
          refine wp_rs fun K40 hK40 => ?_
          refine s_val hF (x_move rfl) (by decide) fun a hF => ?_
          refine s_val hF (x_assign rfl) (by decide) fun a hF => ?_
          refine s_end (hK40 _ _ ?_)
          refine dk2_seq (w.heap.size) (w.heap.size) (ops := regOps Try.f82 16) (N := 12) (by kernel_rfl) wide_orders (by kernel_rfl) fun w38 hw38 B39 hS K41 hK41 => ?_
          have zw38 : w38.heap.size = w.heap.size := by rw [hw38]
          have sB39 := B39.size
          have hB := hB.trans (B39.mono hB.size)
          have m2 := m2.old B39
          have m3 := m3.old B39
          have m2_d := m2
          have m3_d := m3
          have hB_d := hB
          refine d_val 0 59 (op := (Go.Op.fieldAddr 27 (Go.Operand.tmp 2) 4)) hF hS (by kernel_rfl) (fun W hW => x_fa0 fa27_4 rfl) (by kernel_rfl) (by decide) fun a hF => ?_
          refine d_val 1 60 (op := (Go.Op.load 22 (Go.Operand.tmp 59))) hF hS (by kernel_rfl) (fun W hW => x_load rfl (m_load flat22 ((m2_d.k2 hW (by omega)).cell (j := 6) rfl))) (by kernel_rfl) (by decide) fun a hF => ?_
          refine d_val 2 61 (op := (Go.Op.move (Go.Operand.tmp 5))) hF hS (by kernel_rfl) (fun W hW => x_move rfl) (by kernel_rfl) (by decide) fun a hF => ?_
          refine d_val 3 62 (op := (Go.Op.indexAddr 22 (Go.Operand.tmp 60) (Go.Operand.tmp 61))) hF hS (by kernel_rfl) (fun W hW => x_ixa rfl rfl (m_ixsK i Try.underlying22 el22.size rfl (by omega))) (by kernel_rfl) (by decide) fun a hF => ?_
          refine d_val 4 63 (op := (Go.Op.load 24 (Go.Operand.tmp 62))) hF hS (by kernel_rfl) (fun W hW => x_ldA wide24 (hrow _ ((hW.under hB_d (by omega)).block _ hbl)) rfl rfl) (by kernel_rfl) (by decide) fun a hF => ?_
          refine d_val 5 64 (op := (Go.Op.fieldAddr 27 (Go.Operand.tmp 3) 4)) hF hS (by kernel_rfl) (fun W hW => x_fa0 fa27_4 rfl) (by kernel_rfl) (by decide) fun a hF => ?_
          refine d_val 6 65 (op := (Go.Op.load 22 (Go.Operand.tmp 64))) hF hS (by kernel_rfl) (fun W hW => x_load rfl (m_load flat22 ((m3_d.k2 hW (by omega)).cell (j := 6) rfl))) (by kernel_rfl) (by decide) fun a hF => ?_
          refine d_val 7 66 (op := (Go.Op.move (Go.Operand.tmp 5))) hF hS (by kernel_rfl) (fun W hW => x_move rfl) (by kernel_rfl) (by decide) fun a hF => ?_
          refine d_val 8 67 (op := (Go.Op.indexAddr 22 (Go.Operand.tmp 65) (Go.Operand.tmp 66))) hF hS (by kernel_rfl) (fun W hW => x_ixa rfl rfl (m_ixsK i Try.underlying22 el22.size rfl (by omega))) (by kernel_rfl) (by decide) fun a hF => ?_
          refine d_val 9 68 (op := (Go.Op.load 24 (Go.Operand.tmp 67))) hF hS (by kernel_rfl) (fun W hW => x_ldA wide24 (hrow8 _ ((hW.under hB_d (by omega)).block _ hbl8)) rfl rfl) (by kernel_rfl) (by decide) fun a hF => ?_
          refine d_one 10 (some 69) (Go.Op.call (Go.Call.mk (Go.Callee.value (Go.Operand.func 118)) #[(Go.Operand.tmp 63), (Go.Operand.tmp 68)] #[24, 24])) (by kernel_rfl) (by kernel_rfl) fun ty pos af => ?_
          refine s_callR (R := fun v w' => ∃ b, v = .bool b ∧ (b = true ↔ eqO (slO p) (slO q))) [_, _] hF (enters_of Try.func118 (by kernel_rfl) rfl) rfl (by decide) ((rEqual24 x9 y9 p q w38 (hrx.keep hB.size (fun k hk _ => hB.block k hk)).rl (hry.keep hB.size (fun k hk _ => hB.block k hk)).rl).mono fun e w' ⟨v, h1, ⟨b, h2, h4⟩, h5⟩ => ⟨v, h1, ⟨b, h2, h4.iff (hrx.keep hB.size (fun k hk _ => hB.block k hk)).rl (hry.keep hB.size (fun k hk _ => hB.block k hk)).rl⟩, h5⟩) ?_
          rintro _ w40 a ⟨b69, rfl, h69⟩ B41 hF
          have sB41 := B41.size
          have hB := hB.trans (B41.mono hB.size)
          have m2 := m2.old B41
          have m3 := m3.old B41
          have hS := hS.below B41
          refine s_end ⟨hS, ?_⟩
          refine d_val 11 70 (op := (Go.Op.unOp Go.UnOp.not 4 (Go.Operand.tmp 69))) hF hS (by kernel_rfl) (fun W hW => x_not rfl) (by kernel_rfl) (by decide) fun a hF => ?_
          refine d_end (by kernel_rfl) (hK41 _ _ ?_)
          refine wp_ifb hF rfl (fun hc70 => ?_) (fun hc70 => ?_)
          · have hn69 : ¬ eqO (slO p) (slO q) := fun h => by have := h69.2 h; subst this; simp at hc70
            refine wp_rs fun K42 hK42 => ?_
            refine s_val hF (x_assign rfl) (by decide) fun a hF => ?_
            refine s_end (hK42 _ _ ?_)
            refine wp_ret (inb_ret (then_ret (then_ret (inb_ret (then_ret (inb_ret (then_ret (res_slot hF rfl rfl ⟨_, rfl, ⟨false, rfl, fun h => absurd h (by decide), fun h => (hn69 (h.2.2 i (slO p) (slO q) (by rw [List.getElem?_map, hp]; rfl) (by rw [List.getElem?_map, hq9]; rfl))).elim⟩, hB⟩))))))))
          · obtain rfl : b69 = true := by simpa using hc70
            have h30 := h69.1 rfl
            refine wp_skip (hK39 _ _ ?_)
            refine wp_region_lit ?_
            refine s_val hF (x_addn (i + 1) (by omega) (by omega) rfl rfl) (by decide) fun a hF => ?_
            refine s_val hF (x_move rfl) (by decide) fun a hF => ?_
            refine s_end (hK' _ _ (by omega) ⟨(fun j p' q' hj e1 e2 => by rcases Nat.lt_or_ge j i with h | h; (· exact hok j p' q' h e1 e2); (· obtain rfl : j = i := (by omega); rw [hp] at e1; rw [hq9] at e2; cases e1; cases e2; exact h30)), m2, m3, hB, hF.sub _ rfl⟩)
        · obtain rfl : i = ls1.length := by omega
          refine wp_exit (hK35 _ _ ?_)
          refine wp_rs fun K43 hK43 => ?_
          refine s_val hF (x_assign rfl) (by decide) fun a hF => ?_
          refine s_end (hK43 _ _ ?_)
          refine wp_ret (inb_ret (then_ret (res_slot hF rfl rfl ⟨_, rfl, ⟨true, rfl, fun _ => ⟨by rw [← hs1, ← hs2]; exact hst.1, by simpa using hst.2, fun j o1 o2 e1 e2 => (by rw [List.getElem?_map] at e1 e2; obtain ⟨q1, e3, rfl⟩ := Option.map_eq_some_iff.1 e1; obtain ⟨q2, e4, rfl⟩ := Option.map_eq_some_iff.1 e2; exact hok j q1 q2 (List.getElem?_eq_some_iff.1 e3).1 e3 e4)⟩, fun _ => rfl⟩, hB⟩)))
    · have hl1 : (c.kids.length : Int) = arT c.kd := by omega
      have hl2 : (d.kids.length : Int) = arT d.kd := by omega
      have hlq : c.kids.length = d.kids.length := by rw [← hkx] at hl1; rw [← hky] at hl2; rw [hk.1] at hl1; omega
      refine wp_rs fun K44 hK44 => ?_
      refine s_val hF (x_eql (b := false) (decide_eq_false (by omega)) rfl rfl) (by decide) fun a hF => ?_
      refine s_val hF (x_assign rfl) (by decide) fun a hF => ?_
      refine s_end (hK44 _ _ ?_)
      refine wp_if hF rfl ?_
      refine wp_rs fun K45 hK45 => ?_
      refine s_val hF (x_eql (b := false) (decide_eq_false (by omega)) rfl rfl) (by decide) fun a hF => ?_
      refine s_val hF (x_assign rfl) (by decide) fun a hF => ?_
      refine s_end (hK45 _ _ ?_)
      refine wp_if hF rfl ?_
      refine wp_rs fun K46 hK46 => ?_
      refine s_val hF (x_eql (b := false) (decide_eq_false (by omega)) rfl rfl) (by decide) fun a hF => ?_
      refine s_val hF (x_assign rfl) (by decide) fun a hF => ?_
      refine s_end (hK46 _ _ ?_)
      refine wp_if hF rfl ?_
      refine wp_skip (hK17 _ _ ?_)
      refine wp_seq_k fun K47 hK47 => ?_
      refine wp_rs fun K48 hK48 => ?_
      refine s_val hF (x_fa0 fa27_0 rfl) (by decide) fun a hF => ?_
      refine s_val hF (x_load rfl (m_load flat3 (m2.cell (j := 0) rfl))) (by decide) fun a hF => ?_
      refine s_callS [_] hF (enters_of Try.func54 (by kernel_rfl) rfl) rfl (by decide) ((kids54 xk w34).mono fun e w' h => ⟨(by rw [h.1, hkx, ← hl1] : e = .returned (.int .i64 (c.kids.length : Int))), h.2⟩) fun a hF => ?_
      refine s_val hF (x_move rfl) (by decide) fun a hF => ?_
      refine s_end (hK48 _ _ ?_)
      refine wp_block ?_
      refine wp_up c.kids.length (fun i a w => (∀ (j : Nat) p q, j < i → c.kids[j]? = some p → d.kids[j]? = some q → sameP p.ess q.ess) ∧ Blk w b2 27 [.int .i64 xk, .int .i64 xn, .string xs, .int .i64 xl.1, .int .i64 xl.2.1, xl.2.2, xls, .slice av nv cv] ∧ Blk w b3 27 [.int .i64 yk, .int .i64 yn, .string ys, .int .i64 yl.1, .int .i64 yl.2.1, yl.2.2, yls, .slice au nu cu] ∧ Below w0.heap.size w0 w ∧ Fs 91 a [(2, .pointer (some ⟨b2, 0, none⟩)), (3, .pointer (some ⟨b3, 0, none⟩)), (74, .int .i64 (c.kids.length : Int)), (75, .int .i64 (i : Int))]) ⟨(fun j p q h => absurd h (by omega)), m2, m3, hB, hF.sub _ rfl⟩ ?_
      repeat clear hF
      clear hB m2 m3
      rintro i a w hi ⟨hok, m2, m3, hB, hF⟩ K' hK'
      have sB := hB.size
      have l2_ := m2.lt
      have l3_ := m3.lt
      refine wp_rs fun K49 hK49 => ?_
      refine s_val hF (x_lss (b := decide (i < c.kids.length)) (decide_eq_decide.2 (by omega)) rfl rfl) (by decide) fun a hF => ?_
      refine s_end (hK49 _ _ ?_)
      refine wp_seq_k fun K50 hK50 => ?_
      refine wp_iff hF rfl (fun hc76 => ?_) (fun hc76 => ?_)
      · obtain ⟨b9, off9, c9, x9, p, hve, hp, hrx, hAb, hbl, hrow⟩ := hkid.row (i := i) (by omega)
        obtain ⟨b8, off8, c8, y9, q, hue, hq9, hry, hAb8, hbl8, hrow8⟩ := hkid8.row (i := i) (by omega)
        cases hve
        cases hue
        refine wp_skip (hK50 _ _ ?_)
        refine wp_seq_k fun K51 hK51 => ?_
        refine wp_block ?_
        refine wp_rs fun K52 hK52 => ?_
        refine s_val hF (x_move rfl) (by decide) fun a hF => ?_
        refine s_val hF (x_assign rfl) (by decide) fun a hF => ?_
        refine s_end (hK52 _ _ ?_)
        refine dk2_seq (w.heap.size) (w.heap.size) (ops := regOps Try.f82 23) (N := 12) (by kernel_rfl) wide_orders (by kernel_rfl) fun w42 hw42 B43 hS K53 hK53 => ?_
        have zw42 : w42.heap.size = w.heap.size := by rw [hw42]
        have sB43 := B43.size
        have hB := hB.trans (B43.mono hB.size)
        have m2 := m2.old B43
        have m3 := m3.old B43
        have m2_d := m2
        have m3_d := m3
        have hB_d := hB
        refine d_val 0 78 (op := (Go.Op.fieldAddr 27 (Go.Operand.tmp 2) 5)) hF hS (by kernel_rfl) (fun W hW => x_fa0 fa27_5 rfl) (by kernel_rfl) (by decide) fun a hF => ?_
        refine d_val 1 79 (op := (Go.Op.load 25 (Go.Operand.tmp 78))) hF hS (by kernel_rfl) (fun W hW => x_load rfl (m_load flat25 ((m2_d.k2 hW (by omega)).cell (j := 7) rfl))) (by kernel_rfl) (by decide) fun a hF => ?_
        refine d_val 2 80 (op := (Go.Op.move (Go.Operand.tmp 6))) hF hS (by kernel_rfl) (fun W hW => x_move rfl) (by kernel_rfl) (by decide) fun a hF => ?_
        refine d_val 3 81 (op := (Go.Op.indexAddr 25 (Go.Operand.tmp 79) (Go.Operand.tmp 80))) hF hS (by kernel_rfl) (fun W hW => x_ixa rfl rfl (m_ixsK i Try.underlying25 el25.size rfl (by omega))) (by kernel_rfl) (by decide) fun a hF => ?_
        refine d_val 4 82 (op := (Go.Op.load 27 (Go.Operand.tmp 81))) hF hS (by kernel_rfl) (fun W hW => x_ldA wide27 (hrow _ ((hW.under hB_d (by omega)).block _ hbl)) rfl rfl) (by kernel_rfl) (by decide) fun a hF => ?_
        refine d_val 5 83 (op := (Go.Op.fieldAddr 27 (Go.Operand.tmp 3) 5)) hF hS (by kernel_rfl) (fun W hW => x_fa0 fa27_5 rfl) (by kernel_rfl) (by decide) fun a hF => ?_
        refine d_val 6 84 (op := (Go.Op.load 25 (Go.Operand.tmp 83))) hF hS (by kernel_rfl) (fun W hW => x_load rfl (m_load flat25 ((m3_d.k2 hW (by omega)).cell (j := 7) rfl))) (by kernel_rfl) (by decide) fun a hF => ?_
        refine d_val 7 85 (op := (Go.Op.move (Go.Operand.tmp 6))) hF hS (by kernel_rfl) (fun W hW => x_move rfl) (by kernel_rfl) (by decide) fun a hF => ?_
        refine d_val 8 86 (op := (Go.Op.indexAddr 25 (Go.Operand.tmp 84) (Go.Operand.tmp 85))) hF hS (by kernel_rfl) (fun W hW => x_ixa rfl rfl (m_ixsK i Try.underlying25 el25.size rfl (by omega))) (by kernel_rfl) (by decide) fun a hF => ?_
        refine d_val 9 87 (op := (Go.Op.load 27 (Go.Operand.tmp 86))) hF hS (by kernel_rfl) (fun W hW => x_ldA wide27 (hrow8 _ ((hW.under hB_d (by omega)).block _ hbl8)) rfl rfl) (by kernel_rfl) (by decide) fun a hF => ?_
        refine d_one 10 (some 88) (Go.Op.call (Go.Call.mk (Go.Callee.value (Go.Operand.func 82)) #[(Go.Operand.tmp 82), (Go.Operand.tmp 87)] #[27, 27])) (by kernel_rfl) (by kernel_rfl) fun ty pos af => ?_
        refine s_callR (R := fun v w' => ∃ b, v = .bool b ∧ (b = true ↔ sameP p.ess q.ess)) [_, _] hF (enters_of Try.func82 (by kernel_rfl) rfl) rfl (by decide) (ih p q x9 y9 w42 (by have := CT.kid_size hp; omega) (hrx.bel hB) (hry.bel hB) (PT.fit_kid hfit hp)) ?_
        rintro _ w44 a ⟨b88, rfl, h88⟩ B45 hF
        have sB45 := B45.size
        have hB := hB.trans (B45.mono hB.size)
        have m2 := m2.old B45
        have m3 := m3.old B45
        have hS := hS.below B45
        refine s_end ⟨hS, ?_⟩
        refine d_val 11 89 (op := (Go.Op.unOp Go.UnOp.not 4 (Go.Operand.tmp 88))) hF hS (by kernel_rfl) (fun W hW => x_not rfl) (by kernel_rfl) (by decide) fun a hF => ?_
        refine d_end (by kernel_rfl) (hK53 _ _ ?_)
        refine wp_ifb hF rfl (fun hc89 => ?_) (fun hc89 => ?_)
        · have hn88 : ¬ sameP p.ess q.ess := fun h => by have := h88.2 h; subst this; simp at hc89
          refine wp_rs fun K54 hK54 => ?_
          refine s_val hF (x_assign rfl) (by decide) fun a hF => ?_
          refine s_end (hK54 _ _ ?_)
          refine wp_ret (inb_ret (then_ret (then_ret (inb_ret (then_ret (res_slot hF rfl rfl ⟨_, rfl, ⟨false, rfl, fun h => absurd h (by decide), fun h => (hn88 (((same_rest hx hy hk.1 hq).1 h).2 i p q hp hq9)).elim⟩, hB⟩))))))
        · obtain rfl : b88 = true := by simpa using hc89
          have h30 := h88.1 rfl
          refine wp_skip (hK51 _ _ ?_)
          refine wp_region_lit ?_
          refine s_val hF (x_addn (i + 1) (by omega) (by omega) rfl rfl) (by decide) fun a hF => ?_
          refine s_val hF (x_move rfl) (by decide) fun a hF => ?_
          refine s_end (hK' _ _ (by omega) ⟨(fun j p' q' hj e1 e2 => by rcases Nat.lt_or_ge j i with h | h; (· exact hok j p' q' h e1 e2); (· obtain rfl : j = i := (by omega); rw [hp] at e1; rw [hq9] at e2; cases e1; cases e2; exact h30)), m2, m3, hB, hF.sub _ rfl⟩)
      · obtain rfl : i = c.kids.length := by omega
        refine wp_exit (hK47 _ _ ?_)
        refine wp_rs fun K55 hK55 => ?_
        refine s_val hF (x_assign rfl) (by decide) fun a hF => ?_
        refine s_end (hK55 _ _ ?_)
        refine wp_ret (res_slot hF rfl rfl ⟨_, rfl, ⟨true, rfl, fun _ => (same_rest hx hy hk.1 hq).2 ⟨hlq, fun j p q e1 e2 => hok j p q (List.getElem?_eq_some_iff.1 e1).1 e1 e2⟩, fun _ => rfl⟩, hB⟩)

set_option maxRecDepth 100000 in
set_option maxHeartbeats 400000 in
theorem rSame41 (c d : CT) (x y : C8) (w0 : World) (hx : RC w0 (fun k => k < w0.heap.size) c x) (hy : RC w0 (fun k => k < w0.heap.size) d y) (hfit : c.ess.fit) : Calls Try.prog 41 #[tv x, tv y] w0 fun e w' => ∃ z, e = .returned z ∧ (∃ b, z = .bool b ∧ (b = true ↔ c.ok ∧ d.ok ∧ sameP c.ess d.ess)) ∧ Below w0.heap.size w0 w' := by
  have hB := Below.refl w0.heap.size w0
  have sB := hB.size
  refine calls_fs 18 [(0, tv x), (1, tv y)] Try.func41 rfl rfl rfl rfl rfl fun a hF => ?_
  refine wp_rs fun K1 hK1 => ?_
  refine s_box (tc x) hF (by decide) rfl rfl fun w2 b2 a eb2 m2 B3 zb2 hF => ?_
  have sB3 := B3.size
  have hB := hB.trans (B3.mono hB.size)
  refine s_box (tc y) hF (by decide) rfl rfl fun w4 b3 a eb3 m3 B5 zb3 hF => ?_
  have sB5 := B5.size
  have hB := hB.trans (B5.mono hB.size)
  have m2 := m2.old B5
  refine s_val hF (x_assign rfl) (by decide) fun a hF => ?_
  refine s_end (hK1 _ _ ?_)
  rcases (show ¬ c.ok ∨ (c.ok ∧ ¬ d.ok) ∨ (c.ok ∧ d.ok) by by_cases h : c.ok <;> by_cases h2 : d.ok <;> simp [h, h2]) with hk1 | ⟨hk1, hk2⟩ | ⟨hk1, hk2⟩
  · skip
    refine wp_rs fun K3 hK3 => ?_
    refine s_val hF (x_ldW wide27 m2 rfl rfl) (by decide) fun a hF => ?_
    refine s_callB [_] hF (enters_of Try.func14 (by kernel_rfl) rfl) rfl (by decide) ((TooGreat14 c x w4 (hx.bel hB)).mono fun e w' h => ⟨by rw [h.1, decide_eq_true hk1], h.2⟩) fun w6 a B7 hF => ?_
    have sB7 := B7.size
    have hB := hB.trans (B7.mono hB.size)
    have m2 := m2.old B7
    have m3 := m3.old B7
    refine s_val hF (x_not rfl) (by decide) fun a hF => ?_
    refine s_val hF (x_move rfl) (by decide) fun a hF => ?_
    refine s_grdn 8 hF rfl rfl (by decide) fun a hF => ?_
    refine s_grdn 8 hF rfl rfl (by decide) fun a hF => ?_
    refine s_grdn 8 hF rfl rfl (by decide) fun a hF => ?_
    refine s_val hF (x_pick (b := false) rfl rfl) (by decide) fun a hF => ?_
    refine s_val hF (x_move rfl) (by decide) fun a hF => ?_
    refine s_grdn 13 hF rfl rfl (by decide) fun a hF => ?_
    refine s_grdn 13 hF rfl rfl (by decide) fun a hF => ?_
    refine s_grdn 13 hF rfl rfl (by decide) fun a hF => ?_
    refine s_val hF (x_pick (b := false) rfl rfl) (by decide) fun a hF => ?_
    refine s_val hF (x_assign rfl) (by decide) fun a hF => ?_
    refine s_end (hK3 _ _ ?_)
    refine wp_ret (res_slot hF rfl rfl ⟨_, rfl, ⟨false, rfl, fun h => absurd h (by decide), fun h => (hk1 h.1).elim⟩, hB⟩)
  · skip
    refine wp_rs fun K4 hK4 => ?_
    refine s_val hF (x_ldW wide27 m2 rfl rfl) (by decide) fun a hF => ?_
    refine s_callB [_] hF (enters_of Try.func14 (by kernel_rfl) rfl) rfl (by decide) ((TooGreat14 c x w4 (hx.bel hB)).mono fun e w' h => ⟨by rw [h.1, decide_eq_false (fun h => h hk1)], h.2⟩) fun w8 a B9 hF => ?_
    have sB9 := B9.size
    have hB := hB.trans (B9.mono hB.size)
    have m2 := m2.old B9
    have m3 := m3.old B9
    refine s_val hF (x_not rfl) (by decide) fun a hF => ?_
    refine s_val hF (x_move rfl) (by decide) fun a hF => ?_
    refine s_grd 8 hF rfl rfl rfl ?_
    refine s_val hF (x_ldW wide27 m3 rfl rfl) (by decide) fun a hF => ?_
    refine s_grd 8 hF rfl rfl rfl ?_
    refine s_callB [_] hF (enters_of Try.func14 (by kernel_rfl) rfl) rfl (by decide) ((TooGreat14 d y w8 (hy.bel hB)).mono fun e w' h => ⟨by rw [h.1, decide_eq_true hk2], h.2⟩) fun w10 a B11 hF => ?_
    have sB11 := B11.size
    have hB := hB.trans (B11.mono hB.size)
    have m2 := m2.old B11
    have m3 := m3.old B11
    refine s_grd 8 hF rfl rfl rfl ?_
    refine s_val hF (x_not rfl) (by decide) fun a hF => ?_
    refine s_val hF (x_pick (b := true) rfl rfl) (by decide) fun a hF => ?_
    refine s_val hF (x_move rfl) (by decide) fun a hF => ?_
    refine s_grdn 13 hF rfl rfl (by decide) fun a hF => ?_
    refine s_grdn 13 hF rfl rfl (by decide) fun a hF => ?_
    refine s_grdn 13 hF rfl rfl (by decide) fun a hF => ?_
    refine s_val hF (x_pick (b := false) rfl rfl) (by decide) fun a hF => ?_
    refine s_val hF (x_assign rfl) (by decide) fun a hF => ?_
    refine s_end (hK4 _ _ ?_)
    refine wp_ret (res_slot hF rfl rfl ⟨_, rfl, ⟨false, rfl, fun h => absurd h (by decide), fun h => (hk2 h.2.1).elim⟩, hB⟩)
  · skip
    refine wp_rs fun K5 hK5 => ?_
    refine s_val hF (x_ldW wide27 m2 rfl rfl) (by decide) fun a hF => ?_
    refine s_callB [_] hF (enters_of Try.func14 (by kernel_rfl) rfl) rfl (by decide) ((TooGreat14 c x w4 (hx.bel hB)).mono fun e w' h => ⟨by rw [h.1, decide_eq_false (fun h => h hk1)], h.2⟩) fun w12 a B13 hF => ?_
    have sB13 := B13.size
    have hB := hB.trans (B13.mono hB.size)
    have m2 := m2.old B13
    have m3 := m3.old B13
    refine s_val hF (x_not rfl) (by decide) fun a hF => ?_
    refine s_val hF (x_move rfl) (by decide) fun a hF => ?_
    refine s_grd 8 hF rfl rfl rfl ?_
    refine s_val hF (x_ldW wide27 m3 rfl rfl) (by decide) fun a hF => ?_
    refine s_grd 8 hF rfl rfl rfl ?_
    refine s_callB [_] hF (enters_of Try.func14 (by kernel_rfl) rfl) rfl (by decide) ((TooGreat14 d y w12 (hy.bel hB)).mono fun e w' h => ⟨by rw [h.1, decide_eq_false (fun h => h hk2)], h.2⟩) fun w14 a B15 hF => ?_
    have sB15 := B15.size
    have hB := hB.trans (B15.mono hB.size)
    have m2 := m2.old B15
    have m3 := m3.old B15
    refine s_grd 8 hF rfl rfl rfl ?_
    refine s_val hF (x_not rfl) (by decide) fun a hF => ?_
    refine s_val hF (x_pick (b := true) rfl rfl) (by decide) fun a hF => ?_
    refine s_val hF (x_move rfl) (by decide) fun a hF => ?_
    refine s_grd 13 hF rfl rfl rfl ?_
    refine s_val hF (x_ldW wide27 m2 rfl rfl) (by decide) fun a hF => ?_
    refine s_grd 13 hF rfl rfl rfl ?_
    refine s_val hF (x_ldW wide27 m3 rfl rfl) (by decide) fun a hF => ?_
    refine s_grd 13 hF rfl rfl rfl ?_
    refine s_callR (R := fun v w' => ∃ b, v = .bool b ∧ (b = true ↔ sameP c.ess d.ess)) [_, _] hF (enters_of Try.func82 (by kernel_rfl) rfl) rfl (by decide) (rsame82 (c.size + 1) c d x y w14 (by omega) (hx.bel hB) (hy.bel hB) hfit) ?_
    rintro _ w16 a ⟨b16, rfl, h16⟩ B17 hF
    have sB17 := B17.size
    have hB := hB.trans (B17.mono hB.size)
    have m2 := m2.old B17
    have m3 := m3.old B17
    refine s_val hF (x_pick (b := true) rfl rfl) (by decide) fun a hF => ?_
    refine s_val hF (x_assign rfl) (by decide) fun a hF => ?_
    refine s_end (hK5 _ _ ?_)
    refine wp_ret (res_slot hF rfl rfl ⟨_, rfl, ⟨_, rfl, by rw [h16]; exact ⟨fun h => ⟨hk1, hk2, h⟩, fun h => h.2.2⟩⟩, hB⟩)

set_option maxRecDepth 100000 in
set_option maxHeartbeats 400000 in
theorem termSame_walk (a0 v0 : CT) (x y : C8) (w0 : World) (hx : RC w0 (fun k => k < w0.heap.size) a0 x) (hy : RC w0 (fun k => k < w0.heap.size) v0 y) (fa : a0.fit) (fv : v0.fit) : Calls Try.prog 6 #[tv x, tv y] w0 fun e w' => e = .returned (.bool true) ∧ Below w0.heap.size w0 w' := by
  have hfe := CT.fit_ess fa
  have hB := Below.refl w0.heap.size w0
  have sB := hB.size
  refine calls_fs 24 [(0, tv x), (1, tv y)] Try.func6 rfl rfl rfl rfl rfl fun a hF => ?_
  refine wp_rs fun K1 hK1 => ?_
  refine s_box (tc x) hF (by decide) rfl rfl fun w2 b2 a eb2 m2 B3 zb2 hF => ?_
  have sB3 := B3.size
  have hB := hB.trans (B3.mono hB.size)
  refine s_box (tc y) hF (by decide) rfl rfl fun w4 b3 a eb3 m3 B5 zb3 hF => ?_
  have sB5 := B5.size
  have hB := hB.trans (B5.mono hB.size)
  have m2 := m2.old B5
  refine s_val hF (x_assign rfl) (by decide) fun a hF => ?_
  refine s_end (hK1 _ _ ?_)
  refine dk2_seq (w4.heap.size) (w4.heap.size) (ops := regOps Try.f6 1) (N := 20) (by kernel_rfl) wide_orders (by kernel_rfl) fun w6 hw6 B7 hS K2 hK2 => ?_
  have zw6 : w6.heap.size = w4.heap.size := by rw [hw6]
  have sB7 := B7.size
  have hB := hB.trans (B7.mono hB.size)
  have m2 := m2.old B7
  have m3 := m3.old B7
  have m2_d := m2
  have m3_d := m3
  have hB_d := hB
  refine d_val 0 5 (op := (Go.Op.load 27 (Go.Operand.tmp 2))) hF hS (by kernel_rfl) (fun W hW => x_ldW wide27 (m2_d.k2 hW (by omega)) rfl rfl) (by kernel_rfl) (by decide) fun a hF => ?_
  refine d_val 1 6 (op := (Go.Op.load 27 (Go.Operand.tmp 3))) hF hS (by kernel_rfl) (fun W hW => x_ldW wide27 (m3_d.k2 hW (by omega)) rfl rfl) (by kernel_rfl) (by decide) fun a hF => ?_
  refine d_val 3 8 (op := (Go.Op.load 27 (Go.Operand.tmp 2))) hF hS (by kernel_rfl) (fun W hW => x_ldW wide27 (m2_d.k2 hW (by omega)) rfl rfl) (by kernel_rfl) (by decide) fun a hF => ?_
  refine d_val 4 9 (op := (Go.Op.load 27 (Go.Operand.tmp 3))) hF hS (by kernel_rfl) (fun W hW => x_ldW wide27 (m3_d.k2 hW (by omega)) rfl rfl) (by kernel_rfl) (by decide) fun a hF => ?_
  refine d_one 2 (some 7) (Go.Op.call (Go.Call.mk (Go.Callee.value (Go.Operand.func 40)) #[(Go.Operand.tmp 5), (Go.Operand.tmp 6)] #[27, 27])) (by kernel_rfl) (by kernel_rfl) fun ty pos af => ?_
  refine s_callR (R := fun v w' => ∃ b, v = .bool b ∧ (b = true ↔ a0.ok ∧ v0.ok ∧ sameP a0.ess v0.ess)) [_, _] hF (enters_of Try.func40 (by kernel_rfl) rfl) rfl (by decide) (Same40 a0 v0 x y w6 (hx.bel hB) (hy.bel hB) hfe) ?_
  rintro _ w8 a ⟨b7, rfl, h7⟩ B9 hF
  have sB9 := B9.size
  have hB := hB.trans (B9.mono hB.size)
  have m2 := m2.old B9
  have m3 := m3.old B9
  have hS := hS.below B9
  refine s_end ⟨hS, ?_⟩
  refine d_one 5 (some 10) (Go.Op.call (Go.Call.mk (Go.Callee.value (Go.Operand.func 41)) #[(Go.Operand.tmp 8), (Go.Operand.tmp 9)] #[27, 27])) (by kernel_rfl) (by kernel_rfl) fun ty pos af => ?_
  refine s_callR (R := fun v w' => ∃ b, v = .bool b ∧ (b = true ↔ a0.ok ∧ v0.ok ∧ sameP a0.ess v0.ess)) [_, _] hF (enters_of Try.func41 (by kernel_rfl) rfl) rfl (by decide) (rSame41 a0 v0 x y w8 (hx.bel hB) (hy.bel hB) hfe) ?_
  rintro _ w10 a ⟨b10, rfl, h10⟩ B11 hF
  have sB11 := B11.size
  have hB := hB.trans (B11.mono hB.size)
  have m2 := m2.old B11
  have m3 := m3.old B11
  have hS := hS.below B11
  obtain rfl : b10 = b7 := by rw [Bool.eq_iff_iff, h10, h7]
  refine s_end ⟨hS, ?_⟩
  refine d_val 6 11 (op := (Go.Op.binOp Go.BinOp.eql 4 (Go.Operand.tmp 7) (Go.Operand.tmp 10) 4)) hF hS (by kernel_rfl) (fun W hW => x_eqB (b := true) Try.underlying4 (by simp) rfl rfl) (by kernel_rfl) (by decide) fun a hF => ?_
  refine d_val 7 12 (op := (Go.Op.move (Go.Operand.tmp 11))) hF hS (by kernel_rfl) (fun W hW => x_move rfl) (by kernel_rfl) (by decide) fun a hF => ?_
  refine d_valg 8 13 12 (j := 7) (want := true) (op := (Go.Op.load 27 (Go.Operand.tmp 2))) hF hS (by kernel_rfl) (by kernel_rfl) rfl (fun W hW => x_ldW wide27 (m2_d.k2 hW (by omega)) rfl rfl) (by kernel_rfl) (by decide) fun a hF => ?_
  refine d_valg 9 14 12 (j := 7) (want := true) (op := (Go.Op.load 27 (Go.Operand.tmp 2))) hF hS (by kernel_rfl) (by kernel_rfl) rfl (fun W hW => x_ldW wide27 (m2_d.k2 hW (by omega)) rfl rfl) (by kernel_rfl) (by decide) fun a hF => ?_
  refine d_valg 11 16 12 (j := 7) (want := true) (op := (Go.Op.load 27 (Go.Operand.tmp 2))) hF hS (by kernel_rfl) (by kernel_rfl) rfl (fun W hW => x_ldW wide27 (m2_d.k2 hW (by omega)) rfl rfl) (by kernel_rfl) (by decide) fun a hF => ?_
  refine d_valg 12 17 12 (j := 7) (want := true) (op := (Go.Op.load 27 (Go.Operand.tmp 2))) hF hS (by kernel_rfl) (by kernel_rfl) rfl (fun W hW => x_ldW wide27 (m2_d.k2 hW (by omega)) rfl rfl) (by kernel_rfl) (by decide) fun a hF => ?_
  refine d_oneg 10 12 (some 15) (Go.Op.call (Go.Call.mk (Go.Callee.value (Go.Operand.func 40)) #[(Go.Operand.tmp 13), (Go.Operand.tmp 14)] #[27, 27])) (j := 7) (want := true) hF (by kernel_rfl) (by kernel_rfl) (by kernel_rfl) rfl fun ty pos af => ?_
  refine s_callR (R := fun v w' => ∃ b, v = .bool b ∧ (b = true ↔ a0.ok ∧ a0.ok ∧ sameP a0.ess a0.ess)) [_, _] hF (enters_of Try.func40 (by kernel_rfl) rfl) rfl (by decide) (Same40 a0 a0 x x w10 (hx.bel hB) (hx.bel hB) hfe) ?_
  rintro _ w12 a ⟨b15, rfl, h15⟩ B13 hF
  have sB13 := B13.size
  have hB := hB.trans (B13.mono hB.size)
  have m2 := m2.old B13
  have m3 := m3.old B13
  have hS := hS.below B13
  refine s_end ⟨hS, ?_⟩
  refine d_oneg 13 12 (some 18) (Go.Op.call (Go.Call.mk (Go.Callee.value (Go.Operand.func 41)) #[(Go.Operand.tmp 16), (Go.Operand.tmp 17)] #[27, 27])) (j := 7) (want := true) hF (by kernel_rfl) (by kernel_rfl) (by kernel_rfl) rfl fun ty pos af => ?_
  refine s_callR (R := fun v w' => ∃ b, v = .bool b ∧ (b = true ↔ a0.ok ∧ a0.ok ∧ sameP a0.ess a0.ess)) [_, _] hF (enters_of Try.func41 (by kernel_rfl) rfl) rfl (by decide) (rSame41 a0 a0 x x w12 (hx.bel hB) (hx.bel hB) hfe) ?_
  rintro _ w14 a ⟨b18, rfl, h18⟩ B15 hF
  have sB15 := B15.size
  have hB := hB.trans (B15.mono hB.size)
  have m2 := m2.old B15
  have m3 := m3.old B15
  have hS := hS.below B15
  obtain rfl : b18 = b15 := by rw [Bool.eq_iff_iff, h18, h15]
  refine s_end ⟨hS, ?_⟩
  refine d_valg 14 19 12 (j := 7) (want := true) (op := (Go.Op.binOp Go.BinOp.eql 4 (Go.Operand.tmp 15) (Go.Operand.tmp 18) 4)) hF hS (by kernel_rfl) (by kernel_rfl) rfl (fun W hW => x_eqB (b := true) Try.underlying4 (by simp) rfl rfl) (by kernel_rfl) (by decide) fun a hF => ?_
  refine d_val 15 20 (op := (Go.Op.pick (Go.Operand.tmp 12) (Go.Operand.tmp 19) (Go.Operand.const (Go.Value.bool false)))) hF hS (by kernel_rfl) (fun W hW => x_pick (b := true) rfl rfl) (by kernel_rfl) (by decide) fun a hF => ?_
  refine d_val 16 21 (op := (Go.Op.move (Go.Operand.tmp 20))) hF hS (by kernel_rfl) (fun W hW => x_move rfl) (by kernel_rfl) (by decide) fun a hF => ?_
  refine d_oneg 17 21 (some 22) (Go.Op.call (Go.Call.mk (Go.Callee.value (Go.Operand.func 15)) #[] #[])) (j := 16) (want := true) hF (by kernel_rfl) (by kernel_rfl) (by kernel_rfl) rfl fun ty pos af => ?_
  refine s_callB [] hF (enters_of Try.func15 (by kernel_rfl) rfl) rfl (by decide) (awake15 w14) fun w16 a B17 hF => ?_
  have sB17 := B17.size
  have hB := hB.trans (B17.mono hB.size)
  have m2 := m2.old B17
  have m3 := m3.old B17
  have hS := hS.below B17
  refine s_end ⟨hS, ?_⟩
  refine d_val 18 23 (op := (Go.Op.pick (Go.Operand.tmp 21) (Go.Operand.tmp 22) (Go.Operand.const (Go.Value.bool false)))) hF hS (by kernel_rfl) (fun W hW => x_pick (b := true) rfl rfl) (by kernel_rfl) (by decide) fun a hF => ?_
  refine d_val 19 4 (op := (Go.Op.assign (Go.Operand.tmp 23))) hF hS (by kernel_rfl) (fun W hW => x_assign rfl) (by kernel_rfl) (by decide) fun a hF => ?_
  refine d_end (by kernel_rfl) (hK2 _ _ ?_)
  refine wp_ret (res_slot hF rfl rfl ⟨rfl, hB⟩)
end Go.Proofs.Ytgpciphjhnabcaa
