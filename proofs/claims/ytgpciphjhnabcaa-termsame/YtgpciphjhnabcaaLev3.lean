/- The reference's sound, Sound; little. -/
import Derived.Test.YtgpciphjhnabcaaLev2
namespace Go.Proofs.Ytgpciphjhnabcaa
open Go.RowKit Go.Shelf
set_option linter.unusedVariables false
set_option linter.unusedSimpArgs false

theorem chk_no {D top vars d : Int} {r : Nat} {k n : Int} {ls : List Lv} (h : nodeE D top vars d r k n ls.length ≠ 0) : (chk D top vars d r (.mk k n ls)).1 ≠ 0 := by rw [chk_out h]; exact h
theorem node_two {D top vars d : Int} {r : Nat} {k n : Int} {len : Nat} (h : D < d ∨ r = 0) : nodeE D top vars d r k n len ≠ 0 := fun h1 => by have := nodeE_iff.1 h1; omega
theorem node_kid {D top vars d : Int} {r : Nat} {k n : Int} {len : Nat} (h : arI k < 0 ∨ (len : Int) ≠ arI k) : nodeE D top vars d r k n len ≠ 0 := fun h1 => by
  have := (nodeE_iff.1 h1).2.2.1
  rw [arI_no h] at this
  cases this
theorem node_num {D top vars d : Int} {r : Nat} {k n : Int} {len : Nat} (h : ¬ ((k = 1 → 0 ≤ n ∧ n ≤ top) ∧ (k = 3 → 1 ≤ n ∧ n ≤ top))) : nodeE D top vars d r k n len ≠ 0 := fun h1 => h (numB_iff.1 (nodeE_iff.1 h1).2.2.2.1)
theorem node_var {D top vars d : Int} {r : Nat} {k n : Int} {len : Nat} (h : k = 2 ∧ (n < 0 ∨ vars ≤ n)) : nodeE D top vars d r k n len ≠ 0 := fun h1 => (nodeE_iff.1 h1).2.2.2.2 h
theorem nil_of_kids {k : Int} {ls : List Lv} (h : kidsB k ls.length = true) (hk : k = 1 ∨ k = 2) : ls = [] := List.eq_nil_of_length_eq_zero (by have := kidsB_iff.1 h; omega)
theorem bool_of {p : Prop} [Decidable p] {b : Bool} (h : b = decide p) : Value.bool b = Value.bool (decide p) := by rw [h]

set_option maxRecDepth 100000 in
set_option maxHeartbeats 1600000 in
theorem rsound39 (w0 : World) (g : Nat) (hg : w0.heap.size ≤ g) : ∀ (x : C3) (l : Lv), RL w0 x l → ∀ (d : Int) (r : Nat) (w1 : World), 1 ≤ d → d ≤ 300 → r ≤ 1000 → Below w0.heap.size w0 w1 → Blk w1 g 3 [.int .i64 (1000 - (r : Int))] →
    Calls Try.prog 104 #[lv x, .int .i64 d, .pointer (some ⟨g, 0, none⟩)] w1 fun e w' => ∃ v, e = .returned v ∧ (v = .bool (decide ((chk 256 1099511627776 1001 d r l).1 = 0)) ∧ ((chk 256 1099511627776 1001 d r l).1 = 0 → Blk w' g 3 [.int .i64 (1000 - ((chk 256 1099511627776 1001 d r l).2 : Int))])) ∧ Ktw g g w1 w' := by
  intro x l h
  induction h with
  | @mk k n v xs ls hR hl hk ih =>
  intro d r w1 hd1 hd2 hr hB mg
  obtain ⟨av, cv, rfl, _⟩ := hR.form
  have hK := Ktw.refl g g w1
  have sB := hB.size
  have hgl := mg.lt
  refine calls_fs 83 [(0, .agg [.int .i64 k, .int .i64 n, .slice av xs.length cv].toArray), (1, .int .i64 d), (2, .pointer (some ⟨g, 0, none⟩))] Try.func104 rfl rfl rfl rfl rfl fun a hF => ?_
  refine wp_rs fun K1 hK1 => ?_
  refine s_box ([.int .i64 k, .int .i64 n, .slice av xs.length cv]) hF (by decide) rfl rfl fun w2 b3 a eb3 m3 B3 zb3 hF => ?_
  have sB3 := B3.size
  have hB := hB.trans (B3.mono hB.size)
  have hK := hK.below B3
  have mg := mg.old B3
  refine s_val hF (x_assign rfl) (by decide) fun a hF => ?_
  refine s_end (hK1 _ _ ?_)
  refine wp_rs fun K2 hK2 => ?_
  refine s_val hF (x_move rfl) (by decide) fun a hF => ?_
  refine s_val hF (x_nil rfl) (by decide) fun a hF => ?_
  refine s_val hF (x_load rfl (m_load flat3 (mg.cell (j := 0) rfl))) (by decide) fun a hF => ?_
  refine s_val hF (x_add (by omega) (by omega) rfl rfl) (by decide) fun a hF => ?_
  refine s_val hF (x_nil rfl) (by decide) fun a hF => ?_
  refine s_put hF rfl rfl flat3 mg (by simp) rfl fun w4 mg o5 => ?_
  have so5 := o5.size
  have hB := hB.trans (o5.below (by omega))
  have hK := hK.only o5 (by omega)
  have m3 := m3.only o5 (by omega)
  refine s_end (hK2 _ _ ?_)
  refine wp_seq_k fun K3 hK3 => ?_
  rcases (show 256 < d ∨ (d ≤ 256 ∧ r = 0) ∨ (d ≤ 256 ∧ r ≠ 0 ∧ arI k < 0) ∨ (d ≤ 256 ∧ r ≠ 0 ∧ 0 ≤ arI k ∧ (xs.length : Int) ≠ arI k) ∨ (d ≤ 256 ∧ r ≠ 0 ∧ 0 ≤ arI k ∧ (xs.length : Int) = arI k) by omega) with hp | hp | hp | hp | hp
  · skip
    refine dk2_seq (w4.heap.size) (w4.heap.size) (ops := regOps Try.f104 2) (N := 23) (by kernel_rfl) wide_orders (by kernel_rfl) fun w6 hw6 B7 hS K5 hK5 => ?_
    have zw6 : w6.heap.size = w4.heap.size := by rw [hw6]
    have sB7 := B7.size
    have hB := hB.trans (B7.mono hB.size)
    have hK := hK.below B7
    have mg := mg.old B7
    have m3 := m3.old B7
    have mg_d := mg
    have m3_d := m3
    have hB_d := hB
    have hK_d := hK
    refine d_val 0 14 (op := (Go.Op.move (Go.Operand.tmp 1))) hF hS (by kernel_rfl) (fun W hW => x_move rfl) (by kernel_rfl) (by decide) fun a hF => ?_
    refine d_val 1 15 (op := (Go.Op.binOp Go.BinOp.gtr 3 (Go.Operand.tmp 14) (Go.Operand.const (Go.Value.int Go.IntKind.i64 256)) 3)) hF hS (by kernel_rfl) (fun W hW => x_gtr (b := true) (decide_eq_true (by omega)) rfl rfl) (by kernel_rfl) (by decide) fun a hF => ?_
    refine d_val 2 16 (op := (Go.Op.move (Go.Operand.tmp 15))) hF hS (by kernel_rfl) (fun W hW => x_move rfl) (by kernel_rfl) (by decide) fun a hF => ?_
    refine d_skip 3 17 16 (j := 2) (want := false) (op := (Go.Op.move (Go.Operand.tmp 2))) hF hS (by kernel_rfl) (by kernel_rfl) rfl (by kernel_rfl) (by decide) fun a hF => ?_
    refine d_skip 4 18 16 (j := 2) (want := false) (op := (Go.Op.nilCheck (Go.Operand.tmp 17))) hF hS (by kernel_rfl) (by kernel_rfl) rfl (by kernel_rfl) (by decide) fun a hF => ?_
    refine d_skip 5 19 16 (j := 2) (want := false) (op := (Go.Op.load 3 (Go.Operand.tmp 18))) hF hS (by kernel_rfl) (by kernel_rfl) rfl (by kernel_rfl) (by decide) fun a hF => ?_
    refine d_skip 6 20 16 (j := 2) (want := false) (op := (Go.Op.binOp Go.BinOp.gtr 3 (Go.Operand.tmp 19) (Go.Operand.const (Go.Value.int Go.IntKind.i64 1000)) 3)) hF hS (by kernel_rfl) (by kernel_rfl) rfl (by kernel_rfl) (by decide) fun a hF => ?_
    refine d_val 7 21 (op := (Go.Op.pick (Go.Operand.tmp 16) (Go.Operand.const (Go.Value.bool true)) (Go.Operand.tmp 20))) hF hS (by kernel_rfl) (fun W hW => x_pick (b := true) rfl rfl) (by kernel_rfl) (by decide) fun a hF => ?_
    refine d_val 8 22 (op := (Go.Op.move (Go.Operand.tmp 21))) hF hS (by kernel_rfl) (fun W hW => x_move rfl) (by kernel_rfl) (by decide) fun a hF => ?_
    refine d_skip 9 23 22 (j := 8) (want := false) (op := (Go.Op.fieldAddr 24 (Go.Operand.tmp 3) 0)) hF hS (by kernel_rfl) (by kernel_rfl) rfl (by kernel_rfl) (by decide) fun a hF => ?_
    refine d_skip 10 24 22 (j := 8) (want := false) (op := (Go.Op.load 3 (Go.Operand.tmp 23))) hF hS (by kernel_rfl) (by kernel_rfl) rfl (by kernel_rfl) (by decide) fun a hF => ?_
    refine d_skip 11 25 22 (j := 8) (want := false) (op := (Go.Op.call (Go.Call.mk (Go.Callee.value (Go.Operand.func 132)) #[(Go.Operand.tmp 24)] #[3]))) hF hS (by kernel_rfl) (by kernel_rfl) rfl (by kernel_rfl) (by decide) fun a hF => ?_
    refine d_skip 12 26 22 (j := 8) (want := false) (op := (Go.Op.binOp Go.BinOp.lss 3 (Go.Operand.tmp 25) (Go.Operand.const (Go.Value.int Go.IntKind.i64 0)) 3)) hF hS (by kernel_rfl) (by kernel_rfl) rfl (by kernel_rfl) (by decide) fun a hF => ?_
    refine d_val 13 27 (op := (Go.Op.pick (Go.Operand.tmp 22) (Go.Operand.const (Go.Value.bool true)) (Go.Operand.tmp 26))) hF hS (by kernel_rfl) (fun W hW => x_pick (b := true) rfl rfl) (by kernel_rfl) (by decide) fun a hF => ?_
    refine d_val 14 28 (op := (Go.Op.move (Go.Operand.tmp 27))) hF hS (by kernel_rfl) (fun W hW => x_move rfl) (by kernel_rfl) (by decide) fun a hF => ?_
    refine d_skip 15 29 28 (j := 14) (want := false) (op := (Go.Op.fieldAddr 24 (Go.Operand.tmp 3) 2)) hF hS (by kernel_rfl) (by kernel_rfl) rfl (by kernel_rfl) (by decide) fun a hF => ?_
    refine d_skip 16 30 28 (j := 14) (want := false) (op := (Go.Op.load 22 (Go.Operand.tmp 29))) hF hS (by kernel_rfl) (by kernel_rfl) rfl (by kernel_rfl) (by decide) fun a hF => ?_
    refine d_skip 17 31 28 (j := 14) (want := false) (op := (Go.Op.call (Go.Call.mk (Go.Callee.builtin Go.Builtin.len) #[(Go.Operand.tmp 30)] #[22]))) hF hS (by kernel_rfl) (by kernel_rfl) rfl (by kernel_rfl) (by decide) fun a hF => ?_
    refine d_skip 18 32 28 (j := 14) (want := false) (op := (Go.Op.fieldAddr 24 (Go.Operand.tmp 3) 0)) hF hS (by kernel_rfl) (by kernel_rfl) rfl (by kernel_rfl) (by decide) fun a hF => ?_
    refine d_skip 19 33 28 (j := 14) (want := false) (op := (Go.Op.load 3 (Go.Operand.tmp 32))) hF hS (by kernel_rfl) (by kernel_rfl) rfl (by kernel_rfl) (by decide) fun a hF => ?_
    refine d_skip 20 34 28 (j := 14) (want := false) (op := (Go.Op.call (Go.Call.mk (Go.Callee.value (Go.Operand.func 132)) #[(Go.Operand.tmp 33)] #[3]))) hF hS (by kernel_rfl) (by kernel_rfl) rfl (by kernel_rfl) (by decide) fun a hF => ?_
    refine d_skip 21 35 28 (j := 14) (want := false) (op := (Go.Op.binOp Go.BinOp.neq 3 (Go.Operand.tmp 31) (Go.Operand.tmp 34) 3)) hF hS (by kernel_rfl) (by kernel_rfl) rfl (by kernel_rfl) (by decide) fun a hF => ?_
    refine d_val 22 36 (op := (Go.Op.pick (Go.Operand.tmp 28) (Go.Operand.const (Go.Value.bool true)) (Go.Operand.tmp 35))) hF hS (by kernel_rfl) (fun W hW => x_pick (b := true) rfl rfl) (by kernel_rfl) (by decide) fun a hF => ?_
    refine d_end (by kernel_rfl) (hK5 _ _ ?_)
    refine wp_if hF rfl ?_
    refine wp_rs fun K6 hK6 => ?_
    refine s_val hF (x_assign rfl) (by decide) fun a hF => ?_
    refine s_end (hK6 _ _ ?_)
    refine wp_ret (then_ret (res_slot hF rfl rfl ⟨_, rfl, ⟨bool_of (decide_eq_false (chk_no (node_two (by omega)))).symm, fun h => absurd h (chk_no (node_two (by omega)))⟩, hK⟩))
  · skip
    refine dk2_seq (w4.heap.size) (w4.heap.size) (ops := regOps Try.f104 2) (N := 23) (by kernel_rfl) wide_orders (by kernel_rfl) fun w8 hw8 B9 hS K7 hK7 => ?_
    have zw8 : w8.heap.size = w4.heap.size := by rw [hw8]
    have sB9 := B9.size
    have hB := hB.trans (B9.mono hB.size)
    have hK := hK.below B9
    have mg := mg.old B9
    have m3 := m3.old B9
    have mg_d := mg
    have m3_d := m3
    have hB_d := hB
    have hK_d := hK
    refine d_val 0 14 (op := (Go.Op.move (Go.Operand.tmp 1))) hF hS (by kernel_rfl) (fun W hW => x_move rfl) (by kernel_rfl) (by decide) fun a hF => ?_
    refine d_val 1 15 (op := (Go.Op.binOp Go.BinOp.gtr 3 (Go.Operand.tmp 14) (Go.Operand.const (Go.Value.int Go.IntKind.i64 256)) 3)) hF hS (by kernel_rfl) (fun W hW => x_gtr (b := false) (decide_eq_false (by omega)) rfl rfl) (by kernel_rfl) (by decide) fun a hF => ?_
    refine d_val 2 16 (op := (Go.Op.move (Go.Operand.tmp 15))) hF hS (by kernel_rfl) (fun W hW => x_move rfl) (by kernel_rfl) (by decide) fun a hF => ?_
    refine d_valg 3 17 16 (j := 2) (want := false) (op := (Go.Op.move (Go.Operand.tmp 2))) hF hS (by kernel_rfl) (by kernel_rfl) rfl (fun W hW => x_move rfl) (by kernel_rfl) (by decide) fun a hF => ?_
    refine d_valg 4 18 16 (j := 2) (want := false) (op := (Go.Op.nilCheck (Go.Operand.tmp 17))) hF hS (by kernel_rfl) (by kernel_rfl) rfl (fun W hW => x_nil rfl) (by kernel_rfl) (by decide) fun a hF => ?_
    refine d_valg 5 19 16 (j := 2) (want := false) (op := (Go.Op.load 3 (Go.Operand.tmp 18))) hF hS (by kernel_rfl) (by kernel_rfl) rfl (fun W hW => x_load rfl (m_load flat3 ((mg_d.k2 hW (by omega)).cell (j := 0) rfl))) (by kernel_rfl) (by decide) fun a hF => ?_
    refine d_valg 6 20 16 (j := 2) (want := false) (op := (Go.Op.binOp Go.BinOp.gtr 3 (Go.Operand.tmp 19) (Go.Operand.const (Go.Value.int Go.IntKind.i64 1000)) 3)) hF hS (by kernel_rfl) (by kernel_rfl) rfl (fun W hW => x_gtr (b := true) (decide_eq_true (by omega)) rfl rfl) (by kernel_rfl) (by decide) fun a hF => ?_
    refine d_val 7 21 (op := (Go.Op.pick (Go.Operand.tmp 16) (Go.Operand.const (Go.Value.bool true)) (Go.Operand.tmp 20))) hF hS (by kernel_rfl) (fun W hW => x_pick (b := false) rfl rfl) (by kernel_rfl) (by decide) fun a hF => ?_
    refine d_val 8 22 (op := (Go.Op.move (Go.Operand.tmp 21))) hF hS (by kernel_rfl) (fun W hW => x_move rfl) (by kernel_rfl) (by decide) fun a hF => ?_
    refine d_skip 9 23 22 (j := 8) (want := false) (op := (Go.Op.fieldAddr 24 (Go.Operand.tmp 3) 0)) hF hS (by kernel_rfl) (by kernel_rfl) rfl (by kernel_rfl) (by decide) fun a hF => ?_
    refine d_skip 10 24 22 (j := 8) (want := false) (op := (Go.Op.load 3 (Go.Operand.tmp 23))) hF hS (by kernel_rfl) (by kernel_rfl) rfl (by kernel_rfl) (by decide) fun a hF => ?_
    refine d_skip 11 25 22 (j := 8) (want := false) (op := (Go.Op.call (Go.Call.mk (Go.Callee.value (Go.Operand.func 132)) #[(Go.Operand.tmp 24)] #[3]))) hF hS (by kernel_rfl) (by kernel_rfl) rfl (by kernel_rfl) (by decide) fun a hF => ?_
    refine d_skip 12 26 22 (j := 8) (want := false) (op := (Go.Op.binOp Go.BinOp.lss 3 (Go.Operand.tmp 25) (Go.Operand.const (Go.Value.int Go.IntKind.i64 0)) 3)) hF hS (by kernel_rfl) (by kernel_rfl) rfl (by kernel_rfl) (by decide) fun a hF => ?_
    refine d_val 13 27 (op := (Go.Op.pick (Go.Operand.tmp 22) (Go.Operand.const (Go.Value.bool true)) (Go.Operand.tmp 26))) hF hS (by kernel_rfl) (fun W hW => x_pick (b := true) rfl rfl) (by kernel_rfl) (by decide) fun a hF => ?_
    refine d_val 14 28 (op := (Go.Op.move (Go.Operand.tmp 27))) hF hS (by kernel_rfl) (fun W hW => x_move rfl) (by kernel_rfl) (by decide) fun a hF => ?_
    refine d_skip 15 29 28 (j := 14) (want := false) (op := (Go.Op.fieldAddr 24 (Go.Operand.tmp 3) 2)) hF hS (by kernel_rfl) (by kernel_rfl) rfl (by kernel_rfl) (by decide) fun a hF => ?_
    refine d_skip 16 30 28 (j := 14) (want := false) (op := (Go.Op.load 22 (Go.Operand.tmp 29))) hF hS (by kernel_rfl) (by kernel_rfl) rfl (by kernel_rfl) (by decide) fun a hF => ?_
    refine d_skip 17 31 28 (j := 14) (want := false) (op := (Go.Op.call (Go.Call.mk (Go.Callee.builtin Go.Builtin.len) #[(Go.Operand.tmp 30)] #[22]))) hF hS (by kernel_rfl) (by kernel_rfl) rfl (by kernel_rfl) (by decide) fun a hF => ?_
    refine d_skip 18 32 28 (j := 14) (want := false) (op := (Go.Op.fieldAddr 24 (Go.Operand.tmp 3) 0)) hF hS (by kernel_rfl) (by kernel_rfl) rfl (by kernel_rfl) (by decide) fun a hF => ?_
    refine d_skip 19 33 28 (j := 14) (want := false) (op := (Go.Op.load 3 (Go.Operand.tmp 32))) hF hS (by kernel_rfl) (by kernel_rfl) rfl (by kernel_rfl) (by decide) fun a hF => ?_
    refine d_skip 20 34 28 (j := 14) (want := false) (op := (Go.Op.call (Go.Call.mk (Go.Callee.value (Go.Operand.func 132)) #[(Go.Operand.tmp 33)] #[3]))) hF hS (by kernel_rfl) (by kernel_rfl) rfl (by kernel_rfl) (by decide) fun a hF => ?_
    refine d_skip 21 35 28 (j := 14) (want := false) (op := (Go.Op.binOp Go.BinOp.neq 3 (Go.Operand.tmp 31) (Go.Operand.tmp 34) 3)) hF hS (by kernel_rfl) (by kernel_rfl) rfl (by kernel_rfl) (by decide) fun a hF => ?_
    refine d_val 22 36 (op := (Go.Op.pick (Go.Operand.tmp 28) (Go.Operand.const (Go.Value.bool true)) (Go.Operand.tmp 35))) hF hS (by kernel_rfl) (fun W hW => x_pick (b := true) rfl rfl) (by kernel_rfl) (by decide) fun a hF => ?_
    refine d_end (by kernel_rfl) (hK7 _ _ ?_)
    refine wp_if hF rfl ?_
    refine wp_rs fun K8 hK8 => ?_
    refine s_val hF (x_assign rfl) (by decide) fun a hF => ?_
    refine s_end (hK8 _ _ ?_)
    refine wp_ret (then_ret (res_slot hF rfl rfl ⟨_, rfl, ⟨bool_of (decide_eq_false (chk_no (node_two (by omega)))).symm, fun h => absurd h (chk_no (node_two (by omega)))⟩, hK⟩))
  · skip
    refine dk2_seq (w4.heap.size) (w4.heap.size) (ops := regOps Try.f104 2) (N := 23) (by kernel_rfl) wide_orders (by kernel_rfl) fun w10 hw10 B11 hS K9 hK9 => ?_
    have zw10 : w10.heap.size = w4.heap.size := by rw [hw10]
    have sB11 := B11.size
    have hB := hB.trans (B11.mono hB.size)
    have hK := hK.below B11
    have mg := mg.old B11
    have m3 := m3.old B11
    have mg_d := mg
    have m3_d := m3
    have hB_d := hB
    have hK_d := hK
    refine d_val 0 14 (op := (Go.Op.move (Go.Operand.tmp 1))) hF hS (by kernel_rfl) (fun W hW => x_move rfl) (by kernel_rfl) (by decide) fun a hF => ?_
    refine d_val 1 15 (op := (Go.Op.binOp Go.BinOp.gtr 3 (Go.Operand.tmp 14) (Go.Operand.const (Go.Value.int Go.IntKind.i64 256)) 3)) hF hS (by kernel_rfl) (fun W hW => x_gtr (b := false) (decide_eq_false (by omega)) rfl rfl) (by kernel_rfl) (by decide) fun a hF => ?_
    refine d_val 2 16 (op := (Go.Op.move (Go.Operand.tmp 15))) hF hS (by kernel_rfl) (fun W hW => x_move rfl) (by kernel_rfl) (by decide) fun a hF => ?_
    refine d_valg 3 17 16 (j := 2) (want := false) (op := (Go.Op.move (Go.Operand.tmp 2))) hF hS (by kernel_rfl) (by kernel_rfl) rfl (fun W hW => x_move rfl) (by kernel_rfl) (by decide) fun a hF => ?_
    refine d_valg 4 18 16 (j := 2) (want := false) (op := (Go.Op.nilCheck (Go.Operand.tmp 17))) hF hS (by kernel_rfl) (by kernel_rfl) rfl (fun W hW => x_nil rfl) (by kernel_rfl) (by decide) fun a hF => ?_
    refine d_valg 5 19 16 (j := 2) (want := false) (op := (Go.Op.load 3 (Go.Operand.tmp 18))) hF hS (by kernel_rfl) (by kernel_rfl) rfl (fun W hW => x_load rfl (m_load flat3 ((mg_d.k2 hW (by omega)).cell (j := 0) rfl))) (by kernel_rfl) (by decide) fun a hF => ?_
    refine d_valg 6 20 16 (j := 2) (want := false) (op := (Go.Op.binOp Go.BinOp.gtr 3 (Go.Operand.tmp 19) (Go.Operand.const (Go.Value.int Go.IntKind.i64 1000)) 3)) hF hS (by kernel_rfl) (by kernel_rfl) rfl (fun W hW => x_gtr (b := false) (decide_eq_false (by omega)) rfl rfl) (by kernel_rfl) (by decide) fun a hF => ?_
    refine d_val 7 21 (op := (Go.Op.pick (Go.Operand.tmp 16) (Go.Operand.const (Go.Value.bool true)) (Go.Operand.tmp 20))) hF hS (by kernel_rfl) (fun W hW => x_pick (b := false) rfl rfl) (by kernel_rfl) (by decide) fun a hF => ?_
    refine d_val 8 22 (op := (Go.Op.move (Go.Operand.tmp 21))) hF hS (by kernel_rfl) (fun W hW => x_move rfl) (by kernel_rfl) (by decide) fun a hF => ?_
    refine d_valg 9 23 22 (j := 8) (want := false) (op := (Go.Op.fieldAddr 24 (Go.Operand.tmp 3) 0)) hF hS (by kernel_rfl) (by kernel_rfl) rfl (fun W hW => x_fa0 fa24_0 rfl) (by kernel_rfl) (by decide) fun a hF => ?_
    refine d_valg 10 24 22 (j := 8) (want := false) (op := (Go.Op.load 3 (Go.Operand.tmp 23))) hF hS (by kernel_rfl) (by kernel_rfl) rfl (fun W hW => x_load rfl (m_load flat3 ((m3_d.k2 hW (by omega)).cell (j := 0) rfl))) (by kernel_rfl) (by decide) fun a hF => ?_
    refine d_oneg 11 22 (some 25) (Go.Op.call (Go.Call.mk (Go.Callee.value (Go.Operand.func 132)) #[(Go.Operand.tmp 24)] #[3])) (j := 8) (want := false) hF (by kernel_rfl) (by kernel_rfl) (by kernel_rfl) rfl fun ty pos af => ?_
    refine s_callS [.int .i64 k] hF (enters_of Try.func132 (by kernel_rfl) rfl) rfl (by decide) (arity58 k _) fun a hF => ?_
    refine s_end ⟨hS, ?_⟩
    refine d_valg 12 26 22 (j := 8) (want := false) (op := (Go.Op.binOp Go.BinOp.lss 3 (Go.Operand.tmp 25) (Go.Operand.const (Go.Value.int Go.IntKind.i64 0)) 3)) hF hS (by kernel_rfl) (by kernel_rfl) rfl (fun W hW => x_lss (b := true) (decide_eq_true (by omega)) rfl rfl) (by kernel_rfl) (by decide) fun a hF => ?_
    refine d_val 13 27 (op := (Go.Op.pick (Go.Operand.tmp 22) (Go.Operand.const (Go.Value.bool true)) (Go.Operand.tmp 26))) hF hS (by kernel_rfl) (fun W hW => x_pick (b := false) rfl rfl) (by kernel_rfl) (by decide) fun a hF => ?_
    refine d_val 14 28 (op := (Go.Op.move (Go.Operand.tmp 27))) hF hS (by kernel_rfl) (fun W hW => x_move rfl) (by kernel_rfl) (by decide) fun a hF => ?_
    refine d_skip 15 29 28 (j := 14) (want := false) (op := (Go.Op.fieldAddr 24 (Go.Operand.tmp 3) 2)) hF hS (by kernel_rfl) (by kernel_rfl) rfl (by kernel_rfl) (by decide) fun a hF => ?_
    refine d_skip 16 30 28 (j := 14) (want := false) (op := (Go.Op.load 22 (Go.Operand.tmp 29))) hF hS (by kernel_rfl) (by kernel_rfl) rfl (by kernel_rfl) (by decide) fun a hF => ?_
    refine d_skip 17 31 28 (j := 14) (want := false) (op := (Go.Op.call (Go.Call.mk (Go.Callee.builtin Go.Builtin.len) #[(Go.Operand.tmp 30)] #[22]))) hF hS (by kernel_rfl) (by kernel_rfl) rfl (by kernel_rfl) (by decide) fun a hF => ?_
    refine d_skip 18 32 28 (j := 14) (want := false) (op := (Go.Op.fieldAddr 24 (Go.Operand.tmp 3) 0)) hF hS (by kernel_rfl) (by kernel_rfl) rfl (by kernel_rfl) (by decide) fun a hF => ?_
    refine d_skip 19 33 28 (j := 14) (want := false) (op := (Go.Op.load 3 (Go.Operand.tmp 32))) hF hS (by kernel_rfl) (by kernel_rfl) rfl (by kernel_rfl) (by decide) fun a hF => ?_
    refine d_skip 20 34 28 (j := 14) (want := false) (op := (Go.Op.call (Go.Call.mk (Go.Callee.value (Go.Operand.func 132)) #[(Go.Operand.tmp 33)] #[3]))) hF hS (by kernel_rfl) (by kernel_rfl) rfl (by kernel_rfl) (by decide) fun a hF => ?_
    refine d_skip 21 35 28 (j := 14) (want := false) (op := (Go.Op.binOp Go.BinOp.neq 3 (Go.Operand.tmp 31) (Go.Operand.tmp 34) 3)) hF hS (by kernel_rfl) (by kernel_rfl) rfl (by kernel_rfl) (by decide) fun a hF => ?_
    refine d_val 22 36 (op := (Go.Op.pick (Go.Operand.tmp 28) (Go.Operand.const (Go.Value.bool true)) (Go.Operand.tmp 35))) hF hS (by kernel_rfl) (fun W hW => x_pick (b := true) rfl rfl) (by kernel_rfl) (by decide) fun a hF => ?_
    refine d_end (by kernel_rfl) (hK9 _ _ ?_)
    refine wp_if hF rfl ?_
    refine wp_rs fun K10 hK10 => ?_
    refine s_val hF (x_assign rfl) (by decide) fun a hF => ?_
    refine s_end (hK10 _ _ ?_)
    refine wp_ret (then_ret (res_slot hF rfl rfl ⟨_, rfl, ⟨bool_of (decide_eq_false (chk_no (node_kid (by omega)))).symm, fun h => absurd h (chk_no (node_kid (by omega)))⟩, hK⟩))
  · skip
    refine dk2_seq (w4.heap.size) (w4.heap.size) (ops := regOps Try.f104 2) (N := 23) (by kernel_rfl) wide_orders (by kernel_rfl) fun w12 hw12 B13 hS K11 hK11 => ?_
    have zw12 : w12.heap.size = w4.heap.size := by rw [hw12]
    have sB13 := B13.size
    have hB := hB.trans (B13.mono hB.size)
    have hK := hK.below B13
    have mg := mg.old B13
    have m3 := m3.old B13
    have mg_d := mg
    have m3_d := m3
    have hB_d := hB
    have hK_d := hK
    refine d_val 0 14 (op := (Go.Op.move (Go.Operand.tmp 1))) hF hS (by kernel_rfl) (fun W hW => x_move rfl) (by kernel_rfl) (by decide) fun a hF => ?_
    refine d_val 1 15 (op := (Go.Op.binOp Go.BinOp.gtr 3 (Go.Operand.tmp 14) (Go.Operand.const (Go.Value.int Go.IntKind.i64 256)) 3)) hF hS (by kernel_rfl) (fun W hW => x_gtr (b := false) (decide_eq_false (by omega)) rfl rfl) (by kernel_rfl) (by decide) fun a hF => ?_
    refine d_val 2 16 (op := (Go.Op.move (Go.Operand.tmp 15))) hF hS (by kernel_rfl) (fun W hW => x_move rfl) (by kernel_rfl) (by decide) fun a hF => ?_
    refine d_valg 3 17 16 (j := 2) (want := false) (op := (Go.Op.move (Go.Operand.tmp 2))) hF hS (by kernel_rfl) (by kernel_rfl) rfl (fun W hW => x_move rfl) (by kernel_rfl) (by decide) fun a hF => ?_
    refine d_valg 4 18 16 (j := 2) (want := false) (op := (Go.Op.nilCheck (Go.Operand.tmp 17))) hF hS (by kernel_rfl) (by kernel_rfl) rfl (fun W hW => x_nil rfl) (by kernel_rfl) (by decide) fun a hF => ?_
    refine d_valg 5 19 16 (j := 2) (want := false) (op := (Go.Op.load 3 (Go.Operand.tmp 18))) hF hS (by kernel_rfl) (by kernel_rfl) rfl (fun W hW => x_load rfl (m_load flat3 ((mg_d.k2 hW (by omega)).cell (j := 0) rfl))) (by kernel_rfl) (by decide) fun a hF => ?_
    refine d_valg 6 20 16 (j := 2) (want := false) (op := (Go.Op.binOp Go.BinOp.gtr 3 (Go.Operand.tmp 19) (Go.Operand.const (Go.Value.int Go.IntKind.i64 1000)) 3)) hF hS (by kernel_rfl) (by kernel_rfl) rfl (fun W hW => x_gtr (b := false) (decide_eq_false (by omega)) rfl rfl) (by kernel_rfl) (by decide) fun a hF => ?_
    refine d_val 7 21 (op := (Go.Op.pick (Go.Operand.tmp 16) (Go.Operand.const (Go.Value.bool true)) (Go.Operand.tmp 20))) hF hS (by kernel_rfl) (fun W hW => x_pick (b := false) rfl rfl) (by kernel_rfl) (by decide) fun a hF => ?_
    refine d_val 8 22 (op := (Go.Op.move (Go.Operand.tmp 21))) hF hS (by kernel_rfl) (fun W hW => x_move rfl) (by kernel_rfl) (by decide) fun a hF => ?_
    refine d_valg 9 23 22 (j := 8) (want := false) (op := (Go.Op.fieldAddr 24 (Go.Operand.tmp 3) 0)) hF hS (by kernel_rfl) (by kernel_rfl) rfl (fun W hW => x_fa0 fa24_0 rfl) (by kernel_rfl) (by decide) fun a hF => ?_
    refine d_valg 10 24 22 (j := 8) (want := false) (op := (Go.Op.load 3 (Go.Operand.tmp 23))) hF hS (by kernel_rfl) (by kernel_rfl) rfl (fun W hW => x_load rfl (m_load flat3 ((m3_d.k2 hW (by omega)).cell (j := 0) rfl))) (by kernel_rfl) (by decide) fun a hF => ?_
    refine d_oneg 11 22 (some 25) (Go.Op.call (Go.Call.mk (Go.Callee.value (Go.Operand.func 132)) #[(Go.Operand.tmp 24)] #[3])) (j := 8) (want := false) hF (by kernel_rfl) (by kernel_rfl) (by kernel_rfl) rfl fun ty pos af => ?_
    refine s_callS [.int .i64 k] hF (enters_of Try.func132 (by kernel_rfl) rfl) rfl (by decide) (arity58 k _) fun a hF => ?_
    refine s_end ⟨hS, ?_⟩
    refine d_valg 12 26 22 (j := 8) (want := false) (op := (Go.Op.binOp Go.BinOp.lss 3 (Go.Operand.tmp 25) (Go.Operand.const (Go.Value.int Go.IntKind.i64 0)) 3)) hF hS (by kernel_rfl) (by kernel_rfl) rfl (fun W hW => x_lss (b := false) (decide_eq_false (by omega)) rfl rfl) (by kernel_rfl) (by decide) fun a hF => ?_
    refine d_val 13 27 (op := (Go.Op.pick (Go.Operand.tmp 22) (Go.Operand.const (Go.Value.bool true)) (Go.Operand.tmp 26))) hF hS (by kernel_rfl) (fun W hW => x_pick (b := false) rfl rfl) (by kernel_rfl) (by decide) fun a hF => ?_
    refine d_val 14 28 (op := (Go.Op.move (Go.Operand.tmp 27))) hF hS (by kernel_rfl) (fun W hW => x_move rfl) (by kernel_rfl) (by decide) fun a hF => ?_
    refine d_valg 15 29 28 (j := 14) (want := false) (op := (Go.Op.fieldAddr 24 (Go.Operand.tmp 3) 2)) hF hS (by kernel_rfl) (by kernel_rfl) rfl (fun W hW => x_fa0 fa24_2 rfl) (by kernel_rfl) (by decide) fun a hF => ?_
    refine d_valg 16 30 28 (j := 14) (want := false) (op := (Go.Op.load 22 (Go.Operand.tmp 29))) hF hS (by kernel_rfl) (by kernel_rfl) rfl (fun W hW => x_load rfl (m_load flat22 ((m3_d.k2 hW (by omega)).cell (j := 2) rfl))) (by kernel_rfl) (by decide) fun a hF => ?_
    refine d_valg 17 31 28 (j := 14) (want := false) (op := (Go.Op.call (Go.Call.mk (Go.Callee.builtin Go.Builtin.len) #[(Go.Operand.tmp 30)] #[22]))) hF hS (by kernel_rfl) (by kernel_rfl) rfl (fun W hW => x_len Try.underlying22 rfl) (by kernel_rfl) (by decide) fun a hF => ?_
    refine d_valg 18 32 28 (j := 14) (want := false) (op := (Go.Op.fieldAddr 24 (Go.Operand.tmp 3) 0)) hF hS (by kernel_rfl) (by kernel_rfl) rfl (fun W hW => x_fa0 fa24_0 rfl) (by kernel_rfl) (by decide) fun a hF => ?_
    refine d_valg 19 33 28 (j := 14) (want := false) (op := (Go.Op.load 3 (Go.Operand.tmp 32))) hF hS (by kernel_rfl) (by kernel_rfl) rfl (fun W hW => x_load rfl (m_load flat3 ((m3_d.k2 hW (by omega)).cell (j := 0) rfl))) (by kernel_rfl) (by decide) fun a hF => ?_
    refine d_oneg 20 28 (some 34) (Go.Op.call (Go.Call.mk (Go.Callee.value (Go.Operand.func 132)) #[(Go.Operand.tmp 33)] #[3])) (j := 14) (want := false) hF (by kernel_rfl) (by kernel_rfl) (by kernel_rfl) rfl fun ty pos af => ?_
    refine s_callS [.int .i64 k] hF (enters_of Try.func132 (by kernel_rfl) rfl) rfl (by decide) (arity58 k _) fun a hF => ?_
    refine s_end ⟨hS, ?_⟩
    refine d_valg 21 35 28 (j := 14) (want := false) (op := (Go.Op.binOp Go.BinOp.neq 3 (Go.Operand.tmp 31) (Go.Operand.tmp 34) 3)) hF hS (by kernel_rfl) (by kernel_rfl) rfl (fun W hW => x_neq (b := true) (decide_eq_true (by omega)) rfl rfl) (by kernel_rfl) (by decide) fun a hF => ?_
    refine d_val 22 36 (op := (Go.Op.pick (Go.Operand.tmp 28) (Go.Operand.const (Go.Value.bool true)) (Go.Operand.tmp 35))) hF hS (by kernel_rfl) (fun W hW => x_pick (b := false) rfl rfl) (by kernel_rfl) (by decide) fun a hF => ?_
    refine d_end (by kernel_rfl) (hK11 _ _ ?_)
    refine wp_if hF rfl ?_
    refine wp_rs fun K12 hK12 => ?_
    refine s_val hF (x_assign rfl) (by decide) fun a hF => ?_
    refine s_end (hK12 _ _ ?_)
    refine wp_ret (then_ret (res_slot hF rfl rfl ⟨_, rfl, ⟨bool_of (decide_eq_false (chk_no (node_kid (by omega)))).symm, fun h => absurd h (chk_no (node_kid (by omega)))⟩, hK⟩))
  · have hkl : kidsB k ls.length = true := arI_kids.2 (by omega)
    refine dk2_seq (w4.heap.size) (w4.heap.size) (ops := regOps Try.f104 2) (N := 23) (by kernel_rfl) wide_orders (by kernel_rfl) fun w14 hw14 B15 hS K13 hK13 => ?_
    have zw14 : w14.heap.size = w4.heap.size := by rw [hw14]
    have sB15 := B15.size
    have hB := hB.trans (B15.mono hB.size)
    have hK := hK.below B15
    have mg := mg.old B15
    have m3 := m3.old B15
    have mg_d := mg
    have m3_d := m3
    have hB_d := hB
    have hK_d := hK
    refine d_val 0 14 (op := (Go.Op.move (Go.Operand.tmp 1))) hF hS (by kernel_rfl) (fun W hW => x_move rfl) (by kernel_rfl) (by decide) fun a hF => ?_
    refine d_val 1 15 (op := (Go.Op.binOp Go.BinOp.gtr 3 (Go.Operand.tmp 14) (Go.Operand.const (Go.Value.int Go.IntKind.i64 256)) 3)) hF hS (by kernel_rfl) (fun W hW => x_gtr (b := false) (decide_eq_false (by omega)) rfl rfl) (by kernel_rfl) (by decide) fun a hF => ?_
    refine d_val 2 16 (op := (Go.Op.move (Go.Operand.tmp 15))) hF hS (by kernel_rfl) (fun W hW => x_move rfl) (by kernel_rfl) (by decide) fun a hF => ?_
    refine d_valg 3 17 16 (j := 2) (want := false) (op := (Go.Op.move (Go.Operand.tmp 2))) hF hS (by kernel_rfl) (by kernel_rfl) rfl (fun W hW => x_move rfl) (by kernel_rfl) (by decide) fun a hF => ?_
    refine d_valg 4 18 16 (j := 2) (want := false) (op := (Go.Op.nilCheck (Go.Operand.tmp 17))) hF hS (by kernel_rfl) (by kernel_rfl) rfl (fun W hW => x_nil rfl) (by kernel_rfl) (by decide) fun a hF => ?_
    refine d_valg 5 19 16 (j := 2) (want := false) (op := (Go.Op.load 3 (Go.Operand.tmp 18))) hF hS (by kernel_rfl) (by kernel_rfl) rfl (fun W hW => x_load rfl (m_load flat3 ((mg_d.k2 hW (by omega)).cell (j := 0) rfl))) (by kernel_rfl) (by decide) fun a hF => ?_
    refine d_valg 6 20 16 (j := 2) (want := false) (op := (Go.Op.binOp Go.BinOp.gtr 3 (Go.Operand.tmp 19) (Go.Operand.const (Go.Value.int Go.IntKind.i64 1000)) 3)) hF hS (by kernel_rfl) (by kernel_rfl) rfl (fun W hW => x_gtr (b := false) (decide_eq_false (by omega)) rfl rfl) (by kernel_rfl) (by decide) fun a hF => ?_
    refine d_val 7 21 (op := (Go.Op.pick (Go.Operand.tmp 16) (Go.Operand.const (Go.Value.bool true)) (Go.Operand.tmp 20))) hF hS (by kernel_rfl) (fun W hW => x_pick (b := false) rfl rfl) (by kernel_rfl) (by decide) fun a hF => ?_
    refine d_val 8 22 (op := (Go.Op.move (Go.Operand.tmp 21))) hF hS (by kernel_rfl) (fun W hW => x_move rfl) (by kernel_rfl) (by decide) fun a hF => ?_
    refine d_valg 9 23 22 (j := 8) (want := false) (op := (Go.Op.fieldAddr 24 (Go.Operand.tmp 3) 0)) hF hS (by kernel_rfl) (by kernel_rfl) rfl (fun W hW => x_fa0 fa24_0 rfl) (by kernel_rfl) (by decide) fun a hF => ?_
    refine d_valg 10 24 22 (j := 8) (want := false) (op := (Go.Op.load 3 (Go.Operand.tmp 23))) hF hS (by kernel_rfl) (by kernel_rfl) rfl (fun W hW => x_load rfl (m_load flat3 ((m3_d.k2 hW (by omega)).cell (j := 0) rfl))) (by kernel_rfl) (by decide) fun a hF => ?_
    refine d_oneg 11 22 (some 25) (Go.Op.call (Go.Call.mk (Go.Callee.value (Go.Operand.func 132)) #[(Go.Operand.tmp 24)] #[3])) (j := 8) (want := false) hF (by kernel_rfl) (by kernel_rfl) (by kernel_rfl) rfl fun ty pos af => ?_
    refine s_callS [.int .i64 k] hF (enters_of Try.func132 (by kernel_rfl) rfl) rfl (by decide) (arity58 k _) fun a hF => ?_
    refine s_end ⟨hS, ?_⟩
    refine d_valg 12 26 22 (j := 8) (want := false) (op := (Go.Op.binOp Go.BinOp.lss 3 (Go.Operand.tmp 25) (Go.Operand.const (Go.Value.int Go.IntKind.i64 0)) 3)) hF hS (by kernel_rfl) (by kernel_rfl) rfl (fun W hW => x_lss (b := false) (decide_eq_false (by omega)) rfl rfl) (by kernel_rfl) (by decide) fun a hF => ?_
    refine d_val 13 27 (op := (Go.Op.pick (Go.Operand.tmp 22) (Go.Operand.const (Go.Value.bool true)) (Go.Operand.tmp 26))) hF hS (by kernel_rfl) (fun W hW => x_pick (b := false) rfl rfl) (by kernel_rfl) (by decide) fun a hF => ?_
    refine d_val 14 28 (op := (Go.Op.move (Go.Operand.tmp 27))) hF hS (by kernel_rfl) (fun W hW => x_move rfl) (by kernel_rfl) (by decide) fun a hF => ?_
    refine d_valg 15 29 28 (j := 14) (want := false) (op := (Go.Op.fieldAddr 24 (Go.Operand.tmp 3) 2)) hF hS (by kernel_rfl) (by kernel_rfl) rfl (fun W hW => x_fa0 fa24_2 rfl) (by kernel_rfl) (by decide) fun a hF => ?_
    refine d_valg 16 30 28 (j := 14) (want := false) (op := (Go.Op.load 22 (Go.Operand.tmp 29))) hF hS (by kernel_rfl) (by kernel_rfl) rfl (fun W hW => x_load rfl (m_load flat22 ((m3_d.k2 hW (by omega)).cell (j := 2) rfl))) (by kernel_rfl) (by decide) fun a hF => ?_
    refine d_valg 17 31 28 (j := 14) (want := false) (op := (Go.Op.call (Go.Call.mk (Go.Callee.builtin Go.Builtin.len) #[(Go.Operand.tmp 30)] #[22]))) hF hS (by kernel_rfl) (by kernel_rfl) rfl (fun W hW => x_len Try.underlying22 rfl) (by kernel_rfl) (by decide) fun a hF => ?_
    refine d_valg 18 32 28 (j := 14) (want := false) (op := (Go.Op.fieldAddr 24 (Go.Operand.tmp 3) 0)) hF hS (by kernel_rfl) (by kernel_rfl) rfl (fun W hW => x_fa0 fa24_0 rfl) (by kernel_rfl) (by decide) fun a hF => ?_
    refine d_valg 19 33 28 (j := 14) (want := false) (op := (Go.Op.load 3 (Go.Operand.tmp 32))) hF hS (by kernel_rfl) (by kernel_rfl) rfl (fun W hW => x_load rfl (m_load flat3 ((m3_d.k2 hW (by omega)).cell (j := 0) rfl))) (by kernel_rfl) (by decide) fun a hF => ?_
    refine d_oneg 20 28 (some 34) (Go.Op.call (Go.Call.mk (Go.Callee.value (Go.Operand.func 132)) #[(Go.Operand.tmp 33)] #[3])) (j := 14) (want := false) hF (by kernel_rfl) (by kernel_rfl) (by kernel_rfl) rfl fun ty pos af => ?_
    refine s_callS [.int .i64 k] hF (enters_of Try.func132 (by kernel_rfl) rfl) rfl (by decide) (arity58 k _) fun a hF => ?_
    refine s_end ⟨hS, ?_⟩
    refine d_valg 21 35 28 (j := 14) (want := false) (op := (Go.Op.binOp Go.BinOp.neq 3 (Go.Operand.tmp 31) (Go.Operand.tmp 34) 3)) hF hS (by kernel_rfl) (by kernel_rfl) rfl (fun W hW => x_neq (b := false) (decide_eq_false (by omega)) rfl rfl) (by kernel_rfl) (by decide) fun a hF => ?_
    refine d_val 22 36 (op := (Go.Op.pick (Go.Operand.tmp 28) (Go.Operand.const (Go.Value.bool true)) (Go.Operand.tmp 35))) hF hS (by kernel_rfl) (fun W hW => x_pick (b := false) rfl rfl) (by kernel_rfl) (by decide) fun a hF => ?_
    refine d_end (by kernel_rfl) (hK13 _ _ ?_)
    refine wp_if hF rfl ?_
    refine wp_skip (hK3 _ _ ?_)
    refine wp_seq_k fun K14 hK14 => ?_
    rcases (show (k = 1 ∧ n < 0) ∨ (k = 1 ∧ 0 ≤ n ∧ 1099511627776 < n) ∨ (k = 1 ∧ 0 ≤ n ∧ n ≤ 1099511627776) ∨ (k = 2 ∧ n < 0) ∨ (k = 2 ∧ 0 ≤ n ∧ 1000 < n) ∨ (k = 2 ∧ 0 ≤ n ∧ n ≤ 1000) ∨ (k = 3 ∧ n < 1) ∨ (k = 3 ∧ 1 ≤ n ∧ 1099511627776 < n) ∨ (k = 3 ∧ 1 ≤ n ∧ n ≤ 1099511627776) ∨ (k ≠ 1 ∧ k ≠ 2 ∧ k ≠ 3) by omega) with hv | hv | hv | hv | hv | hv | hv | hv | hv | hv
    · skip
      refine wp_rs fun K16 hK16 => ?_
      refine s_val hF (x_fa0 fa24_0 rfl) (by decide) fun a hF => ?_
      refine s_val hF (x_load rfl (m_load flat3 (m3.cell (j := 0) rfl))) (by decide) fun a hF => ?_
      refine s_end (hK16 _ _ ?_)
      refine wp_block ?_
      refine wp_rs fun K17 hK17 => ?_
      refine s_val hF (x_eql (b := true) (decide_eq_true (by omega)) rfl rfl) (by decide) fun a hF => ?_
      refine s_val hF (x_assign rfl) (by decide) fun a hF => ?_
      refine s_end (hK17 _ _ ?_)
      refine wp_if hF rfl ?_
      refine wp_rs fun K18 hK18 => ?_
      refine s_val hF (x_fa0 fa24_1 rfl) (by decide) fun a hF => ?_
      refine s_val hF (x_load rfl (m_load flat3 (m3.cell (j := 1) rfl))) (by decide) fun a hF => ?_
      refine s_val hF (x_geq (b := false) (decide_eq_false (by omega)) rfl rfl) (by decide) fun a hF => ?_
      refine s_val hF (x_move rfl) (by decide) fun a hF => ?_
      refine s_grdn 44 hF rfl rfl (by decide) fun a hF => ?_
      refine s_grdn 44 hF rfl rfl (by decide) fun a hF => ?_
      refine s_grdn 44 hF rfl rfl (by decide) fun a hF => ?_
      refine s_val hF (x_pick (b := false) rfl rfl) (by decide) fun a hF => ?_
      refine s_val hF (x_assign rfl) (by decide) fun a hF => ?_
      refine s_end (hK18 _ _ ?_)
      refine wp_ret (inb_ret (then_ret (res_slot hF rfl rfl ⟨_, rfl, ⟨bool_of (decide_eq_false (chk_no (node_num (by omega)))).symm, fun h => absurd h (chk_no (node_num (by omega)))⟩, hK⟩)))
    · skip
      refine wp_rs fun K19 hK19 => ?_
      refine s_val hF (x_fa0 fa24_0 rfl) (by decide) fun a hF => ?_
      refine s_val hF (x_load rfl (m_load flat3 (m3.cell (j := 0) rfl))) (by decide) fun a hF => ?_
      refine s_end (hK19 _ _ ?_)
      refine wp_block ?_
      refine wp_rs fun K20 hK20 => ?_
      refine s_val hF (x_eql (b := true) (decide_eq_true (by omega)) rfl rfl) (by decide) fun a hF => ?_
      refine s_val hF (x_assign rfl) (by decide) fun a hF => ?_
      refine s_end (hK20 _ _ ?_)
      refine wp_if hF rfl ?_
      refine wp_rs fun K21 hK21 => ?_
      refine s_val hF (x_fa0 fa24_1 rfl) (by decide) fun a hF => ?_
      refine s_val hF (x_load rfl (m_load flat3 (m3.cell (j := 1) rfl))) (by decide) fun a hF => ?_
      refine s_val hF (x_geq (b := true) (decide_eq_true (by omega)) rfl rfl) (by decide) fun a hF => ?_
      refine s_val hF (x_move rfl) (by decide) fun a hF => ?_
      refine s_grd 44 hF rfl rfl rfl ?_
      refine s_val hF (x_fa0 fa24_1 rfl) (by decide) fun a hF => ?_
      refine s_grd 44 hF rfl rfl rfl ?_
      refine s_val hF (x_load rfl (m_load flat3 (m3.cell (j := 1) rfl))) (by decide) fun a hF => ?_
      refine s_grd 44 hF rfl rfl rfl ?_
      refine s_val hF (x_leq (b := false) (decide_eq_false (by omega)) rfl rfl) (by decide) fun a hF => ?_
      refine s_val hF (x_pick (b := true) rfl rfl) (by decide) fun a hF => ?_
      refine s_val hF (x_assign rfl) (by decide) fun a hF => ?_
      refine s_end (hK21 _ _ ?_)
      refine wp_ret (inb_ret (then_ret (res_slot hF rfl rfl ⟨_, rfl, ⟨bool_of (decide_eq_false (chk_no (node_num (by omega)))).symm, fun h => absurd h (chk_no (node_num (by omega)))⟩, hK⟩)))
    · have hnb : numB 1099511627776 k n = true := numB_iff.2 (by omega)
      have hnd := nodeE_iff.2 ⟨(by omega : d ≤ 256), (by omega : r ≠ 0), hkl, hnb, (by omega : ¬ (k = 2 ∧ (n < 0 ∨ 1001 ≤ n)))⟩
      have hnil := nil_of_kids hkl (by omega)
      refine wp_rs fun K22 hK22 => ?_
      refine s_val hF (x_fa0 fa24_0 rfl) (by decide) fun a hF => ?_
      refine s_val hF (x_load rfl (m_load flat3 (m3.cell (j := 0) rfl))) (by decide) fun a hF => ?_
      refine s_end (hK22 _ _ ?_)
      refine wp_block ?_
      refine wp_rs fun K23 hK23 => ?_
      refine s_val hF (x_eql (b := true) (decide_eq_true (by omega)) rfl rfl) (by decide) fun a hF => ?_
      refine s_val hF (x_assign rfl) (by decide) fun a hF => ?_
      refine s_end (hK23 _ _ ?_)
      refine wp_if hF rfl ?_
      refine wp_rs fun K24 hK24 => ?_
      refine s_val hF (x_fa0 fa24_1 rfl) (by decide) fun a hF => ?_
      refine s_val hF (x_load rfl (m_load flat3 (m3.cell (j := 1) rfl))) (by decide) fun a hF => ?_
      refine s_val hF (x_geq (b := true) (decide_eq_true (by omega)) rfl rfl) (by decide) fun a hF => ?_
      refine s_val hF (x_move rfl) (by decide) fun a hF => ?_
      refine s_grd 44 hF rfl rfl rfl ?_
      refine s_val hF (x_fa0 fa24_1 rfl) (by decide) fun a hF => ?_
      refine s_grd 44 hF rfl rfl rfl ?_
      refine s_val hF (x_load rfl (m_load flat3 (m3.cell (j := 1) rfl))) (by decide) fun a hF => ?_
      refine s_grd 44 hF rfl rfl rfl ?_
      refine s_val hF (x_leq (b := true) (decide_eq_true (by omega)) rfl rfl) (by decide) fun a hF => ?_
      refine s_val hF (x_pick (b := true) rfl rfl) (by decide) fun a hF => ?_
      refine s_val hF (x_assign rfl) (by decide) fun a hF => ?_
      refine s_end (hK24 _ _ ?_)
      have mg : Blk w14 g 3 [.int .i64 (1000 - ((r - 1 : Nat) : Int))] := by rw [show (1000 : Int) - ((r - 1 : Nat) : Int) = 1000 - (r : Int) + 1 by omega]; exact mg
      refine wp_ret (inb_ret (then_ret (res_slot hF rfl rfl ⟨_, rfl, ⟨bool_of (decide_eq_true (by rw [chk_in hnd, hnil]; rfl)).symm, fun _ => by rw [chk_in hnd, hnil]; exact mg⟩, hK⟩)))
    · skip
      refine wp_rs fun K25 hK25 => ?_
      refine s_val hF (x_fa0 fa24_0 rfl) (by decide) fun a hF => ?_
      refine s_val hF (x_load rfl (m_load flat3 (m3.cell (j := 0) rfl))) (by decide) fun a hF => ?_
      refine s_end (hK25 _ _ ?_)
      refine wp_block ?_
      refine wp_rs fun K26 hK26 => ?_
      refine s_val hF (x_eql (b := false) (decide_eq_false (by omega)) rfl rfl) (by decide) fun a hF => ?_
      refine s_val hF (x_assign rfl) (by decide) fun a hF => ?_
      refine s_end (hK26 _ _ ?_)
      refine wp_if hF rfl ?_
      refine wp_rs fun K27 hK27 => ?_
      refine s_val hF (x_eql (b := true) (decide_eq_true (by omega)) rfl rfl) (by decide) fun a hF => ?_
      refine s_val hF (x_assign rfl) (by decide) fun a hF => ?_
      refine s_end (hK27 _ _ ?_)
      refine wp_if hF rfl ?_
      refine wp_rs fun K28 hK28 => ?_
      refine s_val hF (x_fa0 fa24_1 rfl) (by decide) fun a hF => ?_
      refine s_val hF (x_load rfl (m_load flat3 (m3.cell (j := 1) rfl))) (by decide) fun a hF => ?_
      refine s_val hF (x_geq (b := false) (decide_eq_false (by omega)) rfl rfl) (by decide) fun a hF => ?_
      refine s_val hF (x_move rfl) (by decide) fun a hF => ?_
      refine s_grdn 54 hF rfl rfl (by decide) fun a hF => ?_
      refine s_grdn 54 hF rfl rfl (by decide) fun a hF => ?_
      refine s_grdn 54 hF rfl rfl (by decide) fun a hF => ?_
      refine s_val hF (x_pick (b := false) rfl rfl) (by decide) fun a hF => ?_
      refine s_val hF (x_assign rfl) (by decide) fun a hF => ?_
      refine s_end (hK28 _ _ ?_)
      refine wp_ret (inb_ret (then_ret (res_slot hF rfl rfl ⟨_, rfl, ⟨bool_of (decide_eq_false (chk_no (node_var (by omega)))).symm, fun h => absurd h (chk_no (node_var (by omega)))⟩, hK⟩)))
    · skip
      refine wp_rs fun K29 hK29 => ?_
      refine s_val hF (x_fa0 fa24_0 rfl) (by decide) fun a hF => ?_
      refine s_val hF (x_load rfl (m_load flat3 (m3.cell (j := 0) rfl))) (by decide) fun a hF => ?_
      refine s_end (hK29 _ _ ?_)
      refine wp_block ?_
      refine wp_rs fun K30 hK30 => ?_
      refine s_val hF (x_eql (b := false) (decide_eq_false (by omega)) rfl rfl) (by decide) fun a hF => ?_
      refine s_val hF (x_assign rfl) (by decide) fun a hF => ?_
      refine s_end (hK30 _ _ ?_)
      refine wp_if hF rfl ?_
      refine wp_rs fun K31 hK31 => ?_
      refine s_val hF (x_eql (b := true) (decide_eq_true (by omega)) rfl rfl) (by decide) fun a hF => ?_
      refine s_val hF (x_assign rfl) (by decide) fun a hF => ?_
      refine s_end (hK31 _ _ ?_)
      refine wp_if hF rfl ?_
      refine wp_rs fun K32 hK32 => ?_
      refine s_val hF (x_fa0 fa24_1 rfl) (by decide) fun a hF => ?_
      refine s_val hF (x_load rfl (m_load flat3 (m3.cell (j := 1) rfl))) (by decide) fun a hF => ?_
      refine s_val hF (x_geq (b := true) (decide_eq_true (by omega)) rfl rfl) (by decide) fun a hF => ?_
      refine s_val hF (x_move rfl) (by decide) fun a hF => ?_
      refine s_grd 54 hF rfl rfl rfl ?_
      refine s_val hF (x_fa0 fa24_1 rfl) (by decide) fun a hF => ?_
      refine s_grd 54 hF rfl rfl rfl ?_
      refine s_val hF (x_load rfl (m_load flat3 (m3.cell (j := 1) rfl))) (by decide) fun a hF => ?_
      refine s_grd 54 hF rfl rfl rfl ?_
      refine s_val hF (x_leq (b := false) (decide_eq_false (by omega)) rfl rfl) (by decide) fun a hF => ?_
      refine s_val hF (x_pick (b := true) rfl rfl) (by decide) fun a hF => ?_
      refine s_val hF (x_assign rfl) (by decide) fun a hF => ?_
      refine s_end (hK32 _ _ ?_)
      refine wp_ret (inb_ret (then_ret (res_slot hF rfl rfl ⟨_, rfl, ⟨bool_of (decide_eq_false (chk_no (node_var (by omega)))).symm, fun h => absurd h (chk_no (node_var (by omega)))⟩, hK⟩)))
    · have hnb : numB 1099511627776 k n = true := numB_iff.2 (by omega)
      have hnd := nodeE_iff.2 ⟨(by omega : d ≤ 256), (by omega : r ≠ 0), hkl, hnb, (by omega : ¬ (k = 2 ∧ (n < 0 ∨ 1001 ≤ n)))⟩
      have hnil := nil_of_kids hkl (by omega)
      refine wp_rs fun K33 hK33 => ?_
      refine s_val hF (x_fa0 fa24_0 rfl) (by decide) fun a hF => ?_
      refine s_val hF (x_load rfl (m_load flat3 (m3.cell (j := 0) rfl))) (by decide) fun a hF => ?_
      refine s_end (hK33 _ _ ?_)
      refine wp_block ?_
      refine wp_rs fun K34 hK34 => ?_
      refine s_val hF (x_eql (b := false) (decide_eq_false (by omega)) rfl rfl) (by decide) fun a hF => ?_
      refine s_val hF (x_assign rfl) (by decide) fun a hF => ?_
      refine s_end (hK34 _ _ ?_)
      refine wp_if hF rfl ?_
      refine wp_rs fun K35 hK35 => ?_
      refine s_val hF (x_eql (b := true) (decide_eq_true (by omega)) rfl rfl) (by decide) fun a hF => ?_
      refine s_val hF (x_assign rfl) (by decide) fun a hF => ?_
      refine s_end (hK35 _ _ ?_)
      refine wp_if hF rfl ?_
      refine wp_rs fun K36 hK36 => ?_
      refine s_val hF (x_fa0 fa24_1 rfl) (by decide) fun a hF => ?_
      refine s_val hF (x_load rfl (m_load flat3 (m3.cell (j := 1) rfl))) (by decide) fun a hF => ?_
      refine s_val hF (x_geq (b := true) (decide_eq_true (by omega)) rfl rfl) (by decide) fun a hF => ?_
      refine s_val hF (x_move rfl) (by decide) fun a hF => ?_
      refine s_grd 54 hF rfl rfl rfl ?_
      refine s_val hF (x_fa0 fa24_1 rfl) (by decide) fun a hF => ?_
      refine s_grd 54 hF rfl rfl rfl ?_
      refine s_val hF (x_load rfl (m_load flat3 (m3.cell (j := 1) rfl))) (by decide) fun a hF => ?_
      refine s_grd 54 hF rfl rfl rfl ?_
      refine s_val hF (x_leq (b := true) (decide_eq_true (by omega)) rfl rfl) (by decide) fun a hF => ?_
      refine s_val hF (x_pick (b := true) rfl rfl) (by decide) fun a hF => ?_
      refine s_val hF (x_assign rfl) (by decide) fun a hF => ?_
      refine s_end (hK36 _ _ ?_)
      have mg : Blk w14 g 3 [.int .i64 (1000 - ((r - 1 : Nat) : Int))] := by rw [show (1000 : Int) - ((r - 1 : Nat) : Int) = 1000 - (r : Int) + 1 by omega]; exact mg
      refine wp_ret (inb_ret (then_ret (res_slot hF rfl rfl ⟨_, rfl, ⟨bool_of (decide_eq_true (by rw [chk_in hnd, hnil]; rfl)).symm, fun _ => by rw [chk_in hnd, hnil]; exact mg⟩, hK⟩)))
    · skip
      refine wp_rs fun K37 hK37 => ?_
      refine s_val hF (x_fa0 fa24_0 rfl) (by decide) fun a hF => ?_
      refine s_val hF (x_load rfl (m_load flat3 (m3.cell (j := 0) rfl))) (by decide) fun a hF => ?_
      refine s_end (hK37 _ _ ?_)
      refine wp_block ?_
      refine wp_rs fun K38 hK38 => ?_
      refine s_val hF (x_eql (b := false) (decide_eq_false (by omega)) rfl rfl) (by decide) fun a hF => ?_
      refine s_val hF (x_assign rfl) (by decide) fun a hF => ?_
      refine s_end (hK38 _ _ ?_)
      refine wp_if hF rfl ?_
      refine wp_rs fun K39 hK39 => ?_
      refine s_val hF (x_eql (b := false) (decide_eq_false (by omega)) rfl rfl) (by decide) fun a hF => ?_
      refine s_val hF (x_assign rfl) (by decide) fun a hF => ?_
      refine s_end (hK39 _ _ ?_)
      refine wp_if hF rfl ?_
      refine wp_rs fun K40 hK40 => ?_
      refine s_val hF (x_eql (b := true) (decide_eq_true (by omega)) rfl rfl) (by decide) fun a hF => ?_
      refine s_val hF (x_assign rfl) (by decide) fun a hF => ?_
      refine s_end (hK40 _ _ ?_)
      refine wp_if hF rfl ?_
      refine wp_rs fun K41 hK41 => ?_
      refine s_val hF (x_fa0 fa24_1 rfl) (by decide) fun a hF => ?_
      refine s_val hF (x_load rfl (m_load flat3 (m3.cell (j := 1) rfl))) (by decide) fun a hF => ?_
      refine s_val hF (x_lss (b := true) (decide_eq_true (by omega)) rfl rfl) (by decide) fun a hF => ?_
      refine s_val hF (x_move rfl) (by decide) fun a hF => ?_
      refine s_grdn 64 hF rfl rfl (by decide) fun a hF => ?_
      refine s_grdn 64 hF rfl rfl (by decide) fun a hF => ?_
      refine s_grdn 64 hF rfl rfl (by decide) fun a hF => ?_
      refine s_val hF (x_pick (b := true) rfl rfl) (by decide) fun a hF => ?_
      refine s_end (hK41 _ _ ?_)
      refine wp_if hF rfl ?_
      refine wp_rs fun K42 hK42 => ?_
      refine s_val hF (x_assign rfl) (by decide) fun a hF => ?_
      refine s_end (hK42 _ _ ?_)
      refine wp_ret (inb_ret (then_ret (res_slot hF rfl rfl ⟨_, rfl, ⟨bool_of (decide_eq_false (chk_no (node_num (by omega)))).symm, fun h => absurd h (chk_no (node_num (by omega)))⟩, hK⟩)))
    · skip
      refine wp_rs fun K43 hK43 => ?_
      refine s_val hF (x_fa0 fa24_0 rfl) (by decide) fun a hF => ?_
      refine s_val hF (x_load rfl (m_load flat3 (m3.cell (j := 0) rfl))) (by decide) fun a hF => ?_
      refine s_end (hK43 _ _ ?_)
      refine wp_block ?_
      refine wp_rs fun K44 hK44 => ?_
      refine s_val hF (x_eql (b := false) (decide_eq_false (by omega)) rfl rfl) (by decide) fun a hF => ?_
      refine s_val hF (x_assign rfl) (by decide) fun a hF => ?_
      refine s_end (hK44 _ _ ?_)
      refine wp_if hF rfl ?_
      refine wp_rs fun K45 hK45 => ?_
      refine s_val hF (x_eql (b := false) (decide_eq_false (by omega)) rfl rfl) (by decide) fun a hF => ?_
      refine s_val hF (x_assign rfl) (by decide) fun a hF => ?_
      refine s_end (hK45 _ _ ?_)
      refine wp_if hF rfl ?_
      refine wp_rs fun K46 hK46 => ?_
      refine s_val hF (x_eql (b := true) (decide_eq_true (by omega)) rfl rfl) (by decide) fun a hF => ?_
      refine s_val hF (x_assign rfl) (by decide) fun a hF => ?_
      refine s_end (hK46 _ _ ?_)
      refine wp_if hF rfl ?_
      refine wp_rs fun K47 hK47 => ?_
      refine s_val hF (x_fa0 fa24_1 rfl) (by decide) fun a hF => ?_
      refine s_val hF (x_load rfl (m_load flat3 (m3.cell (j := 1) rfl))) (by decide) fun a hF => ?_
      refine s_val hF (x_lss (b := false) (decide_eq_false (by omega)) rfl rfl) (by decide) fun a hF => ?_
      refine s_val hF (x_move rfl) (by decide) fun a hF => ?_
      refine s_grd 64 hF rfl rfl rfl ?_
      refine s_val hF (x_fa0 fa24_1 rfl) (by decide) fun a hF => ?_
      refine s_grd 64 hF rfl rfl rfl ?_
      refine s_val hF (x_load rfl (m_load flat3 (m3.cell (j := 1) rfl))) (by decide) fun a hF => ?_
      refine s_grd 64 hF rfl rfl rfl ?_
      refine s_val hF (x_gtr (b := true) (decide_eq_true (by omega)) rfl rfl) (by decide) fun a hF => ?_
      refine s_val hF (x_pick (b := false) rfl rfl) (by decide) fun a hF => ?_
      refine s_end (hK47 _ _ ?_)
      refine wp_if hF rfl ?_
      refine wp_rs fun K48 hK48 => ?_
      refine s_val hF (x_assign rfl) (by decide) fun a hF => ?_
      refine s_end (hK48 _ _ ?_)
      refine wp_ret (inb_ret (then_ret (res_slot hF rfl rfl ⟨_, rfl, ⟨bool_of (decide_eq_false (chk_no (node_num (by omega)))).symm, fun h => absurd h (chk_no (node_num (by omega)))⟩, hK⟩)))
    · have hnb : numB 1099511627776 k n = true := numB_iff.2 (by omega)
      have hnd := nodeE_iff.2 ⟨(by omega : d ≤ 256), (by omega : r ≠ 0), hkl, hnb, (by omega : ¬ (k = 2 ∧ (n < 0 ∨ 1001 ≤ n)))⟩
      refine wp_rs fun K49 hK49 => ?_
      refine s_val hF (x_fa0 fa24_0 rfl) (by decide) fun a hF => ?_
      refine s_val hF (x_load rfl (m_load flat3 (m3.cell (j := 0) rfl))) (by decide) fun a hF => ?_
      refine s_end (hK49 _ _ ?_)
      refine wp_block ?_
      refine wp_rs fun K50 hK50 => ?_
      refine s_val hF (x_eql (b := false) (decide_eq_false (by omega)) rfl rfl) (by decide) fun a hF => ?_
      refine s_val hF (x_assign rfl) (by decide) fun a hF => ?_
      refine s_end (hK50 _ _ ?_)
      refine wp_if hF rfl ?_
      refine wp_rs fun K51 hK51 => ?_
      refine s_val hF (x_eql (b := false) (decide_eq_false (by omega)) rfl rfl) (by decide) fun a hF => ?_
      refine s_val hF (x_assign rfl) (by decide) fun a hF => ?_
      refine s_end (hK51 _ _ ?_)
      refine wp_if hF rfl ?_
      refine wp_rs fun K52 hK52 => ?_
      refine s_val hF (x_eql (b := true) (decide_eq_true (by omega)) rfl rfl) (by decide) fun a hF => ?_
      refine s_val hF (x_assign rfl) (by decide) fun a hF => ?_
      refine s_end (hK52 _ _ ?_)
      refine wp_if hF rfl ?_
      refine wp_rs fun K53 hK53 => ?_
      refine s_val hF (x_fa0 fa24_1 rfl) (by decide) fun a hF => ?_
      refine s_val hF (x_load rfl (m_load flat3 (m3.cell (j := 1) rfl))) (by decide) fun a hF => ?_
      refine s_val hF (x_lss (b := false) (decide_eq_false (by omega)) rfl rfl) (by decide) fun a hF => ?_
      refine s_val hF (x_move rfl) (by decide) fun a hF => ?_
      refine s_grd 64 hF rfl rfl rfl ?_
      refine s_val hF (x_fa0 fa24_1 rfl) (by decide) fun a hF => ?_
      refine s_grd 64 hF rfl rfl rfl ?_
      refine s_val hF (x_load rfl (m_load flat3 (m3.cell (j := 1) rfl))) (by decide) fun a hF => ?_
      refine s_grd 64 hF rfl rfl rfl ?_
      refine s_val hF (x_gtr (b := false) (decide_eq_false (by omega)) rfl rfl) (by decide) fun a hF => ?_
      refine s_val hF (x_pick (b := false) rfl rfl) (by decide) fun a hF => ?_
      refine s_end (hK53 _ _ ?_)
      refine wp_if hF rfl ?_
      refine wp_skip (hK14 _ _ ?_)
      refine wp_seq_k fun K54 hK54 => ?_
      refine wp_rs fun K55 hK55 => ?_
      refine s_val hF (x_fa0 fa24_2 rfl) (by decide) fun a hF => ?_
      refine s_val hF (x_load rfl (m_load flat22 (m3.cell (j := 2) rfl))) (by decide) fun a hF => ?_
      refine s_val hF (x_len Try.underlying22 rfl) (by decide) fun a hF => ?_
      refine s_val hF (x_move rfl) (by decide) fun a hF => ?_
      refine s_end (hK55 _ _ ?_)
      refine wp_block ?_
      have mg : Blk w14 g 3 [.int .i64 (1000 - ((r - 1 : Nat) : Int))] := by rw [show (1000 : Int) - ((r - 1 : Nat) : Int) = 1000 - (r : Int) + 1 by omega]; exact mg
      refine wp_up xs.length (fun i a w => ∃ ri : Nat, ri ≤ 1000 ∧ chks 256 1099511627776 1001 (d + 1) (r - 1) ls = chks 256 1099511627776 1001 (d + 1) ri (ls.drop i) ∧ Blk w g 3 [.int .i64 (1000 - (ri : Int))] ∧ Below w0.heap.size w0 w ∧ Ktw g g w1 w ∧ Fs 83 a [(72, .int .i64 (i : Int)), (71, .int .i64 (xs.length : Int)), (70, .slice av xs.length cv), (1, .int .i64 d), (2, .pointer (some ⟨g, 0, none⟩))]) ⟨r - 1, by omega, rfl, mg, hB, hK, hF.sub _ rfl⟩ ?_
      clear hF hB hK mg
      rintro i a w hi ⟨ri, hri, hck, mg, hB, hK, hF⟩ K' hK'
      have sB := hB.size
      have hgl := mg.lt
      have sK := hK.size
      have hle := kids_le hkl
      refine wp_rs fun K56 hK56 => ?_
      refine s_val hF (x_lss rfl rfl rfl) (by decide) fun a hF => ?_
      refine s_end (hK56 _ _ ?_)
      refine wp_seq_k fun K57 hK57 => ?_
      refine wp_iff hF rfl (fun hc73 => ?_) (fun hc73 => ?_)
      · obtain ⟨b, off, c, y, hve, hy, hrow⟩ := rd_row3 hR (i := i) (by omega)
        cases hve
        obtain ⟨l, hlk⟩ : ∃ l, ls[i]? = some l := ⟨_, List.getElem?_eq_getElem (by omega)⟩
        have ihy := ih i y l hy hlk
        have h1y := (hk i y l hy hlk).one1
        rw [drop_at hlk] at hck
        refine wp_skip (hK57 _ _ ?_)
        refine wp_seq_k fun K58 hK58 => ?_
        refine wp_block ?_
        refine wp_rs fun K59 hK59 => ?_
        refine s_val hF (x_ixa rfl rfl (m_ixsK i Try.underlying22 el22.size rfl (by omega))) (by decide) fun a hF => ?_
        refine s_val hF (x_ldA wide24 (hrow _ hB) rfl rfl) (by decide) fun a hF => ?_
        refine s_alloc hF (by decide) zero24 fun w16 b8 a eb8 m8 B17 zb8 hF => ?_
        have sB17 := B17.size
        have hB := hB.trans (B17.mono hB.size)
        have hK := hK.below B17
        have mg := mg.old B17
        refine s_putW hF rfl rfl (size_wide wide24) m8 rfl (one_lc h1y) fun w18 m8 o19 => ?_
        have so19 := o19.size
        have hB := hB.trans (o19.below (by omega))
        have hK := hK.only o19 (by omega)
        have mg := mg.only o19 (by omega)
        refine s_end (hK59 _ _ ?_)
        refine wp_rs fun K60 hK60 => ?_
        refine s_val hF (x_ldW wide24 m8 rfl rfl) (by decide) fun a hF => ?_
        refine s_val hF (x_move rfl) (by decide) fun a hF => ?_
        refine s_val hF (x_add (by omega) (by omega) rfl rfl) (by decide) fun a hF => ?_
        refine s_val hF (x_move rfl) (by decide) fun a hF => ?_
        refine s_call (R := fun u w' => (u = .bool (decide ((chk 256 1099511627776 1001 (d + 1) ri l).1 = 0)) ∧ ((chk 256 1099511627776 1001 (d + 1) ri l).1 = 0 → Blk w' g 3 [.int .i64 (1000 - ((chk 256 1099511627776 1001 (d + 1) ri l).2 : Int))])) ∧ Ktw g g w18 w') hF [_, _, _] (enters_of Try.func104 (by kernel_rfl) rfl) rfl (by decide) (ihy (d + 1) ri w18 (by omega) (by omega) hri hB mg) ?_
        rintro _ w20 a ⟨⟨rfl, hmg⟩, k21⟩ hF
        have sk21 := k21.size
        have hB := k21.under hB (by omega)
        have hK := hK.trans k21 (by omega)
        have m8 := m8.k2 k21 (by omega)
        refine s_val hF (x_not rfl) (by decide) fun a hF => ?_
        refine s_end (hK60 _ _ ?_)
        refine wp_ifb hF rfl (fun hc81 => ?_) (fun hc81 => ?_)
        · have hc0 : ¬ (chk 256 1099511627776 1001 (d + 1) ri l).1 = 0 := by simpa using hc81
          refine wp_rs fun K61 hK61 => ?_
          refine s_val hF (x_assign rfl) (by decide) fun a hF => ?_
          refine s_end (hK61 _ _ ?_)
          refine wp_ret (inb_ret (then_ret (then_ret (inb_ret (then_ret (res_slot hF rfl rfl ⟨_, rfl, ⟨bool_of (decide_eq_false (by rw [chk_in hnd, hck, chks_out hc0]; exact hc0)).symm, fun h => absurd (by rw [chk_in hnd, hck, chks_out hc0] at h; exact h) hc0⟩, hK⟩))))))
        · have hc0 : (chk 256 1099511627776 1001 (d + 1) ri l).1 = 0 := by simpa using hc81
          have mg := hmg hc0
          refine wp_skip (hK58 _ _ ?_)
          refine wp_region_lit ?_
          refine s_val hF (x_addn (i + 1) (by omega) (by omega) rfl rfl) (by decide) fun a hF => ?_
          refine s_val hF (x_move rfl) (by decide) fun a hF => ?_
          refine s_end (hK' _ _ (by omega) ⟨(chk 256 1099511627776 1001 (d + 1) ri l).2, Nat.le_trans (chk_le _ _ _ _ _ _) hri, by rw [hck, chks_in hc0], mg, hB, hK, hF.sub _ rfl⟩)
      · refine wp_exit (hK54 _ _ ?_)
        refine wp_rs fun K62 hK62 => ?_
        refine s_val hF (x_assign rfl) (by decide) fun a hF => ?_
        refine s_end (hK62 _ _ ?_)
        have hnil : ls.drop i = [] := List.drop_of_length_le (by omega)
        rw [hnil] at hck
        refine wp_ret (res_slot hF rfl rfl ⟨_, rfl, ⟨bool_of (decide_eq_true (by rw [chk_in hnd, hck]; rfl)).symm, fun _ => by rw [chk_in hnd, hck]; exact mg⟩, hK⟩)
    · have hnb : numB 1099511627776 k n = true := numB_iff.2 (by omega)
      have hnd := nodeE_iff.2 ⟨(by omega : d ≤ 256), (by omega : r ≠ 0), hkl, hnb, (by omega : ¬ (k = 2 ∧ (n < 0 ∨ 1001 ≤ n)))⟩
      refine wp_rs fun K63 hK63 => ?_
      refine s_val hF (x_fa0 fa24_0 rfl) (by decide) fun a hF => ?_
      refine s_val hF (x_load rfl (m_load flat3 (m3.cell (j := 0) rfl))) (by decide) fun a hF => ?_
      refine s_end (hK63 _ _ ?_)
      refine wp_block ?_
      refine wp_rs fun K64 hK64 => ?_
      refine s_val hF (x_eql (b := false) (decide_eq_false (by omega)) rfl rfl) (by decide) fun a hF => ?_
      refine s_val hF (x_assign rfl) (by decide) fun a hF => ?_
      refine s_end (hK64 _ _ ?_)
      refine wp_if hF rfl ?_
      refine wp_rs fun K65 hK65 => ?_
      refine s_val hF (x_eql (b := false) (decide_eq_false (by omega)) rfl rfl) (by decide) fun a hF => ?_
      refine s_val hF (x_assign rfl) (by decide) fun a hF => ?_
      refine s_end (hK65 _ _ ?_)
      refine wp_if hF rfl ?_
      refine wp_rs fun K66 hK66 => ?_
      refine s_val hF (x_eql (b := false) (decide_eq_false (by omega)) rfl rfl) (by decide) fun a hF => ?_
      refine s_val hF (x_assign rfl) (by decide) fun a hF => ?_
      refine s_end (hK66 _ _ ?_)
      refine wp_if hF rfl ?_
      refine wp_skip (hK14 _ _ ?_)
      refine wp_seq_k fun K67 hK67 => ?_
      refine wp_rs fun K68 hK68 => ?_
      refine s_val hF (x_fa0 fa24_2 rfl) (by decide) fun a hF => ?_
      refine s_val hF (x_load rfl (m_load flat22 (m3.cell (j := 2) rfl))) (by decide) fun a hF => ?_
      refine s_val hF (x_len Try.underlying22 rfl) (by decide) fun a hF => ?_
      refine s_val hF (x_move rfl) (by decide) fun a hF => ?_
      refine s_end (hK68 _ _ ?_)
      refine wp_block ?_
      have mg : Blk w14 g 3 [.int .i64 (1000 - ((r - 1 : Nat) : Int))] := by rw [show (1000 : Int) - ((r - 1 : Nat) : Int) = 1000 - (r : Int) + 1 by omega]; exact mg
      refine wp_up xs.length (fun i a w => ∃ ri : Nat, ri ≤ 1000 ∧ chks 256 1099511627776 1001 (d + 1) (r - 1) ls = chks 256 1099511627776 1001 (d + 1) ri (ls.drop i) ∧ Blk w g 3 [.int .i64 (1000 - (ri : Int))] ∧ Below w0.heap.size w0 w ∧ Ktw g g w1 w ∧ Fs 83 a [(72, .int .i64 (i : Int)), (71, .int .i64 (xs.length : Int)), (70, .slice av xs.length cv), (1, .int .i64 d), (2, .pointer (some ⟨g, 0, none⟩))]) ⟨r - 1, by omega, rfl, mg, hB, hK, hF.sub _ rfl⟩ ?_
      clear hF hB hK mg
      rintro i a w hi ⟨ri, hri, hck, mg, hB, hK, hF⟩ K' hK'
      have sB := hB.size
      have hgl := mg.lt
      have sK := hK.size
      have hle := kids_le hkl
      refine wp_rs fun K69 hK69 => ?_
      refine s_val hF (x_lss rfl rfl rfl) (by decide) fun a hF => ?_
      refine s_end (hK69 _ _ ?_)
      refine wp_seq_k fun K70 hK70 => ?_
      refine wp_iff hF rfl (fun hc73 => ?_) (fun hc73 => ?_)
      · obtain ⟨b, off, c, y, hve, hy, hrow⟩ := rd_row3 hR (i := i) (by omega)
        cases hve
        obtain ⟨l, hlk⟩ : ∃ l, ls[i]? = some l := ⟨_, List.getElem?_eq_getElem (by omega)⟩
        have ihy := ih i y l hy hlk
        have h1y := (hk i y l hy hlk).one1
        rw [drop_at hlk] at hck
        refine wp_skip (hK70 _ _ ?_)
        refine wp_seq_k fun K71 hK71 => ?_
        refine wp_block ?_
        refine wp_rs fun K72 hK72 => ?_
        refine s_val hF (x_ixa rfl rfl (m_ixsK i Try.underlying22 el22.size rfl (by omega))) (by decide) fun a hF => ?_
        refine s_val hF (x_ldA wide24 (hrow _ hB) rfl rfl) (by decide) fun a hF => ?_
        refine s_alloc hF (by decide) zero24 fun w22 b8 a eb8 m8 B23 zb8 hF => ?_
        have sB23 := B23.size
        have hB := hB.trans (B23.mono hB.size)
        have hK := hK.below B23
        have mg := mg.old B23
        refine s_putW hF rfl rfl (size_wide wide24) m8 rfl (one_lc h1y) fun w24 m8 o25 => ?_
        have so25 := o25.size
        have hB := hB.trans (o25.below (by omega))
        have hK := hK.only o25 (by omega)
        have mg := mg.only o25 (by omega)
        refine s_end (hK72 _ _ ?_)
        refine wp_rs fun K73 hK73 => ?_
        refine s_val hF (x_ldW wide24 m8 rfl rfl) (by decide) fun a hF => ?_
        refine s_val hF (x_move rfl) (by decide) fun a hF => ?_
        refine s_val hF (x_add (by omega) (by omega) rfl rfl) (by decide) fun a hF => ?_
        refine s_val hF (x_move rfl) (by decide) fun a hF => ?_
        refine s_call (R := fun u w' => (u = .bool (decide ((chk 256 1099511627776 1001 (d + 1) ri l).1 = 0)) ∧ ((chk 256 1099511627776 1001 (d + 1) ri l).1 = 0 → Blk w' g 3 [.int .i64 (1000 - ((chk 256 1099511627776 1001 (d + 1) ri l).2 : Int))])) ∧ Ktw g g w24 w') hF [_, _, _] (enters_of Try.func104 (by kernel_rfl) rfl) rfl (by decide) (ihy (d + 1) ri w24 (by omega) (by omega) hri hB mg) ?_
        rintro _ w26 a ⟨⟨rfl, hmg⟩, k27⟩ hF
        have sk27 := k27.size
        have hB := k27.under hB (by omega)
        have hK := hK.trans k27 (by omega)
        have m8 := m8.k2 k27 (by omega)
        refine s_val hF (x_not rfl) (by decide) fun a hF => ?_
        refine s_end (hK73 _ _ ?_)
        refine wp_ifb hF rfl (fun hc81 => ?_) (fun hc81 => ?_)
        · have hc0 : ¬ (chk 256 1099511627776 1001 (d + 1) ri l).1 = 0 := by simpa using hc81
          refine wp_rs fun K74 hK74 => ?_
          refine s_val hF (x_assign rfl) (by decide) fun a hF => ?_
          refine s_end (hK74 _ _ ?_)
          refine wp_ret (inb_ret (then_ret (then_ret (inb_ret (then_ret (res_slot hF rfl rfl ⟨_, rfl, ⟨bool_of (decide_eq_false (by rw [chk_in hnd, hck, chks_out hc0]; exact hc0)).symm, fun h => absurd (by rw [chk_in hnd, hck, chks_out hc0] at h; exact h) hc0⟩, hK⟩))))))
        · have hc0 : (chk 256 1099511627776 1001 (d + 1) ri l).1 = 0 := by simpa using hc81
          have mg := hmg hc0
          refine wp_skip (hK71 _ _ ?_)
          refine wp_region_lit ?_
          refine s_val hF (x_addn (i + 1) (by omega) (by omega) rfl rfl) (by decide) fun a hF => ?_
          refine s_val hF (x_move rfl) (by decide) fun a hF => ?_
          refine s_end (hK' _ _ (by omega) ⟨(chk 256 1099511627776 1001 (d + 1) ri l).2, Nat.le_trans (chk_le _ _ _ _ _ _) hri, by rw [hck, chks_in hc0], mg, hB, hK, hF.sub _ rfl⟩)
      · refine wp_exit (hK67 _ _ ?_)
        refine wp_rs fun K75 hK75 => ?_
        refine s_val hF (x_assign rfl) (by decide) fun a hF => ?_
        refine s_end (hK75 _ _ ?_)
        have hnil : ls.drop i = [] := List.drop_of_length_le (by omega)
        rw [hnil] at hck
        refine wp_ret (res_slot hF rfl rfl ⟨_, rfl, ⟨bool_of (decide_eq_true (by rw [chk_in hnd, hck]; rfl)).symm, fun _ => by rw [chk_in hnd, hck]; exact mg⟩, hK⟩)

set_option maxRecDepth 100000 in
set_option maxHeartbeats 1600000 in
theorem rSound17 (x : C3) (l : Lv) (w0 : World) (hL : RL w0 x l) : Calls Try.prog 59 #[lv x] w0 fun e w' => e = .returned (.bool (decide (sndL l))) ∧ Below w0.heap.size w0 w' := by
  have hB := Below.refl w0.heap.size w0
  have sB := hB.size
  refine calls_fs 6 [(0, lv x)] Try.func59 rfl rfl rfl rfl rfl fun a hF => ?_
  refine wp_rs fun K1 hK1 => ?_
  refine s_box (lc x) hF (by decide) rfl rfl fun w2 b1 a eb1 m1 B3 zb1 hF => ?_
  have sB3 := B3.size
  have hB := hB.trans (B3.mono hB.size)
  refine s_val hF (x_assign rfl) (by decide) fun a hF => ?_
  refine s_end (hK1 _ _ ?_)
  refine wp_rs fun K2 hK2 => ?_
  refine s_alloc1 hF (by decide) zero3 rfl fun w4 b3 a eb3 m3 B5 zb3 hF => ?_
  have sB5 := B5.size
  have hB := hB.trans (B5.mono hB.size)
  have m1 := m1.old B5
  refine s_put hF rfl rfl flat3 m3 (by simp) rfl fun w6 m3 o7 => ?_
  have so7 := o7.size
  have hB := hB.trans (o7.below (by omega))
  have m1 := m1.only o7 (by omega)
  refine s_end (hK2 _ _ ?_)
  refine wp_rs fun K3 hK3 => ?_
  refine s_val hF (x_ldW wide24 m1 rfl rfl) (by decide) fun a hF => ?_
  refine s_call (R := fun u w' => (u = .bool (decide ((chk 256 1099511627776 1001 1 1000 l).1 = 0)) ∧ ((chk 256 1099511627776 1001 1 1000 l).1 = 0 → Blk w' b3 3 [.int .i64 (1000 - ((chk 256 1099511627776 1001 1 1000 l).2 : Int))])) ∧ Ktw b3 b3 w6 w') hF [_, _, _] (enters_of Try.func104 (by kernel_rfl) rfl) rfl (by decide) (rsound39 w0 b3 (by omega) x l hL 1 1000 w6 (by decide) (by decide) (by decide) hB m3) ?_
  rintro _ w8 a ⟨⟨rfl, _⟩, k9⟩ hF
  have sk9 := k9.size
  have hB := k9.under hB (by omega)
  have m1 := m1.k2 k9 (by omega)
  refine s_val hF (x_assign rfl) (by decide) fun a hF => ?_
  refine s_end (hK3 _ _ ?_)
  refine wp_ret (res_slot hF rfl rfl ⟨rfl, hB⟩)

/-- Its numbers are small. -/
def SL.lit : SL → Prop
  | .num n => n ≤ 1048576
  | .var _ => True
  | .succ n a => n ≤ 1048576 ∧ a.lit
  | .mx a b => a.lit ∧ b.lit
theorem rd_row1 {W : World} {v : Value} {y : C3} (h : Rd W v 3 1 (lc y)) : ∃ b off c, v = .slice (some ⟨b, off, none⟩) 1 c ∧ ∀ W', Below W.heap.size W W' → ∀ j u, (lc y)[j]? = some u → W'.cell? ((⟨b, off + 0 * 3, none⟩ : Addr).add j) = some u := by
  obtain ⟨b, off, c, x, h1, h2, h3⟩ := rd_row3 (xs := [y]) (by simpa using h) (i := 0) (by simp)
  simp at h2
  subst h2
  exact ⟨b, off, c, h1, h3⟩
theorem rd_row2 {W : World} {v : Value} {y z : C3} (h : Rd W v 3 2 (lc y ++ lc z)) : ∃ b off c, v = .slice (some ⟨b, off, none⟩) 2 c ∧ (∀ W', Below W.heap.size W W' → ∀ j u, (lc y)[j]? = some u → W'.cell? ((⟨b, off + 0 * 3, none⟩ : Addr).add j) = some u) ∧ (∀ W', Below W.heap.size W W' → ∀ j u, (lc z)[j]? = some u → W'.cell? ((⟨b, off + 1 * 3, none⟩ : Addr).add j) = some u) := by
  obtain ⟨b, off, c, x, h1, h2, h3⟩ := rd_row3 (xs := [y, z]) (by simpa using h) (i := 0) (by simp)
  obtain ⟨b', off', c', x', h4, h5, h6⟩ := rd_row3 (xs := [y, z]) (by simpa using h) (i := 1) (by simp)
  simp at h2 h5
  subst h2 h5
  rw [h1] at h4
  cases h4
  exact ⟨b, off, c, h1, h3, h6⟩
theorem RS.one1 {W : World} {s : SL} {x : C3} (h : RS W s x) : x.2.2.oneCell' = true := by
  obtain ⟨_, _, h⟩ := h.slice
  exact h.one
/-- A level of the four kinds: its kids as a list. -/
def SL.kids : SL → List SL
  | .num _ => []
  | .var _ => []
  | .succ _ a => [a]
  | .mx a b => [a, b]
theorem RS.kids {W : World} : ∀ {s : SL} {x : C3}, RS W s x → ∃ xs : List C3, Rd W x.2.2 3 xs.length (xs.flatMap lc) ∧ xs.length = s.kids.length ∧ ∀ (i : Nat) y t, xs[i]? = some y → s.kids[i]? = some t → RS W t y
  | .num _, x, h => ⟨[], by simpa using h.2.2, rfl, fun i y t h1 => by simp at h1⟩
  | .var _, x, h => ⟨[], by simpa using h.2.2, rfl, fun i y t h1 => by simp at h1⟩
  | .succ _ a, x, ⟨_, _, y, h1, h2⟩ => ⟨[y], by simpa using h1, rfl, fun i z t e1 e2 => by
    rcases i with _ | i
    · simp [SL.kids] at e1 e2; subst e1 e2; exact h2
    · simp at e1⟩
  | .mx a b, x, ⟨_, y, z, h1, h2, h3⟩ => ⟨[y, z], by simpa using h1, rfl, fun i u t e1 e2 => by
    rcases i with _ | _ | i
    · simp [SL.kids] at e1 e2; subst e1 e2; exact h2
    · simp [SL.kids] at e1 e2; subst e1 e2; exact h3
    · simp at e1⟩
theorem SL.kids_le (s : SL) : s.kids.length ≤ 2 := by cases s <;> simp [SL.kids]
end Go.Proofs.Ytgpciphjhnabcaa
