/- SigSigns, SigNil, SigGrows. -/
import Derived.Test.YtefpenjcgplamaaDoorSig2
namespace Go.Proofs.YtefpenjcgplamaaDoor
open Go.RowKit Go.Shelf
set_option linter.unusedVariables false
set_option linter.unusedSimpArgs false

theorem val_yes (k n : Int) (bs : List UInt8) (h : 0 ≤ k) : (decide (0 ≤ (signS k bs).1 ∧ (signS k bs).1 < n ∧ signS k bs = signS (signS k bs).1 bs) == decide (k < n)) = true := by
  show (decide (0 ≤ k ∧ k < n ∧ signS k bs = signS k bs) == _) = true
  simp [h]
theorem val_no (k n : Int) (bs : List UInt8) (h : k < 0) : (decide (0 ≤ (signS k bs).1 ∧ (signS k bs).1 < n ∧ signS k bs = signS (signS k bs).1 bs) == false) = true := by
  show (decide (0 ≤ k ∧ k < n ∧ signS k bs = signS k bs) == _) = true
  rw [decide_eq_false (fun h => by omega)]
  rfl
theorem lit_size {s : Sg} (hs : goodS s) : ∀ v ∈ [sigv s], v.cells.size = 33 := by
  intro v hv
  rw [List.mem_singleton] at hv
  subst hv
  simpa [Value.cells] using sigL_length hs
theorem lit_cells (s : Sg) : ([sigv s].flatMap fun v => v.cells.toList) = sigL s := by simp [Value.cells]

set_option maxRecDepth 100000 in
set_option maxHeartbeats 1600000 in
theorem sigSigns_walk (k : Int) (ex : Nat) (bs : List UInt8) (v : Value) (s : Sg) (hs : goodS s) (n : Int) (w0 : World) (hR : RB ex w0 v bs) (hlen : bs.length + 256 ≤ 140737488355328) (hT : Tab w0) : Calls Tryd.prog 3 #[.int .i64 k, v, sigv s, .int .i64 n] w0 fun e w' => e = .returned (.bool true) ∧ Below w0.heap.size w0 w' := by
  have hB := Below.refl w0.heap.size w0
  have sB := hB.size
  obtain ⟨av, cv, rfl, _, _⟩ := hR.form
  refine calls_fs 46 [(0, .int .i64 k), (1, .slice av bs.length cv), (2, sigv s), (3, .int .i64 n)] Tryd.func3 rfl rfl rfl rfl rfl fun a hF => ?_
  refine wp_rs fun K1 hK1 => ?_
  refine s_box (sigL s) hF (by decide) rfl rfl fun w2 b6 a eb6 m6 B3 zb6 hF => ?_
  have sB3 := B3.size
  have hB := hB.trans (B3.mono hB.size)
  refine s_val hF (x_assign rfl) (by decide) fun a hF => ?_
  refine s_end (hK1 _ _ ?_)
  rcases Int.lt_or_le k 0 with hk | hk
  · skip
    refine dk_seq (w2.heap.size) (ops := regOps Tryd.f3 1) (N := 38) (by kernel_rfl) wide_orders (by kernel_rfl) fun w4 hw4 B5 hS K3 hK3 => ?_
    have zw4 : w4.heap.size = w2.heap.size := by rw [hw4]
    have sB5 := B5.size
    have hB := hB.trans (B5.mono hB.size)
    have m6 := m6.old B5
    have m6_d := m6
    have hB_d := hB
    refine d_val 0 9 (op := (Go.Op.move (Go.Operand.tmp 0))) hF hS (by kernel_rfl) (fun W hW => x_move rfl) (by kernel_rfl) (by decide) fun a hF => ?_
    refine d_val 1 10 (op := (Go.Op.move (Go.Operand.tmp 1))) hF hS (by kernel_rfl) (fun W hW => x_move rfl) (by kernel_rfl) (by decide) fun a hF => ?_
    refine d_val 3 12 (op := (Go.Op.move (Go.Operand.tmp 0))) hF hS (by kernel_rfl) (fun W hW => x_move rfl) (by kernel_rfl) (by decide) fun a hF => ?_
    refine d_val 4 13 (op := (Go.Op.move (Go.Operand.tmp 1))) hF hS (by kernel_rfl) (fun W hW => x_move rfl) (by kernel_rfl) (by decide) fun a hF => ?_
    refine d_one 2 (some 11) (Go.Op.call (Go.Call.mk (Go.Callee.value (Go.Operand.func 7)) #[(Go.Operand.tmp 9), (Go.Operand.tmp 10)] #[3, 22])) (by kernel_rfl) (by kernel_rfl) fun ty pos af => ?_
    refine s_callB [.int .i64 k, .slice av bs.length cv] hF (enters_of Tryd.func7 (by kernel_rfl) rfl) rfl (by decide) (sign7 k _ bs _ w4 (hR.below hB) (by omega) (hT.old hB)) fun w6 a B7 hF => ?_
    have sB7 := B7.size
    have hB := hB.trans (B7.mono hB.size)
    have m6 := m6.old B7
    have hS := hS.below B7
    refine s_end ⟨hS, ?_⟩
    refine d_one 5 (some 14) (Go.Op.call (Go.Call.mk (Go.Callee.value (Go.Operand.func 8)) #[(Go.Operand.tmp 12), (Go.Operand.tmp 13)] #[3, 22])) (by kernel_rfl) (by kernel_rfl) fun ty pos af => ?_
    refine s_callB [.int .i64 k, .slice av bs.length cv] hF (enters_of Tryd.func8 (by kernel_rfl) rfl) rfl (by decide) (rsign8 k _ bs _ w6 (hR.below hB) hlen) fun w8 a B9 hF => ?_
    have sB9 := B9.size
    have hB := hB.trans (B9.mono hB.size)
    have m6 := m6.old B9
    have hS := hS.below B9
    refine s_end ⟨hS, ?_⟩
    refine d_val 6 15 (op := (Go.Op.binOp Go.BinOp.eql 26 (Go.Operand.tmp 11) (Go.Operand.tmp 14) 26)) hF hS (by kernel_rfl) (fun W hW => x_eqG (b := true) (signS_good _ _) (signS_good _ _) (decide_eq_true rfl) rfl rfl) (by kernel_rfl) (by decide) fun a hF => ?_
    refine d_val 7 16 (op := (Go.Op.move (Go.Operand.tmp 15))) hF hS (by kernel_rfl) (fun W hW => x_move rfl) (by kernel_rfl) (by decide) fun a hF => ?_
    refine d_valg 8 17 16 (j := 7) (want := true) (op := (Go.Op.load 26 (Go.Operand.tmp 6))) hF hS (by kernel_rfl) (by kernel_rfl) rfl (fun W hW => x_loadG hs (m6_d.kq hW (by omega)) rfl) (by kernel_rfl) (by decide) fun a hF => ?_
    refine d_valg 9 18 16 (j := 7) (want := true) (op := (Go.Op.move (Go.Operand.tmp 1))) hF hS (by kernel_rfl) (by kernel_rfl) rfl (fun W hW => x_move rfl) (by kernel_rfl) (by decide) fun a hF => ?_
    refine d_valg 10 19 16 (j := 7) (want := true) (op := (Go.Op.move (Go.Operand.tmp 3))) hF hS (by kernel_rfl) (by kernel_rfl) rfl (fun W hW => x_move rfl) (by kernel_rfl) (by decide) fun a hF => ?_
    refine d_valg 12 21 16 (j := 7) (want := true) (op := (Go.Op.load 26 (Go.Operand.tmp 6))) hF hS (by kernel_rfl) (by kernel_rfl) rfl (fun W hW => x_loadG hs (m6_d.kq hW (by omega)) rfl) (by kernel_rfl) (by decide) fun a hF => ?_
    refine d_valg 13 22 16 (j := 7) (want := true) (op := (Go.Op.move (Go.Operand.tmp 1))) hF hS (by kernel_rfl) (by kernel_rfl) rfl (fun W hW => x_move rfl) (by kernel_rfl) (by decide) fun a hF => ?_
    refine d_valg 14 23 16 (j := 7) (want := true) (op := (Go.Op.move (Go.Operand.tmp 3))) hF hS (by kernel_rfl) (by kernel_rfl) rfl (fun W hW => x_move rfl) (by kernel_rfl) (by decide) fun a hF => ?_
    refine d_oneg 11 16 (some 20) (Go.Op.call (Go.Call.mk (Go.Callee.value (Go.Operand.func 9)) #[(Go.Operand.tmp 17), (Go.Operand.tmp 18), (Go.Operand.tmp 19)] #[26, 22, 3])) (j := 7) (want := true) hF (by kernel_rfl) (by kernel_rfl) (by kernel_rfl) rfl fun ty pos af => ?_
    refine s_callB [sigv s, .slice av bs.length cv, .int .i64 n] hF (enters_of Tryd.func9 (by kernel_rfl) rfl) rfl (by decide) (valid9 s hs _ bs _ n w8 (hR.below hB) (by omega) (hT.old hB)) fun w10 a B11 hF => ?_
    have sB11 := B11.size
    have hB := hB.trans (B11.mono hB.size)
    have m6 := m6.old B11
    have hS := hS.below B11
    refine s_end ⟨hS, ?_⟩
    refine d_oneg 15 16 (some 24) (Go.Op.call (Go.Call.mk (Go.Callee.value (Go.Operand.func 10)) #[(Go.Operand.tmp 21), (Go.Operand.tmp 22), (Go.Operand.tmp 23)] #[26, 22, 3])) (j := 7) (want := true) hF (by kernel_rfl) (by kernel_rfl) (by kernel_rfl) rfl fun ty pos af => ?_
    refine s_callB [sigv s, .slice av bs.length cv, .int .i64 n] hF (enters_of Tryd.func10 (by kernel_rfl) rfl) rfl (by decide) (rvalid10 s hs _ bs _ n w10 (hR.below hB) hlen) fun w12 a B13 hF => ?_
    have sB13 := B13.size
    have hB := hB.trans (B13.mono hB.size)
    have m6 := m6.old B13
    have hS := hS.below B13
    refine s_end ⟨hS, ?_⟩
    refine d_valg 16 25 16 (j := 7) (want := true) (op := (Go.Op.binOp Go.BinOp.eql 4 (Go.Operand.tmp 20) (Go.Operand.tmp 24) 4)) hF hS (by kernel_rfl) (by kernel_rfl) rfl (fun W hW => x_eqB (b := true) Tryd.underlying4 (beq_self_eq_true _) rfl rfl) (by kernel_rfl) (by decide) fun a hF => ?_
    refine d_val 17 26 (op := (Go.Op.pick (Go.Operand.tmp 16) (Go.Operand.tmp 25) (Go.Operand.const (Go.Value.bool false)))) hF hS (by kernel_rfl) (fun W hW => x_pick rfl rfl) (by kernel_rfl) (by decide) fun a hF => ?_
    refine d_val 18 27 (op := (Go.Op.move (Go.Operand.tmp 26))) hF hS (by kernel_rfl) (fun W hW => x_move rfl) (by kernel_rfl) (by decide) fun a hF => ?_
    refine d_valg 19 28 27 (j := 18) (want := true) (op := (Go.Op.move (Go.Operand.tmp 0))) hF hS (by kernel_rfl) (by kernel_rfl) rfl (fun W hW => x_move rfl) (by kernel_rfl) (by decide) fun a hF => ?_
    refine d_valg 20 29 27 (j := 18) (want := true) (op := (Go.Op.move (Go.Operand.tmp 1))) hF hS (by kernel_rfl) (by kernel_rfl) rfl (fun W hW => x_move rfl) (by kernel_rfl) (by decide) fun a hF => ?_
    refine d_valg 22 31 27 (j := 18) (want := true) (op := (Go.Op.move (Go.Operand.tmp 1))) hF hS (by kernel_rfl) (by kernel_rfl) rfl (fun W hW => x_move rfl) (by kernel_rfl) (by decide) fun a hF => ?_
    refine d_valg 23 32 27 (j := 18) (want := true) (op := (Go.Op.move (Go.Operand.tmp 3))) hF hS (by kernel_rfl) (by kernel_rfl) rfl (fun W hW => x_move rfl) (by kernel_rfl) (by decide) fun a hF => ?_
    refine d_valg 25 34 27 (j := 18) (want := true) (op := (Go.Op.move (Go.Operand.tmp 0))) hF hS (by kernel_rfl) (by kernel_rfl) rfl (fun W hW => x_move rfl) (by kernel_rfl) (by decide) fun a hF => ?_
    refine d_valg 26 35 27 (j := 18) (want := true) (op := (Go.Op.binOp Go.BinOp.geq 3 (Go.Operand.tmp 34) (Go.Operand.const (Go.Value.int Go.IntKind.i64 0)) 3)) hF hS (by kernel_rfl) (by kernel_rfl) rfl (fun W hW => x_geq (b := false) (decide_eq_false (by omega)) rfl rfl) (by kernel_rfl) (by decide) fun a hF => ?_
    refine d_oneg 21 27 (some 30) (Go.Op.call (Go.Call.mk (Go.Callee.value (Go.Operand.func 7)) #[(Go.Operand.tmp 28), (Go.Operand.tmp 29)] #[3, 22])) (j := 18) (want := true) hF (by kernel_rfl) (by kernel_rfl) (by kernel_rfl) rfl fun ty pos af => ?_
    refine s_callB [.int .i64 k, .slice av bs.length cv] hF (enters_of Tryd.func7 (by kernel_rfl) rfl) rfl (by decide) (sign7 k _ bs _ w12 (hR.below hB) (by omega) (hT.old hB)) fun w14 a B15 hF => ?_
    have sB15 := B15.size
    have hB := hB.trans (B15.mono hB.size)
    have m6 := m6.old B15
    have hS := hS.below B15
    refine s_end ⟨hS, ?_⟩
    refine d_oneg 24 27 (some 33) (Go.Op.call (Go.Call.mk (Go.Callee.value (Go.Operand.func 9)) #[(Go.Operand.tmp 30), (Go.Operand.tmp 31), (Go.Operand.tmp 32)] #[26, 22, 3])) (j := 18) (want := true) hF (by kernel_rfl) (by kernel_rfl) (by kernel_rfl) rfl fun ty pos af => ?_
    refine s_callB [sigv (signS k bs), .slice av bs.length cv, .int .i64 n] hF (enters_of Tryd.func9 (by kernel_rfl) rfl) rfl (by decide) (valid9 _ (signS_good _ _) _ bs _ n w14 (hR.below hB) (by omega) (hT.old hB)) fun w16 a B17 hF => ?_
    have sB17 := B17.size
    have hB := hB.trans (B17.mono hB.size)
    have m6 := m6.old B17
    have hS := hS.below B17
    refine s_end ⟨hS, ?_⟩
    refine d_valg 27 36 27 (j := 18) (want := true) (op := (Go.Op.move (Go.Operand.tmp 35))) hF hS (by kernel_rfl) (by kernel_rfl) rfl (fun W hW => x_move rfl) (by kernel_rfl) (by decide) fun a hF => ?_
    refine d_skip 28 37 36 (j := 27) (want := true) (op := (Go.Op.move (Go.Operand.tmp 0))) hF hS (by kernel_rfl) (by kernel_rfl) rfl (by kernel_rfl) (by decide) fun a hF => ?_
    refine d_skip 29 38 36 (j := 27) (want := true) (op := (Go.Op.move (Go.Operand.tmp 3))) hF hS (by kernel_rfl) (by kernel_rfl) rfl (by kernel_rfl) (by decide) fun a hF => ?_
    refine d_skip 30 39 36 (j := 27) (want := true) (op := (Go.Op.binOp Go.BinOp.lss 3 (Go.Operand.tmp 37) (Go.Operand.tmp 38) 3)) hF hS (by kernel_rfl) (by kernel_rfl) rfl (by kernel_rfl) (by decide) fun a hF => ?_
    refine d_valg 31 40 27 (j := 18) (want := true) (op := (Go.Op.pick (Go.Operand.tmp 36) (Go.Operand.tmp 39) (Go.Operand.const (Go.Value.bool false)))) hF hS (by kernel_rfl) (by kernel_rfl) rfl (fun W hW => x_pick rfl rfl) (by kernel_rfl) (by decide) fun a hF => ?_
    refine d_valg 32 41 27 (j := 18) (want := true) (op := (Go.Op.binOp Go.BinOp.eql 4 (Go.Operand.tmp 33) (Go.Operand.tmp 40) 4)) hF hS (by kernel_rfl) (by kernel_rfl) rfl (fun W hW => x_eqB (b := true) Tryd.underlying4 (val_no k n bs hk) rfl rfl) (by kernel_rfl) (by decide) fun a hF => ?_
    refine d_val 33 42 (op := (Go.Op.pick (Go.Operand.tmp 27) (Go.Operand.tmp 41) (Go.Operand.const (Go.Value.bool false)))) hF hS (by kernel_rfl) (fun W hW => x_pick rfl rfl) (by kernel_rfl) (by decide) fun a hF => ?_
    refine d_val 34 43 (op := (Go.Op.move (Go.Operand.tmp 42))) hF hS (by kernel_rfl) (fun W hW => x_move rfl) (by kernel_rfl) (by decide) fun a hF => ?_
    refine d_oneg 35 43 (some 44) (Go.Op.call (Go.Call.mk (Go.Callee.value (Go.Operand.func 11)) #[] #[])) (j := 34) (want := true) hF (by kernel_rfl) (by kernel_rfl) (by kernel_rfl) rfl fun ty pos af => ?_
    refine s_callB [] hF (enters_of Tryd.func11 (by kernel_rfl) rfl) rfl (by decide) (awake11 w16 (hT.old hB)) fun w18 a B19 hF => ?_
    have sB19 := B19.size
    have hB := hB.trans (B19.mono hB.size)
    have m6 := m6.old B19
    have hS := hS.below B19
    refine s_end ⟨hS, ?_⟩
    refine d_val 36 45 (op := (Go.Op.pick (Go.Operand.tmp 43) (Go.Operand.tmp 44) (Go.Operand.const (Go.Value.bool false)))) hF hS (by kernel_rfl) (fun W hW => x_pick rfl rfl) (by kernel_rfl) (by decide) fun a hF => ?_
    refine d_val 37 8 (op := (Go.Op.assign (Go.Operand.tmp 45))) hF hS (by kernel_rfl) (fun W hW => x_assign rfl) (by kernel_rfl) (by decide) fun a hF => ?_
    refine d_end (by kernel_rfl) (hK3 _ _ ?_)
    refine wp_ret (res_slot hF rfl rfl ⟨rfl, hB⟩)
  · skip
    refine dk_seq (w2.heap.size) (ops := regOps Tryd.f3 1) (N := 38) (by kernel_rfl) wide_orders (by kernel_rfl) fun w20 hw20 B21 hS K4 hK4 => ?_
    have zw20 : w20.heap.size = w2.heap.size := by rw [hw20]
    have sB21 := B21.size
    have hB := hB.trans (B21.mono hB.size)
    have m6 := m6.old B21
    have m6_d := m6
    have hB_d := hB
    refine d_val 0 9 (op := (Go.Op.move (Go.Operand.tmp 0))) hF hS (by kernel_rfl) (fun W hW => x_move rfl) (by kernel_rfl) (by decide) fun a hF => ?_
    refine d_val 1 10 (op := (Go.Op.move (Go.Operand.tmp 1))) hF hS (by kernel_rfl) (fun W hW => x_move rfl) (by kernel_rfl) (by decide) fun a hF => ?_
    refine d_val 3 12 (op := (Go.Op.move (Go.Operand.tmp 0))) hF hS (by kernel_rfl) (fun W hW => x_move rfl) (by kernel_rfl) (by decide) fun a hF => ?_
    refine d_val 4 13 (op := (Go.Op.move (Go.Operand.tmp 1))) hF hS (by kernel_rfl) (fun W hW => x_move rfl) (by kernel_rfl) (by decide) fun a hF => ?_
    refine d_one 2 (some 11) (Go.Op.call (Go.Call.mk (Go.Callee.value (Go.Operand.func 7)) #[(Go.Operand.tmp 9), (Go.Operand.tmp 10)] #[3, 22])) (by kernel_rfl) (by kernel_rfl) fun ty pos af => ?_
    refine s_callB [.int .i64 k, .slice av bs.length cv] hF (enters_of Tryd.func7 (by kernel_rfl) rfl) rfl (by decide) (sign7 k _ bs _ w20 (hR.below hB) (by omega) (hT.old hB)) fun w22 a B23 hF => ?_
    have sB23 := B23.size
    have hB := hB.trans (B23.mono hB.size)
    have m6 := m6.old B23
    have hS := hS.below B23
    refine s_end ⟨hS, ?_⟩
    refine d_one 5 (some 14) (Go.Op.call (Go.Call.mk (Go.Callee.value (Go.Operand.func 8)) #[(Go.Operand.tmp 12), (Go.Operand.tmp 13)] #[3, 22])) (by kernel_rfl) (by kernel_rfl) fun ty pos af => ?_
    refine s_callB [.int .i64 k, .slice av bs.length cv] hF (enters_of Tryd.func8 (by kernel_rfl) rfl) rfl (by decide) (rsign8 k _ bs _ w22 (hR.below hB) hlen) fun w24 a B25 hF => ?_
    have sB25 := B25.size
    have hB := hB.trans (B25.mono hB.size)
    have m6 := m6.old B25
    have hS := hS.below B25
    refine s_end ⟨hS, ?_⟩
    refine d_val 6 15 (op := (Go.Op.binOp Go.BinOp.eql 26 (Go.Operand.tmp 11) (Go.Operand.tmp 14) 26)) hF hS (by kernel_rfl) (fun W hW => x_eqG (b := true) (signS_good _ _) (signS_good _ _) (decide_eq_true rfl) rfl rfl) (by kernel_rfl) (by decide) fun a hF => ?_
    refine d_val 7 16 (op := (Go.Op.move (Go.Operand.tmp 15))) hF hS (by kernel_rfl) (fun W hW => x_move rfl) (by kernel_rfl) (by decide) fun a hF => ?_
    refine d_valg 8 17 16 (j := 7) (want := true) (op := (Go.Op.load 26 (Go.Operand.tmp 6))) hF hS (by kernel_rfl) (by kernel_rfl) rfl (fun W hW => x_loadG hs (m6_d.kq hW (by omega)) rfl) (by kernel_rfl) (by decide) fun a hF => ?_
    refine d_valg 9 18 16 (j := 7) (want := true) (op := (Go.Op.move (Go.Operand.tmp 1))) hF hS (by kernel_rfl) (by kernel_rfl) rfl (fun W hW => x_move rfl) (by kernel_rfl) (by decide) fun a hF => ?_
    refine d_valg 10 19 16 (j := 7) (want := true) (op := (Go.Op.move (Go.Operand.tmp 3))) hF hS (by kernel_rfl) (by kernel_rfl) rfl (fun W hW => x_move rfl) (by kernel_rfl) (by decide) fun a hF => ?_
    refine d_valg 12 21 16 (j := 7) (want := true) (op := (Go.Op.load 26 (Go.Operand.tmp 6))) hF hS (by kernel_rfl) (by kernel_rfl) rfl (fun W hW => x_loadG hs (m6_d.kq hW (by omega)) rfl) (by kernel_rfl) (by decide) fun a hF => ?_
    refine d_valg 13 22 16 (j := 7) (want := true) (op := (Go.Op.move (Go.Operand.tmp 1))) hF hS (by kernel_rfl) (by kernel_rfl) rfl (fun W hW => x_move rfl) (by kernel_rfl) (by decide) fun a hF => ?_
    refine d_valg 14 23 16 (j := 7) (want := true) (op := (Go.Op.move (Go.Operand.tmp 3))) hF hS (by kernel_rfl) (by kernel_rfl) rfl (fun W hW => x_move rfl) (by kernel_rfl) (by decide) fun a hF => ?_
    refine d_oneg 11 16 (some 20) (Go.Op.call (Go.Call.mk (Go.Callee.value (Go.Operand.func 9)) #[(Go.Operand.tmp 17), (Go.Operand.tmp 18), (Go.Operand.tmp 19)] #[26, 22, 3])) (j := 7) (want := true) hF (by kernel_rfl) (by kernel_rfl) (by kernel_rfl) rfl fun ty pos af => ?_
    refine s_callB [sigv s, .slice av bs.length cv, .int .i64 n] hF (enters_of Tryd.func9 (by kernel_rfl) rfl) rfl (by decide) (valid9 s hs _ bs _ n w24 (hR.below hB) (by omega) (hT.old hB)) fun w26 a B27 hF => ?_
    have sB27 := B27.size
    have hB := hB.trans (B27.mono hB.size)
    have m6 := m6.old B27
    have hS := hS.below B27
    refine s_end ⟨hS, ?_⟩
    refine d_oneg 15 16 (some 24) (Go.Op.call (Go.Call.mk (Go.Callee.value (Go.Operand.func 10)) #[(Go.Operand.tmp 21), (Go.Operand.tmp 22), (Go.Operand.tmp 23)] #[26, 22, 3])) (j := 7) (want := true) hF (by kernel_rfl) (by kernel_rfl) (by kernel_rfl) rfl fun ty pos af => ?_
    refine s_callB [sigv s, .slice av bs.length cv, .int .i64 n] hF (enters_of Tryd.func10 (by kernel_rfl) rfl) rfl (by decide) (rvalid10 s hs _ bs _ n w26 (hR.below hB) hlen) fun w28 a B29 hF => ?_
    have sB29 := B29.size
    have hB := hB.trans (B29.mono hB.size)
    have m6 := m6.old B29
    have hS := hS.below B29
    refine s_end ⟨hS, ?_⟩
    refine d_valg 16 25 16 (j := 7) (want := true) (op := (Go.Op.binOp Go.BinOp.eql 4 (Go.Operand.tmp 20) (Go.Operand.tmp 24) 4)) hF hS (by kernel_rfl) (by kernel_rfl) rfl (fun W hW => x_eqB (b := true) Tryd.underlying4 (beq_self_eq_true _) rfl rfl) (by kernel_rfl) (by decide) fun a hF => ?_
    refine d_val 17 26 (op := (Go.Op.pick (Go.Operand.tmp 16) (Go.Operand.tmp 25) (Go.Operand.const (Go.Value.bool false)))) hF hS (by kernel_rfl) (fun W hW => x_pick rfl rfl) (by kernel_rfl) (by decide) fun a hF => ?_
    refine d_val 18 27 (op := (Go.Op.move (Go.Operand.tmp 26))) hF hS (by kernel_rfl) (fun W hW => x_move rfl) (by kernel_rfl) (by decide) fun a hF => ?_
    refine d_valg 19 28 27 (j := 18) (want := true) (op := (Go.Op.move (Go.Operand.tmp 0))) hF hS (by kernel_rfl) (by kernel_rfl) rfl (fun W hW => x_move rfl) (by kernel_rfl) (by decide) fun a hF => ?_
    refine d_valg 20 29 27 (j := 18) (want := true) (op := (Go.Op.move (Go.Operand.tmp 1))) hF hS (by kernel_rfl) (by kernel_rfl) rfl (fun W hW => x_move rfl) (by kernel_rfl) (by decide) fun a hF => ?_
    refine d_valg 22 31 27 (j := 18) (want := true) (op := (Go.Op.move (Go.Operand.tmp 1))) hF hS (by kernel_rfl) (by kernel_rfl) rfl (fun W hW => x_move rfl) (by kernel_rfl) (by decide) fun a hF => ?_
    refine d_valg 23 32 27 (j := 18) (want := true) (op := (Go.Op.move (Go.Operand.tmp 3))) hF hS (by kernel_rfl) (by kernel_rfl) rfl (fun W hW => x_move rfl) (by kernel_rfl) (by decide) fun a hF => ?_
    refine d_valg 25 34 27 (j := 18) (want := true) (op := (Go.Op.move (Go.Operand.tmp 0))) hF hS (by kernel_rfl) (by kernel_rfl) rfl (fun W hW => x_move rfl) (by kernel_rfl) (by decide) fun a hF => ?_
    refine d_valg 26 35 27 (j := 18) (want := true) (op := (Go.Op.binOp Go.BinOp.geq 3 (Go.Operand.tmp 34) (Go.Operand.const (Go.Value.int Go.IntKind.i64 0)) 3)) hF hS (by kernel_rfl) (by kernel_rfl) rfl (fun W hW => x_geq (b := true) (decide_eq_true (by omega)) rfl rfl) (by kernel_rfl) (by decide) fun a hF => ?_
    refine d_oneg 21 27 (some 30) (Go.Op.call (Go.Call.mk (Go.Callee.value (Go.Operand.func 7)) #[(Go.Operand.tmp 28), (Go.Operand.tmp 29)] #[3, 22])) (j := 18) (want := true) hF (by kernel_rfl) (by kernel_rfl) (by kernel_rfl) rfl fun ty pos af => ?_
    refine s_callB [.int .i64 k, .slice av bs.length cv] hF (enters_of Tryd.func7 (by kernel_rfl) rfl) rfl (by decide) (sign7 k _ bs _ w28 (hR.below hB) (by omega) (hT.old hB)) fun w30 a B31 hF => ?_
    have sB31 := B31.size
    have hB := hB.trans (B31.mono hB.size)
    have m6 := m6.old B31
    have hS := hS.below B31
    refine s_end ⟨hS, ?_⟩
    refine d_oneg 24 27 (some 33) (Go.Op.call (Go.Call.mk (Go.Callee.value (Go.Operand.func 9)) #[(Go.Operand.tmp 30), (Go.Operand.tmp 31), (Go.Operand.tmp 32)] #[26, 22, 3])) (j := 18) (want := true) hF (by kernel_rfl) (by kernel_rfl) (by kernel_rfl) rfl fun ty pos af => ?_
    refine s_callB [sigv (signS k bs), .slice av bs.length cv, .int .i64 n] hF (enters_of Tryd.func9 (by kernel_rfl) rfl) rfl (by decide) (valid9 _ (signS_good _ _) _ bs _ n w30 (hR.below hB) (by omega) (hT.old hB)) fun w32 a B33 hF => ?_
    have sB33 := B33.size
    have hB := hB.trans (B33.mono hB.size)
    have m6 := m6.old B33
    have hS := hS.below B33
    refine s_end ⟨hS, ?_⟩
    refine d_valg 27 36 27 (j := 18) (want := true) (op := (Go.Op.move (Go.Operand.tmp 35))) hF hS (by kernel_rfl) (by kernel_rfl) rfl (fun W hW => x_move rfl) (by kernel_rfl) (by decide) fun a hF => ?_
    refine d_valg 28 37 36 (j := 27) (want := true) (op := (Go.Op.move (Go.Operand.tmp 0))) hF hS (by kernel_rfl) (by kernel_rfl) rfl (fun W hW => x_move rfl) (by kernel_rfl) (by decide) fun a hF => ?_
    refine d_valg 29 38 36 (j := 27) (want := true) (op := (Go.Op.move (Go.Operand.tmp 3))) hF hS (by kernel_rfl) (by kernel_rfl) rfl (fun W hW => x_move rfl) (by kernel_rfl) (by decide) fun a hF => ?_
    refine d_valg 30 39 36 (j := 27) (want := true) (op := (Go.Op.binOp Go.BinOp.lss 3 (Go.Operand.tmp 37) (Go.Operand.tmp 38) 3)) hF hS (by kernel_rfl) (by kernel_rfl) rfl (fun W hW => x_lss rfl rfl rfl) (by kernel_rfl) (by decide) fun a hF => ?_
    refine d_valg 31 40 27 (j := 18) (want := true) (op := (Go.Op.pick (Go.Operand.tmp 36) (Go.Operand.tmp 39) (Go.Operand.const (Go.Value.bool false)))) hF hS (by kernel_rfl) (by kernel_rfl) rfl (fun W hW => x_pick rfl rfl) (by kernel_rfl) (by decide) fun a hF => ?_
    refine d_valg 32 41 27 (j := 18) (want := true) (op := (Go.Op.binOp Go.BinOp.eql 4 (Go.Operand.tmp 33) (Go.Operand.tmp 40) 4)) hF hS (by kernel_rfl) (by kernel_rfl) rfl (fun W hW => x_eqB (b := true) Tryd.underlying4 (val_yes k n bs hk) rfl rfl) (by kernel_rfl) (by decide) fun a hF => ?_
    refine d_val 33 42 (op := (Go.Op.pick (Go.Operand.tmp 27) (Go.Operand.tmp 41) (Go.Operand.const (Go.Value.bool false)))) hF hS (by kernel_rfl) (fun W hW => x_pick rfl rfl) (by kernel_rfl) (by decide) fun a hF => ?_
    refine d_val 34 43 (op := (Go.Op.move (Go.Operand.tmp 42))) hF hS (by kernel_rfl) (fun W hW => x_move rfl) (by kernel_rfl) (by decide) fun a hF => ?_
    refine d_oneg 35 43 (some 44) (Go.Op.call (Go.Call.mk (Go.Callee.value (Go.Operand.func 11)) #[] #[])) (j := 34) (want := true) hF (by kernel_rfl) (by kernel_rfl) (by kernel_rfl) rfl fun ty pos af => ?_
    refine s_callB [] hF (enters_of Tryd.func11 (by kernel_rfl) rfl) rfl (by decide) (awake11 w32 (hT.old hB)) fun w34 a B35 hF => ?_
    have sB35 := B35.size
    have hB := hB.trans (B35.mono hB.size)
    have m6 := m6.old B35
    have hS := hS.below B35
    refine s_end ⟨hS, ?_⟩
    refine d_val 36 45 (op := (Go.Op.pick (Go.Operand.tmp 43) (Go.Operand.tmp 44) (Go.Operand.const (Go.Value.bool false)))) hF hS (by kernel_rfl) (fun W hW => x_pick rfl rfl) (by kernel_rfl) (by decide) fun a hF => ?_
    refine d_val 37 8 (op := (Go.Op.assign (Go.Operand.tmp 45))) hF hS (by kernel_rfl) (fun W hW => x_assign rfl) (by kernel_rfl) (by decide) fun a hF => ?_
    refine d_end (by kernel_rfl) (hK4 _ _ ?_)
    refine wp_ret (res_slot hF rfl rfl ⟨rfl, hB⟩)

set_option maxRecDepth 100000 in
set_option maxHeartbeats 1600000 in
theorem sigNil_walk (s : Sg) (hs : goodS s) (v : Value) (w0 : World) (hT : Tab w0) : Calls Tryd.prog 5 #[sigv s, v] w0 fun e w' => e = .returned (.bool true) ∧ Below w0.heap.size w0 w' := by
  have hB := Below.refl w0.heap.size w0
  have sB := hB.size
  refine calls_fs 32 [(0, sigv s), (1, v)] Tryd.func5 rfl rfl rfl rfl rfl fun a hF => ?_
  refine wp_rs fun K1 hK1 => ?_
  refine s_box (sigL s) hF (by decide) rfl rfl fun w2 b2 a eb2 m2 B3 zb2 hF => ?_
  have sB3 := B3.size
  have hB := hB.trans (B3.mono hB.size)
  refine s_val hF (x_assign rfl) (by decide) fun a hF => ?_
  refine s_end (hK1 _ _ ?_)
  refine wp_rs fun K2 hK2 => ?_
  refine s_val hF (x_assign rfl) (by decide) fun a hF => ?_
  refine s_end (hK2 _ _ ?_)
  refine wp_rs fun K3 hK3 => ?_
  refine s_val hF (x_move rfl) (by decide) fun a hF => ?_
  refine s_val hF (x_loadG hs m2 rfl) (by decide) fun a hF => ?_
  refine s_callB [.pointer none, sigv s] hF (enters_of Tryd.func13 (by kernel_rfl) rfl) rfl (by decide) (issue13n s hs w2) fun w4 a B5 hF => ?_
  have sB5 := B5.size
  have hB := hB.trans (B5.mono hB.size)
  have m2 := m2.old B5
  refine s_val hF (x_not rfl) (by decide) fun a hF => ?_
  refine s_val hF (x_move rfl) (by decide) fun a hF => ?_
  refine s_grd 10 hF rfl rfl rfl ?_
  refine s_val hF (x_move rfl) (by decide) fun a hF => ?_
  refine s_grd 10 hF rfl rfl rfl ?_
  refine s_val hF (x_loadG hs m2 rfl) (by decide) fun a hF => ?_
  refine s_grd 10 hF rfl rfl rfl ?_
  refine s_callB [.pointer none, sigv s] hF (enters_of Tryd.func14 (by kernel_rfl) rfl) rfl (by decide) (issued14n s w4) fun w6 a B7 hF => ?_
  have sB7 := B7.size
  have hB := hB.trans (B7.mono hB.size)
  have m2 := m2.old B7
  refine s_grd 10 hF rfl rfl rfl ?_
  refine s_val hF (x_not rfl) (by decide) fun a hF => ?_
  refine s_val hF (x_pick rfl rfl) (by decide) fun a hF => ?_
  refine s_val hF (x_move rfl) (by decide) fun a hF => ?_
  refine s_grd 16 hF rfl rfl rfl ?_
  refine s_val hF (x_move rfl) (by decide) fun a hF => ?_
  refine s_grd 16 hF rfl rfl rfl ?_
  refine s_callB [.pointer none] hF (enters_of Tryd.func15 (by kernel_rfl) rfl) rfl (by decide) (len15n w6) fun w8 a B9 hF => ?_
  have sB9 := B9.size
  have hB := hB.trans (B9.mono hB.size)
  have m2 := m2.old B9
  refine s_grd 16 hF rfl rfl rfl ?_
  refine s_val hF (x_eql (b := true) (decide_eq_true rfl) rfl rfl) (by decide) fun a hF => ?_
  refine s_val hF (x_pick rfl rfl) (by decide) fun a hF => ?_
  refine s_val hF (x_move rfl) (by decide) fun a hF => ?_
  refine s_grd 21 hF rfl rfl rfl ?_
  refine s_val hF (x_move rfl) (by decide) fun a hF => ?_
  refine s_grd 21 hF rfl rfl rfl ?_
  refine s_val hF (x_loadG hs m2 rfl) (by decide) fun a hF => ?_
  refine s_grd 21 hF rfl rfl rfl ?_
  refine s_litG [sigv s] el31 hF (by decide) rfl (lit_size hs) rfl (by decide) (by decide) fun w10 bl a ebl ml B11 zbl hF => ?_
  have sB11 := B11.size
  have hB := hB.trans (B11.mono hB.size)
  have m2 := m2.old B11
  rw [lit_cells] at ml
  refine s_grd 21 hF rfl rfl rfl ?_
  refine s_val hF (x_move rfl) (by decide) fun a hF => ?_
  refine s_grd 21 hF rfl rfl rfl ?_
  refine s_callB [.pointer none, .slice (some ⟨bl, 0, none⟩) 1 1, v] hF (enters_of Tryd.func16 (by kernel_rfl) rfl) rfl (by decide) (der16n _ _ w10) fun w12 a B13 hF => ?_
  have sB13 := B13.size
  have hB := hB.trans (B13.mono hB.size)
  have m2 := m2.old B13
  have ml := ml.old B13
  refine s_grd 21 hF rfl rfl rfl ?_
  refine s_val hF (x_not rfl) (by decide) fun a hF => ?_
  refine s_val hF (x_pick rfl rfl) (by decide) fun a hF => ?_
  refine s_val hF (x_move rfl) (by decide) fun a hF => ?_
  refine s_grd 29 hF rfl rfl rfl ?_
  refine s_callB [] hF (enters_of Tryd.func11 (by kernel_rfl) rfl) rfl (by decide) (awake11 w12 (hT.old hB)) fun w14 a B15 hF => ?_
  have sB15 := B15.size
  have hB := hB.trans (B15.mono hB.size)
  have m2 := m2.old B15
  have ml := ml.old B15
  refine s_val hF (x_pick rfl rfl) (by decide) fun a hF => ?_
  refine s_val hF (x_assign rfl) (by decide) fun a hF => ?_
  refine s_end (hK3 _ _ ?_)
  refine wp_ret (res_slot hF rfl rfl ⟨rfl, hB⟩)

theorem LG.ne26 {w : World} {g c : Nat} {m : Option Nat} {ss : List Sg} {cs : List Value} (hL : LG w g m ss) (hB : Blk w c 26 cs) : c ≠ g ∧ m ≠ some c := by
  refine ⟨?_, ?_⟩
  · rintro rfl
    have := hL.1
    unfold Blk at this hB
    rw [this] at hB
    simp at hB
  · rintro rfl
    rcases hL.2 with ⟨h, _⟩ | ⟨b, h, hM⟩
    · cases h
    · cases h
      exact hM.ne hB rfl
theorem LG.own_ne {w : World} {g base n : Nat} {m : Option Nat} {ss : List Sg} {v : Value} {xs : List Value} (hL : LG w g m ss) (hO : w.ownsRow base 26 33 v n xs) {j : Nat} (hj : v.ownBlock = some j) : j ≠ g ∧ m ≠ some j := by
  rcases hO.2 with ⟨rfl, h0⟩ | ⟨q, cap, cur, rfl, hg, hb, _⟩
  · cases hj
  · cases hj
    have hb' : Blk w q 26 cur.toList := by unfold Blk; simpa using hb
    exact hL.ne26 hb'
theorem LG.lt {w : World} {g : Nat} {m : Option Nat} {ss : List Sg} (hL : LG w g m ss) : g < w.heap.size := hL.1.lt
theorem KL.blk26 {w w' : World} {g c : Nat} {m : Option Nat} {ss : List Sg} {cs : List Value} (hK : KL g m w w') (hL : LG w g m ss) (hB : Blk w c 26 cs) : Blk w' c 26 cs := hK.blk hB (hL.ne26 hB).1 (hL.ne26 hB).2
theorem KL.own {w w' : World} {g base n : Nat} {m : Option Nat} {ss : List Sg} {v : Value} {xs : List Value} (hK : KL g m w w') (hL : LG w g m ss) (hO : w.ownsRow base 26 33 v n xs) : w'.ownsRow base 26 33 v n xs :=
  own_keep hO fun j hj => hK.block j (hO.lt j hj).2 (hL.own_ne hO hj).1 (hL.own_ne hO hj).2
theorem LG.grown {w w' : World} {g base n : Nat} {m : Option Nat} {ss : List Sg} {v : Value} {xs : List Value} (hL : LG w g m ss) (hO : w.ownsRow base 26 33 v n xs) (G : w.grownBy w' v.ownBlock) : LG w' g m ss :=
  hL.keep (G.block g hL.lt (fun e => (hL.own_ne hO e.symm).1 rfl)) fun b hb hlt => G.block b hlt (fun e => (hL.own_ne hO e.symm).2 hb)
/-- The ledger's map is as young as the base. -/
def Yg (B : Nat) (m : Option Nat) : Prop := ∀ b, m = some b → B ≤ b
theorem issued14b (g : Nat) (m : Option Nat) (ss : List Sg) (s : Sg) (c : Bool) (hs : goodS s) (w0 : World) (hL : LG w0 g m ss) (hc : decide (s ∈ ss) = c) : Calls Tryd.prog 14 #[.pointer (some ⟨g, 0, none⟩), sigv s] w0 fun e w' => e = .returned (.bool c) ∧ Below w0.heap.size w0 w' := by
  subst hc
  exact issued14 g m ss s hs w0 hL
theorem der16b (g : Nat) (m : Option Nat) (ss ts : List Sg) (zs : List Int) (v1 v2 : Value) (c : Bool) (w0 : World) (hL : LG w0 g m ss) (hR1 : RG w0 v1 ts) (hR2 : RI w0 v2 zs) (hn1 : ts.length ≤ 9223372036854775807) (hn2 : zs.length ≤ 9223372036854775807) (hc : der ss zs ts = c) : Calls Tryd.prog 16 #[.pointer (some ⟨g, 0, none⟩), v1, v2] w0 fun e w' => e = .returned (.bool c) ∧ Below w0.heap.size w0 w' := by
  subst hc
  exact der16 g m ss ts zs v1 v2 w0 hL hR1 hR2 hn1 hn2
/-- Issue of one that is new. -/
theorem issue13y (B : Nat) (g : Nat) (m : Option Nat) (ss : List Sg) (s : Sg) (hs : goodS s) (w0 : World) (hL : LG w0 g m ss) (hm : Yg B m) (hB : B ≤ w0.heap.size) (hn : s ∉ ss) : Calls Tryd.prog 13 #[.pointer (some ⟨g, 0, none⟩), sigv s] w0 fun e w' => ∃ v, e = .returned v ∧ v = .bool true ∧ KL g m w0 w' ∧ ∃ m', LG w' g m' (ss ++ [s]) ∧ Yg B m' := by
  refine (issue13 g m ss s hs w0 hL).mono fun e w' h => ?_
  obtain ⟨v, h1, h2, h3, m', h4, h5⟩ := h
  refine ⟨v, h1, by rw [h2, decide_eq_false hn]; rfl, h3, m', by rwa [if_neg hn] at h4, ?_⟩
  rcases h5 with rfl | ⟨b, rfl, hb⟩
  · exact hm
  · intro c hc; cases hc; omega
/-- Of one that is there. -/
theorem issue13t (B : Nat) (g : Nat) (m : Option Nat) (ss : List Sg) (s : Sg) (hs : goodS s) (w0 : World) (hL : LG w0 g m ss) (hm : Yg B m) (hB : B ≤ w0.heap.size) (hn : s ∈ ss) : Calls Tryd.prog 13 #[.pointer (some ⟨g, 0, none⟩), sigv s] w0 fun e w' => ∃ v, e = .returned v ∧ v = .bool false ∧ KL g m w0 w' ∧ ∃ m', LG w' g m' ss ∧ Yg B m' := by
  refine (issue13 g m ss s hs w0 hL).mono fun e w' h => ?_
  obtain ⟨v, h1, h2, h3, m', h4, h5⟩ := h
  refine ⟨v, h1, by rw [h2, decide_eq_true hn]; rfl, h3, m', by rwa [if_pos hn] at h4, ?_⟩
  rcases h5 with rfl | ⟨b, rfl, hb⟩
  · exact hm
  · intro c hc; cases hc; omega
/-- Of any. -/
theorem issue13a (B : Nat) (g : Nat) (m : Option Nat) (ss : List Sg) (s : Sg) (hs : goodS s) (w0 : World) (hL : LG w0 g m ss) (hm : Yg B m) (hB : B ≤ w0.heap.size) : Calls Tryd.prog 13 #[.pointer (some ⟨g, 0, none⟩), sigv s] w0 fun e w' => ∃ v, e = .returned v ∧ KL g m w0 w' ∧ ∃ m' ss', LG w' g m' ss' ∧ Yg B m' ∧ ∀ t, t ∈ ss' ↔ t ∈ ss ∨ t = s := by
  by_cases hn : s ∈ ss
  · refine (issue13t B g m ss s hs w0 hL hm hB hn).mono fun e w' ⟨v, h1, h2, h3, m', h4, h5⟩ => ⟨v, h1, h3, m', ss, h4, h5, fun t => ⟨.inl, fun h => h.elim id fun e => e ▸ hn⟩⟩
  · refine (issue13y B g m ss s hs w0 hL hm hB hn).mono fun e w' ⟨v, h1, h2, h3, m', h4, h5⟩ => ⟨v, h1, h3, m', ss ++ [s], h4, h5, fun t => by simp⟩
theorem three (i n : Nat) : (i < n ∧ i < 50) ∨ (i < n ∧ 50 ≤ i) ∨ n ≤ i := by omega
theorem der_all {ss ts : List Sg} (h : ∀ t ∈ ts, t ∈ ss) (zs : List Int) : der ss zs ts = true := by
  unfold der
  rw [List.all_eq_true]
  intro t ht
  simp [h t ht]
theorem der_own (ss : List Sg) (s : Sg) : der ss [s.1] [s] = true := by simp [der]
theorem der_key {ss : List Sg} {s : Sg} {k : Int} {th : Bool} (h : th = decide (s ∈ ss)) : der ss [k] [s] = (th || decide (k = s.1)) := by
  subst h
  simp [der, Bool.or_comm, eq_comm]

theorem th_step {s x : Sg} {ts ts' : List Sg} {th : Bool} (h : th = decide (s ∈ ts)) (e : ts' = ts ++ [x]) : (bif th then true else decide (x = s)) = decide (s ∈ ts') := by
  subst e
  subst h
  by_cases h1 : s ∈ ts
  · simp [h1]
  · by_cases h2 : x = s
    · simp [h2]
    · simp [h1, h2, Ne.symm h2]

set_option maxRecDepth 100000 in
set_option maxHeartbeats 1600000 in
theorem sigGrows_walk (ls : List Sg) (v : Value) (s : Sg) (hs : goodS s) (k : Int) (w0 : World) (hR : RG w0 v ls) (hn : ls.length ≤ 9223372036854775807) (hT : Tab w0) : Calls Tryd.prog 6 #[v, sigv s, .int .i64 k] w0 fun e w' => e = .returned (.bool true) ∧ Below w0.heap.size w0 w' := by
  have hB := Below.refl w0.heap.size w0
  have sB := hB.size
  obtain ⟨av, cv, rfl, hcv⟩ := hR.form
  refine calls_fs 97 [(0, .slice av ls.length cv), (1, sigv s), (2, .int .i64 k)] Tryd.func6 rfl rfl rfl rfl rfl fun a hF => ?_
  refine wp_rs fun K1 hK1 => ?_
  refine s_box (sigL s) hF (by decide) rfl rfl fun w2 b4 a eb4 m4 B3 zb4 hF => ?_
  have sB3 := B3.size
  have hB := hB.trans (B3.mono hB.size)
  refine s_val hF (x_assign rfl) (by decide) fun a hF => ?_
  refine s_end (hK1 _ _ ?_)
  refine wp_rs fun K2 hK2 => ?_
  refine s_callR (R := fun v w' => ∃ g, v = .pointer (some ⟨g, 0, none⟩) ∧ g = w2.heap.size ∧ Blk w' g 52 [.map none]) [] hF (enters_of Tryd.func12 (by kernel_rfl) rfl) rfl (by decide) (new12 w2) ?_
  rintro _ w4 a ⟨g, rfl, eg, mg⟩ B5 hF
  have sB5 := B5.size
  have hB := hB.trans (B5.mono hB.size)
  have m4 := m4.old B5
  have hg0 : w0.heap.size ≤ g := by have := hB.size; omega
  have hL : LG w4 g none [] := ⟨mg, .inl ⟨rfl, rfl⟩⟩
  have hY : Yg w0.heap.size none := fun b hb => by cases hb
  refine s_val hF (x_assign rfl) (by decide) fun a hF => ?_
  refine s_end (hK2 _ _ ?_)
  refine wp_rs fun K3 hK3 => ?_
  refine s_val hF (x_assign rfl) (by decide) fun a hF => ?_
  refine s_end (hK3 _ _ ?_)
  refine wp_seq_k fun K4 hK4 => ?_
  have key4 : ∀ a w m ss th i, LG w g m ss → (∀ t, t ∈ ss ↔ t ∈ ls.take i) → th = decide (s ∈ ls.take i) → (ls.length ≤ i ∨ 50 ≤ i) → Blk w b4 26 (sigL s) → Below w0.heap.size w0 w → Fs 97 a [(8, .bool th), (7, .pointer (some ⟨g, 0, none⟩)), (4, .pointer (some ⟨b4, 0, none⟩)), (2, .int .i64 k)] → K4 a w := by
    rintro a w m ss th i hL hss hth hie m4 hB hF
    have sB := hB.size
    have hiff : decide (s ∈ ls.take i) = decide (s ∈ ss) := decide_eq_decide.2 (hss s).symm
    refine hK4 _ _ ?_
    cases th
    · skip
      refine wp_rs fun K6 hK6 => ?_
      refine s_val hF (x_move rfl) (by decide) fun a hF => ?_
      refine s_val hF (x_loadG hs m4 rfl) (by decide) fun a hF => ?_
      refine s_callB [.pointer (some ⟨g, 0, none⟩), sigv s] hF (enters_of Tryd.func14 (by kernel_rfl) rfl) rfl (by decide) (issued14b g m ss s false hs w hL (by rw [← hiff]; exact hth.symm)) fun w6 a B7 hF => ?_
      have sB7 := B7.size
      have hB := hB.trans (B7.mono hB.size)
      have m4 := m4.old B7
      have hL := hL.below B7
      refine s_val hF (x_move rfl) (by decide) fun a hF => ?_
      refine s_val hF (x_eqB (b := true) Tryd.underlying4 (beq_self_eq_true _) rfl rfl) (by decide) fun a hF => ?_
      refine s_val hF (x_move rfl) (by decide) fun a hF => ?_
      refine s_grd 65 hF rfl rfl rfl ?_
      refine s_val hF (x_move rfl) (by decide) fun a hF => ?_
      refine s_grd 65 hF rfl rfl rfl ?_
      refine s_val hF (x_loadG hs m4 rfl) (by decide) fun a hF => ?_
      refine s_grd 65 hF rfl rfl rfl ?_
      refine s_litG [sigv s] el31 hF (by decide) rfl (lit_size hs) rfl (by decide) (by decide) fun w8 bl a ebl ml B9 zbl hF => ?_
      have sB9 := B9.size
      have hB := hB.trans (B9.mono hB.size)
      have m4 := m4.old B9
      have hL := hL.below B9
      rw [lit_cells] at ml
      refine s_grd 65 hF rfl rfl rfl ?_
      refine s_val hF (x_key rfl) (by decide) fun a hF => ?_
      refine s_grd 65 hF rfl rfl rfl ?_
      refine s_val hF (x_loadK m4 rfl) (by decide) fun a hF => ?_
      refine s_grd 65 hF rfl rfl rfl ?_
      refine s_litG [.int .i64 s.1] el33 hF (by decide) rfl (by simp [Value.cells]) rfl (by decide) (by decide) fun w10 bz a ebz mz B11 zbz hF => ?_
      have sB11 := B11.size
      have hB := hB.trans (B11.mono hB.size)
      have m4 := m4.old B11
      have hL := hL.below B11
      have ml := ml.old B11
      refine s_grd 65 hF rfl rfl rfl ?_
      refine s_callB [.pointer (some ⟨g, 0, none⟩), _, _] hF (enters_of Tryd.func16 (by kernel_rfl) rfl) rfl (by decide) (der16b g m ss [s] [s.1] _ _ true w10 hL (RG.one hs ml) (RI.one mz) (by simp) (by simp) (der_own ss s)) fun w12 a B13 hF => ?_
      have sB13 := B13.size
      have hB := hB.trans (B13.mono hB.size)
      have m4 := m4.old B13
      have hL := hL.below B13
      have ml := ml.old B13
      have mz := mz.old B13
      refine s_val hF (x_pick rfl rfl) (by decide) fun a hF => ?_
      refine s_val hF (x_move rfl) (by decide) fun a hF => ?_
      refine s_grd 74 hF rfl rfl rfl ?_
      refine s_val hF (x_move rfl) (by decide) fun a hF => ?_
      refine s_grd 74 hF rfl rfl rfl ?_
      refine s_val hF (x_loadG hs m4 rfl) (by decide) fun a hF => ?_
      refine s_grd 74 hF rfl rfl rfl ?_
      refine s_litG [sigv s] el31 hF (by decide) rfl (lit_size hs) rfl (by decide) (by decide) fun w14 bl2 a ebl2 ml2 B15 zbl2 hF => ?_
      have sB15 := B15.size
      have hB := hB.trans (B15.mono hB.size)
      have m4 := m4.old B15
      have hL := hL.below B15
      have ml := ml.old B15
      have mz := mz.old B15
      rw [lit_cells] at ml2
      refine s_grd 74 hF rfl rfl rfl ?_
      refine s_val hF (x_move rfl) (by decide) fun a hF => ?_
      refine s_grd 74 hF rfl rfl rfl ?_
      refine s_litG [.int .i64 k] el33 hF (by decide) rfl (by simp [Value.cells]) rfl (by decide) (by decide) fun w16 bz2 a ebz2 mz2 B17 zbz2 hF => ?_
      have sB17 := B17.size
      have hB := hB.trans (B17.mono hB.size)
      have m4 := m4.old B17
      have hL := hL.below B17
      have ml := ml.old B17
      have mz := mz.old B17
      have ml2 := ml2.old B17
      refine s_grd 74 hF rfl rfl rfl ?_
      refine s_callB [.pointer (some ⟨g, 0, none⟩), _, _] hF (enters_of Tryd.func16 (by kernel_rfl) rfl) rfl (by decide) (der16b g m ss [s] [k] _ _ (false || decide (k = s.1)) w16 hL (RG.one hs ml2) (RI.one mz2) (by simp) (by simp) (der_key (by rw [hth]; exact hiff))) fun w18 a B19 hF => ?_
      have sB19 := B19.size
      have hB := hB.trans (B19.mono hB.size)
      have m4 := m4.old B19
      have hL := hL.below B19
      have ml := ml.old B19
      have mz := mz.old B19
      have ml2 := ml2.old B19
      have mz2 := mz2.old B19
      refine s_grd 74 hF rfl rfl rfl ?_
      refine s_val hF (x_move rfl) (by decide) fun a hF => ?_
      refine s_grd 74 hF rfl rfl rfl ?_
      refine s_val hF (x_move rfl) (by decide) fun a hF => ?_
      refine s_grd 82 hF rfl rfl rfl ?_
      refine s_val hF (x_move rfl) (by decide) fun a hF => ?_
      refine s_grd 82 hF rfl rfl rfl ?_
      refine s_val hF (x_key rfl) (by decide) fun a hF => ?_
      refine s_grd 82 hF rfl rfl rfl ?_
      refine s_val hF (x_loadK m4 rfl) (by decide) fun a hF => ?_
      refine s_grd 82 hF rfl rfl rfl ?_
      refine s_val hF (x_eql rfl rfl rfl) (by decide) fun a hF => ?_
      refine s_grd 74 hF rfl rfl rfl ?_
      refine s_val hF (x_pick rfl rfl) (by decide) fun a hF => ?_
      refine s_grd 74 hF rfl rfl rfl ?_
      refine s_val hF (x_eqB (b := true) Tryd.underlying4 (by simp) rfl rfl) (by decide) fun a hF => ?_
      refine s_val hF (x_pick rfl rfl) (by decide) fun a hF => ?_
      refine s_val hF (x_move rfl) (by decide) fun a hF => ?_
      refine s_grd 90 hF rfl rfl rfl ?_
      refine s_val hF (x_move rfl) (by decide) fun a hF => ?_
      refine s_grd 90 hF rfl rfl rfl ?_
      refine s_callB [.pointer (some ⟨g, 0, none⟩), _, _] hF (enters_of Tryd.func16 (by kernel_rfl) rfl) rfl (by decide) (der16b g m ss [] [] _ _ true w18 hL (RG.nil _) (RI.nil _) (by decide) (by decide) rfl) fun w20 a B21 hF => ?_
      have sB21 := B21.size
      have hB := hB.trans (B21.mono hB.size)
      have m4 := m4.old B21
      have hL := hL.below B21
      have ml := ml.old B21
      have mz := mz.old B21
      have ml2 := ml2.old B21
      have mz2 := mz2.old B21
      refine s_val hF (x_pick rfl rfl) (by decide) fun a hF => ?_
      refine s_val hF (x_move rfl) (by decide) fun a hF => ?_
      refine s_grd 94 hF rfl rfl rfl ?_
      refine s_callB [] hF (enters_of Tryd.func11 (by kernel_rfl) rfl) rfl (by decide) (awake11 w20 (hT.old hB)) fun w22 a B23 hF => ?_
      have sB23 := B23.size
      have hB := hB.trans (B23.mono hB.size)
      have m4 := m4.old B23
      have hL := hL.below B23
      have ml := ml.old B23
      have mz := mz.old B23
      have ml2 := ml2.old B23
      have mz2 := mz2.old B23
      refine s_val hF (x_pick rfl rfl) (by decide) fun a hF => ?_
      refine s_val hF (x_assign rfl) (by decide) fun a hF => ?_
      refine s_end (hK6 _ _ ?_)
      refine wp_ret (res_slot hF rfl rfl ⟨rfl, hB⟩)
    · skip
      refine wp_rs fun K7 hK7 => ?_
      refine s_val hF (x_move rfl) (by decide) fun a hF => ?_
      refine s_val hF (x_loadG hs m4 rfl) (by decide) fun a hF => ?_
      refine s_callB [.pointer (some ⟨g, 0, none⟩), sigv s] hF (enters_of Tryd.func14 (by kernel_rfl) rfl) rfl (by decide) (issued14b g m ss s true hs w hL (by rw [← hiff]; exact hth.symm)) fun w24 a B25 hF => ?_
      have sB25 := B25.size
      have hB := hB.trans (B25.mono hB.size)
      have m4 := m4.old B25
      have hL := hL.below B25
      refine s_val hF (x_move rfl) (by decide) fun a hF => ?_
      refine s_val hF (x_eqB (b := true) Tryd.underlying4 (beq_self_eq_true _) rfl rfl) (by decide) fun a hF => ?_
      refine s_val hF (x_move rfl) (by decide) fun a hF => ?_
      refine s_grd 65 hF rfl rfl rfl ?_
      refine s_val hF (x_move rfl) (by decide) fun a hF => ?_
      refine s_grd 65 hF rfl rfl rfl ?_
      refine s_val hF (x_loadG hs m4 rfl) (by decide) fun a hF => ?_
      refine s_grd 65 hF rfl rfl rfl ?_
      refine s_litG [sigv s] el31 hF (by decide) rfl (lit_size hs) rfl (by decide) (by decide) fun w26 bl a ebl ml B27 zbl hF => ?_
      have sB27 := B27.size
      have hB := hB.trans (B27.mono hB.size)
      have m4 := m4.old B27
      have hL := hL.below B27
      rw [lit_cells] at ml
      refine s_grd 65 hF rfl rfl rfl ?_
      refine s_val hF (x_key rfl) (by decide) fun a hF => ?_
      refine s_grd 65 hF rfl rfl rfl ?_
      refine s_val hF (x_loadK m4 rfl) (by decide) fun a hF => ?_
      refine s_grd 65 hF rfl rfl rfl ?_
      refine s_litG [.int .i64 s.1] el33 hF (by decide) rfl (by simp [Value.cells]) rfl (by decide) (by decide) fun w28 bz a ebz mz B29 zbz hF => ?_
      have sB29 := B29.size
      have hB := hB.trans (B29.mono hB.size)
      have m4 := m4.old B29
      have hL := hL.below B29
      have ml := ml.old B29
      refine s_grd 65 hF rfl rfl rfl ?_
      refine s_callB [.pointer (some ⟨g, 0, none⟩), _, _] hF (enters_of Tryd.func16 (by kernel_rfl) rfl) rfl (by decide) (der16b g m ss [s] [s.1] _ _ true w28 hL (RG.one hs ml) (RI.one mz) (by simp) (by simp) (der_own ss s)) fun w30 a B31 hF => ?_
      have sB31 := B31.size
      have hB := hB.trans (B31.mono hB.size)
      have m4 := m4.old B31
      have hL := hL.below B31
      have ml := ml.old B31
      have mz := mz.old B31
      refine s_val hF (x_pick rfl rfl) (by decide) fun a hF => ?_
      refine s_val hF (x_move rfl) (by decide) fun a hF => ?_
      refine s_grd 74 hF rfl rfl rfl ?_
      refine s_val hF (x_move rfl) (by decide) fun a hF => ?_
      refine s_grd 74 hF rfl rfl rfl ?_
      refine s_val hF (x_loadG hs m4 rfl) (by decide) fun a hF => ?_
      refine s_grd 74 hF rfl rfl rfl ?_
      refine s_litG [sigv s] el31 hF (by decide) rfl (lit_size hs) rfl (by decide) (by decide) fun w32 bl2 a ebl2 ml2 B33 zbl2 hF => ?_
      have sB33 := B33.size
      have hB := hB.trans (B33.mono hB.size)
      have m4 := m4.old B33
      have hL := hL.below B33
      have ml := ml.old B33
      have mz := mz.old B33
      rw [lit_cells] at ml2
      refine s_grd 74 hF rfl rfl rfl ?_
      refine s_val hF (x_move rfl) (by decide) fun a hF => ?_
      refine s_grd 74 hF rfl rfl rfl ?_
      refine s_litG [.int .i64 k] el33 hF (by decide) rfl (by simp [Value.cells]) rfl (by decide) (by decide) fun w34 bz2 a ebz2 mz2 B35 zbz2 hF => ?_
      have sB35 := B35.size
      have hB := hB.trans (B35.mono hB.size)
      have m4 := m4.old B35
      have hL := hL.below B35
      have ml := ml.old B35
      have mz := mz.old B35
      have ml2 := ml2.old B35
      refine s_grd 74 hF rfl rfl rfl ?_
      refine s_callB [.pointer (some ⟨g, 0, none⟩), _, _] hF (enters_of Tryd.func16 (by kernel_rfl) rfl) rfl (by decide) (der16b g m ss [s] [k] _ _ (true || decide (k = s.1)) w34 hL (RG.one hs ml2) (RI.one mz2) (by simp) (by simp) (der_key (by rw [hth]; exact hiff))) fun w36 a B37 hF => ?_
      have sB37 := B37.size
      have hB := hB.trans (B37.mono hB.size)
      have m4 := m4.old B37
      have hL := hL.below B37
      have ml := ml.old B37
      have mz := mz.old B37
      have ml2 := ml2.old B37
      have mz2 := mz2.old B37
      refine s_grd 74 hF rfl rfl rfl ?_
      refine s_val hF (x_move rfl) (by decide) fun a hF => ?_
      refine s_grd 74 hF rfl rfl rfl ?_
      refine s_val hF (x_move rfl) (by decide) fun a hF => ?_
      refine s_grdn 82 hF rfl rfl (by decide) fun a hF => ?_
      refine s_grdn 82 hF rfl rfl (by decide) fun a hF => ?_
      refine s_grdn 82 hF rfl rfl (by decide) fun a hF => ?_
      refine s_grdn 82 hF rfl rfl (by decide) fun a hF => ?_
      refine s_grd 74 hF rfl rfl rfl ?_
      refine s_val hF (x_pick rfl rfl) (by decide) fun a hF => ?_
      refine s_grd 74 hF rfl rfl rfl ?_
      refine s_val hF (x_eqB (b := true) Tryd.underlying4 (by simp) rfl rfl) (by decide) fun a hF => ?_
      refine s_val hF (x_pick rfl rfl) (by decide) fun a hF => ?_
      refine s_val hF (x_move rfl) (by decide) fun a hF => ?_
      refine s_grd 90 hF rfl rfl rfl ?_
      refine s_val hF (x_move rfl) (by decide) fun a hF => ?_
      refine s_grd 90 hF rfl rfl rfl ?_
      refine s_callB [.pointer (some ⟨g, 0, none⟩), _, _] hF (enters_of Tryd.func16 (by kernel_rfl) rfl) rfl (by decide) (der16b g m ss [] [] _ _ true w36 hL (RG.nil _) (RI.nil _) (by decide) (by decide) rfl) fun w38 a B39 hF => ?_
      have sB39 := B39.size
      have hB := hB.trans (B39.mono hB.size)
      have m4 := m4.old B39
      have hL := hL.below B39
      have ml := ml.old B39
      have mz := mz.old B39
      have ml2 := ml2.old B39
      have mz2 := mz2.old B39
      refine s_val hF (x_pick rfl rfl) (by decide) fun a hF => ?_
      refine s_val hF (x_move rfl) (by decide) fun a hF => ?_
      refine s_grd 94 hF rfl rfl rfl ?_
      refine s_callB [] hF (enters_of Tryd.func11 (by kernel_rfl) rfl) rfl (by decide) (awake11 w38 (hT.old hB)) fun w40 a B41 hF => ?_
      have sB41 := B41.size
      have hB := hB.trans (B41.mono hB.size)
      have m4 := m4.old B41
      have hL := hL.below B41
      have ml := ml.old B41
      have mz := mz.old B41
      have ml2 := ml2.old B41
      have mz2 := mz2.old B41
      refine s_val hF (x_pick rfl rfl) (by decide) fun a hF => ?_
      refine s_val hF (x_assign rfl) (by decide) fun a hF => ?_
      refine s_end (hK7 _ _ ?_)
      refine wp_ret (res_slot hF rfl rfl ⟨rfl, hB⟩)
  refine wp_rs fun K8 hK8 => ?_
  refine s_val hF (x_assign rfl) (by decide) fun a hF => ?_
  refine s_end (hK8 _ _ ?_)
  refine wp_block ?_
  refine wp_up ls.length (fun i a w => ∃ m ss th, LG w g m ss ∧ Yg w0.heap.size m ∧ (∀ t, t ∈ ss ↔ t ∈ ls.take i) ∧ th = decide (s ∈ ls.take i) ∧ Blk w b4 26 (sigL s) ∧ Below w0.heap.size w0 w ∧ Fs 97 a [(9, .int .i64 (i : Int)), (8, .bool th), (7, .pointer (some ⟨g, 0, none⟩)), (4, .pointer (some ⟨b4, 0, none⟩)), (2, .int .i64 k), (0, .slice av ls.length cv)]) ⟨none, [], false, hL, hY, by simp, by simp, m4, hB, hF.sub _ rfl⟩ ?_
  clear hF hB hL hY m4 mg
  rintro i a w hi ⟨m, ss, th, hL, hY, hss, hth, m4, hB, hF⟩ K' hK'
  have sB := hB.size
  refine wp_seq_k fun K9 hK9 => ?_
  rcases three i ls.length with h3 | h3 | h3
  · obtain ⟨bq, off, c, hve, _⟩ := hR.some (by omega)
    cases hve
    refine wp_rs fun K11 hK11 => ?_
    refine s_val hF (x_move rfl) (by decide) fun a hF => ?_
    refine s_val hF (x_move rfl) (by decide) fun a hF => ?_
    refine s_val hF (x_len Tryd.underlying31 rfl) (by decide) fun a hF => ?_
    refine s_val hF (x_lss (b := true) (decide_eq_true (by omega)) rfl rfl) (by decide) fun a hF => ?_
    refine s_val hF (x_move rfl) (by decide) fun a hF => ?_
    refine s_grd 15 hF rfl rfl rfl ?_
    refine s_val hF (x_move rfl) (by decide) fun a hF => ?_
    refine s_grd 15 hF rfl rfl rfl ?_
    refine s_val hF (x_lss (b := true) (decide_eq_true (by omega)) rfl rfl) (by decide) fun a hF => ?_
    refine s_val hF (x_pick rfl rfl) (by decide) fun a hF => ?_
    refine s_end (hK11 _ _ ?_)
    refine wp_if hF rfl ?_
    refine wp_skip (hK9 _ _ ?_)
    refine wp_seq_k fun K12 hK12 => ?_
    refine wp_block ?_
    refine wp_rs fun K13 hK13 => ?_
    refine s_val hF (x_move rfl) (by decide) fun a hF => ?_
    refine s_val hF (x_move rfl) (by decide) fun a hF => ?_
    refine s_val hF (x_move rfl) (by decide) fun a hF => ?_
    refine s_val hF (x_ixa rfl rfl (m_ixsK i Tryd.underlying31 el31.size rfl (by omega))) (by decide) fun a hF => ?_
    refine s_val hF ((hR.below hB).load (j := i) (by omega) rfl) (by decide) fun a hF => ?_
    have hY0 := hY
    refine s_call (R := fun v w' => KL g m w w' ∧ ∃ m' ss', LG w' g m' ss' ∧ Yg w0.heap.size m' ∧ ∀ t, t ∈ ss' ↔ t ∈ ss ∨ t = (ls.getD i z0)) hF [.pointer (some ⟨g, 0, none⟩), sigv ((ls.getD i z0))] (enters_of Tryd.func13 (by kernel_rfl) rfl) rfl (by decide) (issue13a w0.heap.size g m ss _ (hR.good (j := i) (by omega)) w hL hY (by omega)) ?_
    rintro vi w42 a ⟨KL43, m, ss, hL2, hY, hss2⟩ hF
    have sKL43 := KL43.size
    have hB := KL43.young hB hg0 hY0
    have m4 := KL43.blk26 hL m4
    have hL := hL2
    have hss : ∀ t, t ∈ ss ↔ t ∈ ls.take (i + 1) := fun t => by rw [hss2 t, hss t, take_snoc ls i z0 (by omega), List.mem_append, List.mem_singleton]
    have hin : ls.getD i z0 ∈ ss := (hss _).2 (by rw [take_snoc ls i z0 (by omega)]; simp)
    refine s_end (hK13 _ _ ?_)
    cases th
    · have hm4 := m4.lt
      refine dk_seq (w42.heap.size) (ops := regOps Tryd.f6 7) (N := 10) (by kernel_rfl) wide_orders (by kernel_rfl) fun w44 hw44 B45 hS K15 hK15 => ?_
      have zw44 : w44.heap.size = w42.heap.size := by rw [hw44]
      have sB45 := B45.size
      have hB := hB.trans (B45.mono hB.size)
      have m4 := m4.old B45
      have hL := hL.below B45
      have m4_d := m4
      have hL_d := hL
      have hB_d := hB
      refine d_val 0 27 (op := (Go.Op.move (Go.Operand.tmp 8))) hF hS (by kernel_rfl) (fun W hW => x_move rfl) (by kernel_rfl) (by decide) fun a hF => ?_
      refine d_val 1 28 (op := (Go.Op.move (Go.Operand.tmp 27))) hF hS (by kernel_rfl) (fun W hW => x_move rfl) (by kernel_rfl) (by decide) fun a hF => ?_
      refine d_valg 2 29 28 (j := 1) (want := false) (op := (Go.Op.move (Go.Operand.tmp 0))) hF hS (by kernel_rfl) (by kernel_rfl) rfl (fun W hW => x_move rfl) (by kernel_rfl) (by decide) fun a hF => ?_
      refine d_valg 3 30 28 (j := 1) (want := false) (op := (Go.Op.move (Go.Operand.tmp 9))) hF hS (by kernel_rfl) (by kernel_rfl) rfl (fun W hW => x_move rfl) (by kernel_rfl) (by decide) fun a hF => ?_
      refine d_valg 4 31 28 (j := 1) (want := false) (op := (Go.Op.indexAddr 31 (Go.Operand.tmp 29) (Go.Operand.tmp 30))) hF hS (by kernel_rfl) (by kernel_rfl) rfl (fun W hW => x_ixa rfl rfl (m_ixsK i Tryd.underlying31 el31.size rfl (by omega))) (by kernel_rfl) (by decide) fun a hF => ?_
      refine d_valg 5 32 28 (j := 1) (want := false) (op := (Go.Op.load 26 (Go.Operand.tmp 31))) hF hS (by kernel_rfl) (by kernel_rfl) rfl (fun W hW => (hR.below (hW.under hB_d (by omega))).load (j := i) (by omega) rfl) (by kernel_rfl) (by decide) fun a hF => ?_
      refine d_valg 6 33 28 (j := 1) (want := false) (op := (Go.Op.load 26 (Go.Operand.tmp 4))) hF hS (by kernel_rfl) (by kernel_rfl) rfl (fun W hW => x_loadG hs (m4_d.kq hW (by omega)) rfl) (by kernel_rfl) (by decide) fun a hF => ?_
      refine d_valg 7 34 28 (j := 1) (want := false) (op := (Go.Op.binOp Go.BinOp.eql 26 (Go.Operand.tmp 32) (Go.Operand.tmp 33) 26)) hF hS (by kernel_rfl) (by kernel_rfl) rfl (fun W hW => x_eqG (hR.good (j := i) (by omega)) hs rfl rfl rfl) (by kernel_rfl) (by decide) fun a hF => ?_
      refine d_val 8 35 (op := (Go.Op.pick (Go.Operand.tmp 28) (Go.Operand.const (Go.Value.bool true)) (Go.Operand.tmp 34))) hF hS (by kernel_rfl) (fun W hW => x_pick rfl rfl) (by kernel_rfl) (by decide) fun a hF => ?_
      refine d_val 9 8 (op := (Go.Op.assign (Go.Operand.tmp 35))) hF hS (by kernel_rfl) (fun W hW => x_assign rfl) (by kernel_rfl) (by decide) fun a hF => ?_
      refine d_end (by kernel_rfl) (hK15 _ _ ?_)
      refine wp_rs fun K16 hK16 => ?_
      refine s_val hF (x_move rfl) (by decide) fun a hF => ?_
      refine s_val hF (x_move rfl) (by decide) fun a hF => ?_
      refine s_val hF (x_move rfl) (by decide) fun a hF => ?_
      refine s_val hF (x_ixa rfl rfl (m_ixsK i Tryd.underlying31 el31.size rfl (by omega))) (by decide) fun a hF => ?_
      refine s_val hF ((hR.below hB).load (j := i) (by omega) rfl) (by decide) fun a hF => ?_
      refine s_callB [.pointer (some ⟨g, 0, none⟩), sigv (ls.getD i z0)] hF (enters_of Tryd.func14 (by kernel_rfl) rfl) rfl (by decide) (issued14b g m ss _ true (hR.good (j := i) (by omega)) w44 hL (decide_eq_true hin)) fun w46 a B47 hF => ?_
      have sB47 := B47.size
      have hB := hB.trans (B47.mono hB.size)
      have m4 := m4.old B47
      have hL := hL.below B47
      refine s_val hF (x_not rfl) (by decide) fun a hF => ?_
      refine s_val hF (x_move rfl) (by decide) fun a hF => ?_
      refine s_grd 43 hF rfl rfl rfl ?_
      refine s_val hF (x_move rfl) (by decide) fun a hF => ?_
      refine s_grd 43 hF rfl rfl rfl ?_
      refine s_val hF (x_move rfl) (by decide) fun a hF => ?_
      refine s_grd 43 hF rfl rfl rfl ?_
      refine s_val hF (x_move rfl) (by decide) fun a hF => ?_
      refine s_grd 43 hF rfl rfl rfl ?_
      refine s_val hF (x_addn (i + 1) (by omega) (by omega) rfl rfl) (by decide) fun a hF => ?_
      refine s_grd 43 hF rfl rfl rfl ?_
      refine s_val hF (x_slice (vlo := none) (vhi := some (.int .i64 ((i + 1 : Nat) : Int))) (vmx := none) rfl rfl rfl rfl (m_sliceUK (i + 1) Tryd.underlying31 el31.size rfl (by omega))) (by decide) fun a hF => ?_
      refine s_grd 43 hF rfl rfl rfl ?_
      refine s_callB [.pointer (some ⟨g, 0, none⟩), _, .slice none 0 0] hF (enters_of Tryd.func16 (by kernel_rfl) rfl) rfl (by decide) (der16b g m ss (ls.take (i + 1)) [] _ _ true w46 hL ((hR.below hB).upto (i + 1) (by omega)) (RI.nil _) (by rw [List.length_take]; omega) (by decide) (der_all (fun t ht => (hss t).2 ht) [])) fun w48 a B49 hF => ?_
      have sB49 := B49.size
      have hB := hB.trans (B49.mono hB.size)
      have m4 := m4.old B49
      have hL := hL.below B49
      refine s_grd 43 hF rfl rfl rfl ?_
      refine s_val hF (x_not rfl) (by decide) fun a hF => ?_
      refine s_val hF (x_pick rfl rfl) (by decide) fun a hF => ?_
      refine s_val hF (x_move rfl) (by decide) fun a hF => ?_
      refine s_grd 52 hF rfl rfl rfl ?_
      refine s_val hF (x_move rfl) (by decide) fun a hF => ?_
      refine s_grd 52 hF rfl rfl rfl ?_
      refine s_val hF (x_move rfl) (by decide) fun a hF => ?_
      refine s_grd 52 hF rfl rfl rfl ?_
      refine s_val hF (x_move rfl) (by decide) fun a hF => ?_
      refine s_grd 52 hF rfl rfl rfl ?_
      refine s_val hF (x_ixa rfl rfl (m_ixsK i Tryd.underlying31 el31.size rfl (by omega))) (by decide) fun a hF => ?_
      refine s_grd 52 hF rfl rfl rfl ?_
      refine s_val hF ((hR.below hB).load (j := i) (by omega) rfl) (by decide) fun a hF => ?_
      refine s_grd 52 hF rfl rfl rfl ?_
      have hY0 := hY
      refine s_call (R := fun v w' => v = .bool false ∧ KL g m w48 w' ∧ ∃ m', LG w' g m' ss ∧ Yg w0.heap.size m') hF [.pointer (some ⟨g, 0, none⟩), sigv ((ls.getD i z0))] (enters_of Tryd.func13 (by kernel_rfl) rfl) rfl (by decide) (issue13t w0.heap.size g m ss _ (hR.good (j := i) (by omega)) w48 hL hY (by omega) hin) ?_
      rintro _ w50 a ⟨rfl, KL51, m, hL2, hY⟩ hF
      have sKL51 := KL51.size
      have hB := KL51.young hB hg0 hY0
      have m4 := KL51.blk26 hL m4
      have hL := hL2
      refine s_val hF (x_pick rfl rfl) (by decide) fun a hF => ?_
      refine s_end (hK16 _ _ ?_)
      refine wp_if hF rfl ?_
      refine wp_skip (hK12 _ _ ?_)
      refine wp_region_lit ?_
      refine s_val hF (x_move rfl) (by decide) fun a hF => ?_
      refine s_val hF (x_addn (i + 1) (by omega) (by omega) rfl rfl) (by decide) fun a hF => ?_
      refine s_val hF (x_assign rfl) (by decide) fun a hF => ?_
      refine s_end (hK' _ _ (by omega) ⟨m, ss, _, hL, hY, hss, th_step hth (take_snoc ls i z0 (by omega)), m4, hB, hF.sub _ rfl⟩)
    · skip
      refine dk_seq (w42.heap.size) (ops := regOps Tryd.f6 7) (N := 10) (by kernel_rfl) wide_orders (by kernel_rfl) fun w52 hw52 B53 hS K17 hK17 => ?_
      have zw52 : w52.heap.size = w42.heap.size := by rw [hw52]
      have sB53 := B53.size
      have hB := hB.trans (B53.mono hB.size)
      have m4 := m4.old B53
      have hL := hL.below B53
      have m4_d := m4
      have hL_d := hL
      have hB_d := hB
      refine d_val 0 27 (op := (Go.Op.move (Go.Operand.tmp 8))) hF hS (by kernel_rfl) (fun W hW => x_move rfl) (by kernel_rfl) (by decide) fun a hF => ?_
      refine d_val 1 28 (op := (Go.Op.move (Go.Operand.tmp 27))) hF hS (by kernel_rfl) (fun W hW => x_move rfl) (by kernel_rfl) (by decide) fun a hF => ?_
      refine d_skip 2 29 28 (j := 1) (want := false) (op := (Go.Op.move (Go.Operand.tmp 0))) hF hS (by kernel_rfl) (by kernel_rfl) rfl (by kernel_rfl) (by decide) fun a hF => ?_
      refine d_skip 3 30 28 (j := 1) (want := false) (op := (Go.Op.move (Go.Operand.tmp 9))) hF hS (by kernel_rfl) (by kernel_rfl) rfl (by kernel_rfl) (by decide) fun a hF => ?_
      refine d_skip 4 31 28 (j := 1) (want := false) (op := (Go.Op.indexAddr 31 (Go.Operand.tmp 29) (Go.Operand.tmp 30))) hF hS (by kernel_rfl) (by kernel_rfl) rfl (by kernel_rfl) (by decide) fun a hF => ?_
      refine d_skip 5 32 28 (j := 1) (want := false) (op := (Go.Op.load 26 (Go.Operand.tmp 31))) hF hS (by kernel_rfl) (by kernel_rfl) rfl (by kernel_rfl) (by decide) fun a hF => ?_
      refine d_skip 6 33 28 (j := 1) (want := false) (op := (Go.Op.load 26 (Go.Operand.tmp 4))) hF hS (by kernel_rfl) (by kernel_rfl) rfl (by kernel_rfl) (by decide) fun a hF => ?_
      refine d_skip 7 34 28 (j := 1) (want := false) (op := (Go.Op.binOp Go.BinOp.eql 26 (Go.Operand.tmp 32) (Go.Operand.tmp 33) 26)) hF hS (by kernel_rfl) (by kernel_rfl) rfl (by kernel_rfl) (by decide) fun a hF => ?_
      refine d_val 8 35 (op := (Go.Op.pick (Go.Operand.tmp 28) (Go.Operand.const (Go.Value.bool true)) (Go.Operand.tmp 34))) hF hS (by kernel_rfl) (fun W hW => x_pick rfl rfl) (by kernel_rfl) (by decide) fun a hF => ?_
      refine d_val 9 8 (op := (Go.Op.assign (Go.Operand.tmp 35))) hF hS (by kernel_rfl) (fun W hW => x_assign rfl) (by kernel_rfl) (by decide) fun a hF => ?_
      refine d_end (by kernel_rfl) (hK17 _ _ ?_)
      refine wp_rs fun K18 hK18 => ?_
      refine s_val hF (x_move rfl) (by decide) fun a hF => ?_
      refine s_val hF (x_move rfl) (by decide) fun a hF => ?_
      refine s_val hF (x_move rfl) (by decide) fun a hF => ?_
      refine s_val hF (x_ixa rfl rfl (m_ixsK i Tryd.underlying31 el31.size rfl (by omega))) (by decide) fun a hF => ?_
      refine s_val hF ((hR.below hB).load (j := i) (by omega) rfl) (by decide) fun a hF => ?_
      refine s_callB [.pointer (some ⟨g, 0, none⟩), sigv (ls.getD i z0)] hF (enters_of Tryd.func14 (by kernel_rfl) rfl) rfl (by decide) (issued14b g m ss _ true (hR.good (j := i) (by omega)) w52 hL (decide_eq_true hin)) fun w54 a B55 hF => ?_
      have sB55 := B55.size
      have hB := hB.trans (B55.mono hB.size)
      have m4 := m4.old B55
      have hL := hL.below B55
      refine s_val hF (x_not rfl) (by decide) fun a hF => ?_
      refine s_val hF (x_move rfl) (by decide) fun a hF => ?_
      refine s_grd 43 hF rfl rfl rfl ?_
      refine s_val hF (x_move rfl) (by decide) fun a hF => ?_
      refine s_grd 43 hF rfl rfl rfl ?_
      refine s_val hF (x_move rfl) (by decide) fun a hF => ?_
      refine s_grd 43 hF rfl rfl rfl ?_
      refine s_val hF (x_move rfl) (by decide) fun a hF => ?_
      refine s_grd 43 hF rfl rfl rfl ?_
      refine s_val hF (x_addn (i + 1) (by omega) (by omega) rfl rfl) (by decide) fun a hF => ?_
      refine s_grd 43 hF rfl rfl rfl ?_
      refine s_val hF (x_slice (vlo := none) (vhi := some (.int .i64 ((i + 1 : Nat) : Int))) (vmx := none) rfl rfl rfl rfl (m_sliceUK (i + 1) Tryd.underlying31 el31.size rfl (by omega))) (by decide) fun a hF => ?_
      refine s_grd 43 hF rfl rfl rfl ?_
      refine s_callB [.pointer (some ⟨g, 0, none⟩), _, .slice none 0 0] hF (enters_of Tryd.func16 (by kernel_rfl) rfl) rfl (by decide) (der16b g m ss (ls.take (i + 1)) [] _ _ true w54 hL ((hR.below hB).upto (i + 1) (by omega)) (RI.nil _) (by rw [List.length_take]; omega) (by decide) (der_all (fun t ht => (hss t).2 ht) [])) fun w56 a B57 hF => ?_
      have sB57 := B57.size
      have hB := hB.trans (B57.mono hB.size)
      have m4 := m4.old B57
      have hL := hL.below B57
      refine s_grd 43 hF rfl rfl rfl ?_
      refine s_val hF (x_not rfl) (by decide) fun a hF => ?_
      refine s_val hF (x_pick rfl rfl) (by decide) fun a hF => ?_
      refine s_val hF (x_move rfl) (by decide) fun a hF => ?_
      refine s_grd 52 hF rfl rfl rfl ?_
      refine s_val hF (x_move rfl) (by decide) fun a hF => ?_
      refine s_grd 52 hF rfl rfl rfl ?_
      refine s_val hF (x_move rfl) (by decide) fun a hF => ?_
      refine s_grd 52 hF rfl rfl rfl ?_
      refine s_val hF (x_move rfl) (by decide) fun a hF => ?_
      refine s_grd 52 hF rfl rfl rfl ?_
      refine s_val hF (x_ixa rfl rfl (m_ixsK i Tryd.underlying31 el31.size rfl (by omega))) (by decide) fun a hF => ?_
      refine s_grd 52 hF rfl rfl rfl ?_
      refine s_val hF ((hR.below hB).load (j := i) (by omega) rfl) (by decide) fun a hF => ?_
      refine s_grd 52 hF rfl rfl rfl ?_
      have hY0 := hY
      refine s_call (R := fun v w' => v = .bool false ∧ KL g m w56 w' ∧ ∃ m', LG w' g m' ss ∧ Yg w0.heap.size m') hF [.pointer (some ⟨g, 0, none⟩), sigv ((ls.getD i z0))] (enters_of Tryd.func13 (by kernel_rfl) rfl) rfl (by decide) (issue13t w0.heap.size g m ss _ (hR.good (j := i) (by omega)) w56 hL hY (by omega) hin) ?_
      rintro _ w58 a ⟨rfl, KL59, m, hL2, hY⟩ hF
      have sKL59 := KL59.size
      have hB := KL59.young hB hg0 hY0
      have m4 := KL59.blk26 hL m4
      have hL := hL2
      refine s_val hF (x_pick rfl rfl) (by decide) fun a hF => ?_
      refine s_end (hK18 _ _ ?_)
      refine wp_if hF rfl ?_
      refine wp_skip (hK12 _ _ ?_)
      refine wp_region_lit ?_
      refine s_val hF (x_move rfl) (by decide) fun a hF => ?_
      refine s_val hF (x_addn (i + 1) (by omega) (by omega) rfl rfl) (by decide) fun a hF => ?_
      refine s_val hF (x_assign rfl) (by decide) fun a hF => ?_
      refine s_end (hK' _ _ (by omega) ⟨m, ss, _, hL, hY, hss, th_step hth (take_snoc ls i z0 (by omega)), m4, hB, hF.sub _ rfl⟩)
  · skip
    refine wp_rs fun K19 hK19 => ?_
    refine s_val hF (x_move rfl) (by decide) fun a hF => ?_
    refine s_val hF (x_move rfl) (by decide) fun a hF => ?_
    refine s_val hF (x_len Tryd.underlying31 rfl) (by decide) fun a hF => ?_
    refine s_val hF (x_lss (b := true) (decide_eq_true (by omega)) rfl rfl) (by decide) fun a hF => ?_
    refine s_val hF (x_move rfl) (by decide) fun a hF => ?_
    refine s_grd 15 hF rfl rfl rfl ?_
    refine s_val hF (x_move rfl) (by decide) fun a hF => ?_
    refine s_grd 15 hF rfl rfl rfl ?_
    refine s_val hF (x_lss (b := false) (decide_eq_false (by omega)) rfl rfl) (by decide) fun a hF => ?_
    refine s_val hF (x_pick rfl rfl) (by decide) fun a hF => ?_
    refine s_end (hK19 _ _ ?_)
    refine wp_if hF rfl ?_
    refine wp_exit ?_
    exact key4 _ _ m ss th i hL hss hth (by omega) m4 hB (hF.sub _ rfl)
  · skip
    refine wp_rs fun K20 hK20 => ?_
    refine s_val hF (x_move rfl) (by decide) fun a hF => ?_
    refine s_val hF (x_move rfl) (by decide) fun a hF => ?_
    refine s_val hF (x_len Tryd.underlying31 rfl) (by decide) fun a hF => ?_
    refine s_val hF (x_lss (b := false) (decide_eq_false (by omega)) rfl rfl) (by decide) fun a hF => ?_
    refine s_val hF (x_move rfl) (by decide) fun a hF => ?_
    refine s_grdn 15 hF rfl rfl (by decide) fun a hF => ?_
    refine s_grdn 15 hF rfl rfl (by decide) fun a hF => ?_
    refine s_val hF (x_pick rfl rfl) (by decide) fun a hF => ?_
    refine s_end (hK20 _ _ ?_)
    refine wp_if hF rfl ?_
    refine wp_exit ?_
    exact key4 _ _ m ss th i hL hss hth (by omega) m4 hB (hF.sub _ rfl)
end Go.Proofs.YtefpenjcgplamaaDoor
