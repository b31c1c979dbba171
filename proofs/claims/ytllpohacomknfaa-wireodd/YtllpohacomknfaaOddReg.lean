/- WireOdd's region that draws its order. -/
import Derived.Test.YtllpohacomknfaaOdd
import Derived.Test.YtllpohacomknfaaWnReg
namespace Go.Proofs.Ytllpohacomknfaa
open Go.RowKit Go.Shelf
set_option linter.unusedVariables false
set_option linter.unusedSimpArgs false

/-- A slice of one number made. -/
theorem wp_build_one {o : Oper} {a : Act} {w : World} {R : Act → World → Prop} {Q : Exit → Act → World → Prop} (ho : o.op = .buildSlice 55 1 #[(0, .const (.int .i64 1))]) (h : ∀ o', R (a.put o.dst (.slice (some ⟨w.heap.size, 0, none⟩) 1 1)) (w.alloc o')) : Oper.wp Try.prog o a w R Q := by
  have ht := Try.underlying55
  have ht3 := Try.underlying3
  unfold Oper.wp
  simp only [execOp, ho]
  go_simp
  exact h _

theorem run_load_int (B : Nat) (x : Int) (W : World) (h : W.cell? ⟨B, 0, none⟩ = some (.int .i64 x)) : (Instr.loadAt 3 (.pointer (some ⟨B, 0, none⟩))).run Try.prog W = .ok (.int .i64 x) W := by
  have ht3 := Try.underlying3
  go_simp

set_option maxRecDepth 100000 in
set_option maxHeartbeats 4000000 in
theorem wo_rest (bs : List UInt8) (hb : bs.length + 4096 ≤ 140737488355328) (ad : Option Addr) (c : Nat) (w W : World) (a : Act)
    (hF : Fr 99 a [(88, .slice ad bs.length c), (93, .string ⟨bs.toArray⟩), (87, .bool true)]) (hv0 : RB w (.slice ad bs.length c) bs) (hB : Below w.heap.size w W) :
    wpAnyH Try.prog .any (regOps Try.f7 12) (QN (Tells 99 4 w)) (S0 w) 9 (lst 40 [33, 32, 28, 27, 26, 25, 24, 23, 22, 21, 20, 19, 18, 17, 16, 15, 14, 13, 12, 11, 10, 9, 8, 7, 6, 5, 4, 3, 2, 1, 0]) a W := by
  refine draw_only (i := 29) (by kernel_rfl) (step_of (i := 29) (d := 89) (op := .buildSlice 55 1 #[(0, .const (.int .i64 1))]) (g := some (27, true)) (by kernel_rfl) hF (by kernel_rfl) fun o ho hdst => wp_build_one ho fun o' => ?_)
  rw [hdst]
  have hF := hF.put 89 (by decide) (.slice (some ⟨W.heap.size, 0, none⟩) 1 1)
  generalize a.put (some 89) (.slice (some ⟨W.heap.size, 0, none⟩) 1 1) = a at hF ⊢
  have hB1 : Below w.heap.size w (W.alloc o') := hB.alloc hB.size _
  refine ⟨hB1, draw_only (i := 30) (by kernel_rfl) ?_⟩
  refine step_call (ts := #[22, 55, 64]) 30 90 33 #[.tmp 88, .tmp 89, .const .nilFunc] [.slice ad bs.length c, .slice (some ⟨W.heap.size, 0, none⟩) 1 1, .nilFunc] (g := some (27, true)) hF (by kernel_rfl) (by decide) (by kernel_rfl) (by kernel_rfl) (enters_of Try.func33 (by kernel_rfl) rfl) ?_
  refine (put33_nil bs (by omega) _ _ 1 1 _ (hv0.below hB1)).mono ?_
  rintro e w3 ⟨v3, rfl, ho3, hB3⟩
  refine ⟨v3, rfl, fun a hF => ?_⟩
  have hS : S0 w w3 := hB1.trans (hB3.mono hB1.size)
  refine ⟨hS, ?_⟩
  refine draw_only (i := 31) (by kernel_rfl) (step_conv 31 91 22 9 (.tmp 90) v3 (.string ⟨bs.toArray⟩) (g := some (27, true)) hF (by kernel_rfl) (by decide) (by kernel_rfl) (by kernel_rfl) (RB.of_row ho3).str ?_)
  intro a hF
  refine ⟨hS, ?_⟩
  refine take_bin (g := some (27, true)) 34 94 .eql 9 9 (.tmp 91) (.tmp 93) (.string ⟨bs.toArray⟩) (.string ⟨bs.toArray⟩) (.bool true) hF hS (by kernel_rfl) (by kernel_rfl) (by decide) (by kernel_rfl) (by kernel_rfl) (by kernel_rfl) (eql_str rfl) ?_; intro a hF
  refine take_pick (g := none) 35 95 (.tmp 87) (.tmp 94) (.const (.bool false)) true (.bool true) hF hS (by kernel_rfl) (by kernel_rfl) (by decide) (by kernel_rfl) (by kernel_rfl) (by kernel_rfl) ?_; intro a hF
  refine take_move (g := none) 36 96 (.tmp 95) (.bool true) hF hS (by kernel_rfl) (by kernel_rfl) (by decide) (by kernel_rfl) (by kernel_rfl) ?_; intro a hF
  refine draw_only (i := 37) (by kernel_rfl) ?_
  refine step_call (ts := #[]) 37 97 18 #[] [] (g := some (36, true)) hF (by kernel_rfl) (by decide) (by kernel_rfl) (by kernel_rfl) (enters_of Try.func18 (by kernel_rfl) rfl) ?_
  refine (awake18 w3).mono ?_
  rintro e w7 ⟨rfl, hB7⟩
  refine ⟨_, rfl, fun a hF => ?_⟩
  have hS : S0 w w7 := Below.trans hS (hB7.mono (Below.size hS))
  refine ⟨hS, ?_⟩
  refine take_pick (g := none) 38 98 (.tmp 96) (.tmp 97) (.const (.bool false)) true (.bool true) hF hS (by kernel_rfl) (by kernel_rfl) (by decide) (by kernel_rfl) (by kernel_rfl) (by kernel_rfl) ?_; intro a hF
  refine take_assign (g := none) 39 4 (.tmp 98) (.bool true) hF hS (by kernel_rfl) (by kernel_rfl) (by decide) (by kernel_rfl) (by kernel_rfl) ?_; intro a hF
  exact draw_done (by kernel_rfl) ⟨hF.sub _ (by kernel_rfl), hS⟩

set_option maxRecDepth 100000 in
set_option maxHeartbeats 4000000 in
theorem wo_ok (bs : List UInt8) (hb : bs.length + 4096 ≤ 140737488355328) (count : Int) (h1 : 1 ≤ count) (h2 : count ≤ (bs.length : Int)) (B : Nat) (ad : Option Addr) (c : Nat) (w : World) (a : Act)
    (hF : Fr 99 a [(0, .slice ad bs.length c), (3, .pointer (some ⟨B, 0, none⟩)), (11, .int .i64 1), (13, .int .i64 1), (17, .int .i64 0)]) (hv0 : RB w (.slice ad bs.length c) bs) (hcell : w.cell? ⟨B, 0, none⟩ = some (.int .i64 count)) :
    wpAnyH Try.prog .any (regOps Try.f7 12) (QN (Tells 99 4 w)) (S0 w) 40 (lst 40 []) a w.drew := by
  have hB0 : Below w.heap.size w w.drew := (Below.refl _ _).drew
  have hS : S0 w w.drew := hB0
  have hld : ∀ W, S0 w W → (Instr.loadAt 3 (.pointer (some ⟨B, 0, none⟩))).run Try.prog W = .ok (.int .i64 count) W := fun W h => run_load_int B count W ((Below.cell h (p := ⟨B, 0, none⟩) (cells_block hcell)).trans hcell)
  refine take_move (g := none) 0 60 (.tmp 11) (.int .i64 1) hF hS (by kernel_rfl) (by kernel_rfl) (by decide) (by kernel_rfl) (by kernel_rfl) ?_; intro a hF
  refine take_bin (g := none) 1 61 .eql 24 24 (.tmp 60) (.const (.int .i64 1)) (.int .i64 1) (.int .i64 1) (.bool true) hF hS (by kernel_rfl) (by kernel_rfl) (by decide) (by kernel_rfl) (by kernel_rfl) (by kernel_rfl) (eql_int rfl) ?_; intro a hF
  refine take_move (g := none) 2 62 (.tmp 61) (.bool true) hF hS (by kernel_rfl) (by kernel_rfl) (by decide) (by kernel_rfl) (by kernel_rfl) ?_; intro a hF
  refine take_move (g := some (2, true)) 3 63 (.tmp 13) (.int .i64 1) hF hS (by kernel_rfl) (by kernel_rfl) (by decide) (by kernel_rfl) (by kernel_rfl) ?_; intro a hF
  refine take_bin (g := some (2, true)) 4 64 .eql 24 24 (.tmp 63) (.const (.int .i64 1)) (.int .i64 1) (.int .i64 1) (.bool true) hF hS (by kernel_rfl) (by kernel_rfl) (by decide) (by kernel_rfl) (by kernel_rfl) (by kernel_rfl) (eql_int rfl) ?_; intro a hF
  refine take_pick (g := none) 5 65 (.tmp 62) (.tmp 64) (.const (.bool false)) true (.bool true) hF hS (by kernel_rfl) (by kernel_rfl) (by decide) (by kernel_rfl) (by kernel_rfl) (by kernel_rfl) ?_; intro a hF
  refine take_move (g := none) 6 66 (.tmp 65) (.bool true) hF hS (by kernel_rfl) (by kernel_rfl) (by decide) (by kernel_rfl) (by kernel_rfl) ?_; intro a hF
  refine take_move (g := some (6, true)) 7 67 (.tmp 17) (.int .i64 0) hF hS (by kernel_rfl) (by kernel_rfl) (by decide) (by kernel_rfl) (by kernel_rfl) ?_; intro a hF
  refine take_bin (g := some (6, true)) 8 68 .eql 24 24 (.tmp 67) (.const (.int .i64 0)) (.int .i64 0) (.int .i64 0) (.bool true) hF hS (by kernel_rfl) (by kernel_rfl) (by decide) (by kernel_rfl) (by kernel_rfl) (by kernel_rfl) (eql_int rfl) ?_; intro a hF
  refine take_load (g := some (6, true)) 9 69 3 (.tmp 3) (.pointer (some ⟨B, 0, none⟩)) (.int .i64 count) hF hS (by kernel_rfl) (by kernel_rfl) (by decide) (by kernel_rfl) (by kernel_rfl) hld ?_; intro a hF
  refine take_bin (g := some (6, true)) 10 70 .geq 3 3 (.tmp 69) (.const (.int .i64 1)) (.int .i64 count) (.int .i64 1) (.bool true) hF hS (by kernel_rfl) (by kernel_rfl) (by decide) (by kernel_rfl) (by kernel_rfl) (by kernel_rfl) (geq_int (by simpa using h1)) ?_; intro a hF
  refine take_move (g := some (6, true)) 11 71 (.tmp 70) (.bool true) hF hS (by kernel_rfl) (by kernel_rfl) (by decide) (by kernel_rfl) (by kernel_rfl) ?_; intro a hF
  refine take_load (g := some (11, true)) 12 72 3 (.tmp 3) (.pointer (some ⟨B, 0, none⟩)) (.int .i64 count) hF hS (by kernel_rfl) (by kernel_rfl) (by decide) (by kernel_rfl) (by kernel_rfl) hld ?_; intro a hF
  refine take_move (g := some (11, true)) 13 73 (.tmp 0) (.slice ad bs.length c) hF hS (by kernel_rfl) (by kernel_rfl) (by decide) (by kernel_rfl) (by kernel_rfl) ?_; intro a hF
  refine take_len 14 74 22 (.tmp 73) ad bs.length c Try.underlying22 (g := some (11, true)) hF hS (by kernel_rfl) (by kernel_rfl) (by decide) (by kernel_rfl) (by kernel_rfl) ?_; intro a hF
  refine take_bin (g := some (11, true)) 15 75 .leq 3 3 (.tmp 72) (.tmp 74) (.int .i64 count) (.int .i64 (bs.length : Int)) (.bool true) hF hS (by kernel_rfl) (by kernel_rfl) (by decide) (by kernel_rfl) (by kernel_rfl) (by kernel_rfl) (leq_int (by simpa using h2)) ?_; intro a hF
  refine take_pick (g := some (6, true)) 16 76 (.tmp 71) (.tmp 75) (.const (.bool false)) true (.bool true) hF hS (by kernel_rfl) (by kernel_rfl) (by decide) (by kernel_rfl) (by kernel_rfl) (by kernel_rfl) ?_; intro a hF
  refine take_bin (g := some (6, true)) 17 77 .eql 4 4 (.tmp 68) (.tmp 76) (.bool true) (.bool true) (.bool true) hF hS (by kernel_rfl) (by kernel_rfl) (by decide) (by kernel_rfl) (by kernel_rfl) (by kernel_rfl) (eql_bool Try.underlying4 rfl) ?_; intro a hF
  refine take_pick (g := none) 18 78 (.tmp 66) (.tmp 77) (.const (.bool false)) true (.bool true) hF hS (by kernel_rfl) (by kernel_rfl) (by decide) (by kernel_rfl) (by kernel_rfl) (by kernel_rfl) ?_; intro a hF
  refine take_move (g := none) 19 79 (.tmp 78) (.bool true) hF hS (by kernel_rfl) (by kernel_rfl) (by decide) (by kernel_rfl) (by kernel_rfl) ?_; intro a hF
  refine take_move (g := some (19, true)) 20 80 (.tmp 17) (.int .i64 0) hF hS (by kernel_rfl) (by kernel_rfl) (by decide) (by kernel_rfl) (by kernel_rfl) ?_; intro a hF
  refine take_bin (g := some (19, true)) 21 81 .eql 24 24 (.tmp 80) (.const (.int .i64 0)) (.int .i64 0) (.int .i64 0) (.bool true) hF hS (by kernel_rfl) (by kernel_rfl) (by decide) (by kernel_rfl) (by kernel_rfl) (by kernel_rfl) (eql_int rfl) ?_; intro a hF
  refine take_move (g := some (19, true)) 22 82 (.tmp 81) (.bool true) hF hS (by kernel_rfl) (by kernel_rfl) (by decide) (by kernel_rfl) (by kernel_rfl) ?_; intro a hF
  refine draw_skip (i := 23) (d := 83) (op := (.move (.tmp 17))) (g := some (22, false)) (by kernel_rfl) (by kernel_rfl) (by decide) hF (by kernel_rfl) hS ?_; intro a hF
  refine draw_skip (i := 24) (d := 84) (op := (.binOp .eql 24 (.tmp 83) (.const (.int .i64 4)) 24)) (g := some (22, false)) (by kernel_rfl) (by kernel_rfl) (by decide) hF (by kernel_rfl) hS ?_; intro a hF
  refine take_pick (g := some (19, true)) 25 85 (.tmp 82) (.const (.bool true)) (.tmp 84) true (.bool true) hF hS (by kernel_rfl) (by kernel_rfl) (by decide) (by kernel_rfl) (by kernel_rfl) (by kernel_rfl) ?_; intro a hF
  refine take_pick (g := none) 26 86 (.tmp 79) (.tmp 85) (.const (.bool false)) true (.bool true) hF hS (by kernel_rfl) (by kernel_rfl) (by decide) (by kernel_rfl) (by kernel_rfl) (by kernel_rfl) ?_; intro a hF
  refine take_move (g := none) 27 87 (.tmp 86) (.bool true) hF hS (by kernel_rfl) (by kernel_rfl) (by decide) (by kernel_rfl) (by kernel_rfl) ?_; intro a hF
  refine take_move (g := some (27, true)) 28 88 (.tmp 0) (.slice ad bs.length c) hF hS (by kernel_rfl) (by kernel_rfl) (by decide) (by kernel_rfl) (by kernel_rfl) ?_; intro a hF
  refine take_move (g := some (27, true)) 32 92 (.tmp 0) (.slice ad bs.length c) hF hS (by kernel_rfl) (by kernel_rfl) (by decide) (by kernel_rfl) (by kernel_rfl) ?_; intro a hF
  refine take_conv (g := some (27, true)) 33 93 22 9 (.tmp 92) (.slice ad bs.length c) (.string ⟨bs.toArray⟩) hF hS (by kernel_rfl) (by kernel_rfl) (by decide) (by kernel_rfl) (by kernel_rfl) (fun W h => (hv0.below h).str) ?_; intro a hF
  refine draw_relist (done' := [33, 32, 28, 27, 26, 25, 24, 23, 22, 21, 20, 19, 18, 17, 16, 15, 14, 13, 12, 11, 10, 9, 8, 7, 6, 5, 4, 3, 2, 1, 0]) (fuel' := 9) (by kernel_rfl) rfl ?_
  exact wo_rest bs hb ad c w _ _ (hF.sub _ (by kernel_rfl)) hv0 hB0

set_option maxRecDepth 100000 in
set_option maxHeartbeats 4000000 in
theorem wo_low (bs : List UInt8) (hb : bs.length + 4096 ≤ 140737488355328) (count : Int) (h1 : count < 1) (B : Nat) (ad : Option Addr) (c : Nat) (w : World) (a : Act)
    (hF : Fr 99 a [(0, .slice ad bs.length c), (3, .pointer (some ⟨B, 0, none⟩)), (11, .int .i64 1), (13, .int .i64 1), (17, .int .i64 4)]) (hv0 : RB w (.slice ad bs.length c) bs) (hcell : w.cell? ⟨B, 0, none⟩ = some (.int .i64 count)) :
    wpAnyH Try.prog .any (regOps Try.f7 12) (QN (Tells 99 4 w)) (S0 w) 40 (lst 40 []) a w.drew := by
  have hB0 : Below w.heap.size w w.drew := (Below.refl _ _).drew
  have hS : S0 w w.drew := hB0
  have hld : ∀ W, S0 w W → (Instr.loadAt 3 (.pointer (some ⟨B, 0, none⟩))).run Try.prog W = .ok (.int .i64 count) W := fun W h => run_load_int B count W ((Below.cell h (p := ⟨B, 0, none⟩) (cells_block hcell)).trans hcell)
  refine take_move (g := none) 0 60 (.tmp 11) (.int .i64 1) hF hS (by kernel_rfl) (by kernel_rfl) (by decide) (by kernel_rfl) (by kernel_rfl) ?_; intro a hF
  refine take_bin (g := none) 1 61 .eql 24 24 (.tmp 60) (.const (.int .i64 1)) (.int .i64 1) (.int .i64 1) (.bool true) hF hS (by kernel_rfl) (by kernel_rfl) (by decide) (by kernel_rfl) (by kernel_rfl) (by kernel_rfl) (eql_int rfl) ?_; intro a hF
  refine take_move (g := none) 2 62 (.tmp 61) (.bool true) hF hS (by kernel_rfl) (by kernel_rfl) (by decide) (by kernel_rfl) (by kernel_rfl) ?_; intro a hF
  refine take_move (g := some (2, true)) 3 63 (.tmp 13) (.int .i64 1) hF hS (by kernel_rfl) (by kernel_rfl) (by decide) (by kernel_rfl) (by kernel_rfl) ?_; intro a hF
  refine take_bin (g := some (2, true)) 4 64 .eql 24 24 (.tmp 63) (.const (.int .i64 1)) (.int .i64 1) (.int .i64 1) (.bool true) hF hS (by kernel_rfl) (by kernel_rfl) (by decide) (by kernel_rfl) (by kernel_rfl) (by kernel_rfl) (eql_int rfl) ?_; intro a hF
  refine take_pick (g := none) 5 65 (.tmp 62) (.tmp 64) (.const (.bool false)) true (.bool true) hF hS (by kernel_rfl) (by kernel_rfl) (by decide) (by kernel_rfl) (by kernel_rfl) (by kernel_rfl) ?_; intro a hF
  refine take_move (g := none) 6 66 (.tmp 65) (.bool true) hF hS (by kernel_rfl) (by kernel_rfl) (by decide) (by kernel_rfl) (by kernel_rfl) ?_; intro a hF
  refine take_move (g := some (6, true)) 7 67 (.tmp 17) (.int .i64 4) hF hS (by kernel_rfl) (by kernel_rfl) (by decide) (by kernel_rfl) (by kernel_rfl) ?_; intro a hF
  refine take_bin (g := some (6, true)) 8 68 .eql 24 24 (.tmp 67) (.const (.int .i64 0)) (.int .i64 4) (.int .i64 0) (.bool false) hF hS (by kernel_rfl) (by kernel_rfl) (by decide) (by kernel_rfl) (by kernel_rfl) (by kernel_rfl) (eql_int rfl) ?_; intro a hF
  refine take_load (g := some (6, true)) 9 69 3 (.tmp 3) (.pointer (some ⟨B, 0, none⟩)) (.int .i64 count) hF hS (by kernel_rfl) (by kernel_rfl) (by decide) (by kernel_rfl) (by kernel_rfl) hld ?_; intro a hF
  refine take_bin (g := some (6, true)) 10 70 .geq 3 3 (.tmp 69) (.const (.int .i64 1)) (.int .i64 count) (.int .i64 1) (.bool false) hF hS (by kernel_rfl) (by kernel_rfl) (by decide) (by kernel_rfl) (by kernel_rfl) (by kernel_rfl) (geq_int (by simp; omega)) ?_; intro a hF
  refine take_move (g := some (6, true)) 11 71 (.tmp 70) (.bool false) hF hS (by kernel_rfl) (by kernel_rfl) (by decide) (by kernel_rfl) (by kernel_rfl) ?_; intro a hF
  refine draw_skip (i := 12) (d := 72) (op := (.load 3 (.tmp 3))) (g := some (11, true)) (by kernel_rfl) (by kernel_rfl) (by decide) hF (by kernel_rfl) hS ?_; intro a hF
  refine draw_skip (i := 13) (d := 73) (op := (.move (.tmp 0))) (g := some (11, true)) (by kernel_rfl) (by kernel_rfl) (by decide) hF (by kernel_rfl) hS ?_; intro a hF
  refine draw_skip (i := 14) (d := 74) (op := .call { callee := .builtin .len, args := #[.tmp 73], argTypes := #[22] }) (g := some (11, true)) (by kernel_rfl) (by kernel_rfl) (by decide) hF (by kernel_rfl) hS ?_; intro a hF
  refine draw_skip (i := 15) (d := 75) (op := (.binOp .leq 3 (.tmp 72) (.tmp 74) 3)) (g := some (11, true)) (by kernel_rfl) (by kernel_rfl) (by decide) hF (by kernel_rfl) hS ?_; intro a hF
  refine take_pick (g := some (6, true)) 16 76 (.tmp 71) (.tmp 75) (.const (.bool false)) false (.bool false) hF hS (by kernel_rfl) (by kernel_rfl) (by decide) (by kernel_rfl) (by kernel_rfl) (by kernel_rfl) ?_; intro a hF
  refine take_bin (g := some (6, true)) 17 77 .eql 4 4 (.tmp 68) (.tmp 76) (.bool false) (.bool false) (.bool true) hF hS (by kernel_rfl) (by kernel_rfl) (by decide) (by kernel_rfl) (by kernel_rfl) (by kernel_rfl) (eql_bool Try.underlying4 rfl) ?_; intro a hF
  refine take_pick (g := none) 18 78 (.tmp 66) (.tmp 77) (.const (.bool false)) true (.bool true) hF hS (by kernel_rfl) (by kernel_rfl) (by decide) (by kernel_rfl) (by kernel_rfl) (by kernel_rfl) ?_; intro a hF
  refine take_move (g := none) 19 79 (.tmp 78) (.bool true) hF hS (by kernel_rfl) (by kernel_rfl) (by decide) (by kernel_rfl) (by kernel_rfl) ?_; intro a hF
  refine take_move (g := some (19, true)) 20 80 (.tmp 17) (.int .i64 4) hF hS (by kernel_rfl) (by kernel_rfl) (by decide) (by kernel_rfl) (by kernel_rfl) ?_; intro a hF
  refine take_bin (g := some (19, true)) 21 81 .eql 24 24 (.tmp 80) (.const (.int .i64 0)) (.int .i64 4) (.int .i64 0) (.bool false) hF hS (by kernel_rfl) (by kernel_rfl) (by decide) (by kernel_rfl) (by kernel_rfl) (by kernel_rfl) (eql_int rfl) ?_; intro a hF
  refine take_move (g := some (19, true)) 22 82 (.tmp 81) (.bool false) hF hS (by kernel_rfl) (by kernel_rfl) (by decide) (by kernel_rfl) (by kernel_rfl) ?_; intro a hF
  refine take_move (g := some (22, false)) 23 83 (.tmp 17) (.int .i64 4) hF hS (by kernel_rfl) (by kernel_rfl) (by decide) (by kernel_rfl) (by kernel_rfl) ?_; intro a hF
  refine take_bin (g := some (22, false)) 24 84 .eql 24 24 (.tmp 83) (.const (.int .i64 4)) (.int .i64 4) (.int .i64 4) (.bool true) hF hS (by kernel_rfl) (by kernel_rfl) (by decide) (by kernel_rfl) (by kernel_rfl) (by kernel_rfl) (eql_int rfl) ?_; intro a hF
  refine take_pick (g := some (19, true)) 25 85 (.tmp 82) (.const (.bool true)) (.tmp 84) false (.bool true) hF hS (by kernel_rfl) (by kernel_rfl) (by decide) (by kernel_rfl) (by kernel_rfl) (by kernel_rfl) ?_; intro a hF
  refine take_pick (g := none) 26 86 (.tmp 79) (.tmp 85) (.const (.bool false)) true (.bool true) hF hS (by kernel_rfl) (by kernel_rfl) (by decide) (by kernel_rfl) (by kernel_rfl) (by kernel_rfl) ?_; intro a hF
  refine take_move (g := none) 27 87 (.tmp 86) (.bool true) hF hS (by kernel_rfl) (by kernel_rfl) (by decide) (by kernel_rfl) (by kernel_rfl) ?_; intro a hF
  refine take_move (g := some (27, true)) 28 88 (.tmp 0) (.slice ad bs.length c) hF hS (by kernel_rfl) (by kernel_rfl) (by decide) (by kernel_rfl) (by kernel_rfl) ?_; intro a hF
  refine take_move (g := some (27, true)) 32 92 (.tmp 0) (.slice ad bs.length c) hF hS (by kernel_rfl) (by kernel_rfl) (by decide) (by kernel_rfl) (by kernel_rfl) ?_; intro a hF
  refine take_conv (g := some (27, true)) 33 93 22 9 (.tmp 92) (.slice ad bs.length c) (.string ⟨bs.toArray⟩) hF hS (by kernel_rfl) (by kernel_rfl) (by decide) (by kernel_rfl) (by kernel_rfl) (fun W h => (hv0.below h).str) ?_; intro a hF
  refine draw_relist (done' := [33, 32, 28, 27, 26, 25, 24, 23, 22, 21, 20, 19, 18, 17, 16, 15, 14, 13, 12, 11, 10, 9, 8, 7, 6, 5, 4, 3, 2, 1, 0]) (fuel' := 9) (by kernel_rfl) rfl ?_
  exact wo_rest bs hb ad c w _ _ (hF.sub _ (by kernel_rfl)) hv0 hB0

set_option maxRecDepth 100000 in
set_option maxHeartbeats 4000000 in
theorem wo_high (bs : List UInt8) (hb : bs.length + 4096 ≤ 140737488355328) (count : Int) (h1 : 1 ≤ count) (h2 : (bs.length : Int) < count) (B : Nat) (ad : Option Addr) (c : Nat) (w : World) (a : Act)
    (hF : Fr 99 a [(0, .slice ad bs.length c), (3, .pointer (some ⟨B, 0, none⟩)), (11, .int .i64 1), (13, .int .i64 1), (17, .int .i64 4)]) (hv0 : RB w (.slice ad bs.length c) bs) (hcell : w.cell? ⟨B, 0, none⟩ = some (.int .i64 count)) :
    wpAnyH Try.prog .any (regOps Try.f7 12) (QN (Tells 99 4 w)) (S0 w) 40 (lst 40 []) a w.drew := by
  have hB0 : Below w.heap.size w w.drew := (Below.refl _ _).drew
  have hS : S0 w w.drew := hB0
  have hld : ∀ W, S0 w W → (Instr.loadAt 3 (.pointer (some ⟨B, 0, none⟩))).run Try.prog W = .ok (.int .i64 count) W := fun W h => run_load_int B count W ((Below.cell h (p := ⟨B, 0, none⟩) (cells_block hcell)).trans hcell)
  refine take_move (g := none) 0 60 (.tmp 11) (.int .i64 1) hF hS (by kernel_rfl) (by kernel_rfl) (by decide) (by kernel_rfl) (by kernel_rfl) ?_; intro a hF
  refine take_bin (g := none) 1 61 .eql 24 24 (.tmp 60) (.const (.int .i64 1)) (.int .i64 1) (.int .i64 1) (.bool true) hF hS (by kernel_rfl) (by kernel_rfl) (by decide) (by kernel_rfl) (by kernel_rfl) (by kernel_rfl) (eql_int rfl) ?_; intro a hF
  refine take_move (g := none) 2 62 (.tmp 61) (.bool true) hF hS (by kernel_rfl) (by kernel_rfl) (by decide) (by kernel_rfl) (by kernel_rfl) ?_; intro a hF
  refine take_move (g := some (2, true)) 3 63 (.tmp 13) (.int .i64 1) hF hS (by kernel_rfl) (by kernel_rfl) (by decide) (by kernel_rfl) (by kernel_rfl) ?_; intro a hF
  refine take_bin (g := some (2, true)) 4 64 .eql 24 24 (.tmp 63) (.const (.int .i64 1)) (.int .i64 1) (.int .i64 1) (.bool true) hF hS (by kernel_rfl) (by kernel_rfl) (by decide) (by kernel_rfl) (by kernel_rfl) (by kernel_rfl) (eql_int rfl) ?_; intro a hF
  refine take_pick (g := none) 5 65 (.tmp 62) (.tmp 64) (.const (.bool false)) true (.bool true) hF hS (by kernel_rfl) (by kernel_rfl) (by decide) (by kernel_rfl) (by kernel_rfl) (by kernel_rfl) ?_; intro a hF
  refine take_move (g := none) 6 66 (.tmp 65) (.bool true) hF hS (by kernel_rfl) (by kernel_rfl) (by decide) (by kernel_rfl) (by kernel_rfl) ?_; intro a hF
  refine take_move (g := some (6, true)) 7 67 (.tmp 17) (.int .i64 4) hF hS (by kernel_rfl) (by kernel_rfl) (by decide) (by kernel_rfl) (by kernel_rfl) ?_; intro a hF
  refine take_bin (g := some (6, true)) 8 68 .eql 24 24 (.tmp 67) (.const (.int .i64 0)) (.int .i64 4) (.int .i64 0) (.bool false) hF hS (by kernel_rfl) (by kernel_rfl) (by decide) (by kernel_rfl) (by kernel_rfl) (by kernel_rfl) (eql_int rfl) ?_; intro a hF
  refine take_load (g := some (6, true)) 9 69 3 (.tmp 3) (.pointer (some ⟨B, 0, none⟩)) (.int .i64 count) hF hS (by kernel_rfl) (by kernel_rfl) (by decide) (by kernel_rfl) (by kernel_rfl) hld ?_; intro a hF
  refine take_bin (g := some (6, true)) 10 70 .geq 3 3 (.tmp 69) (.const (.int .i64 1)) (.int .i64 count) (.int .i64 1) (.bool true) hF hS (by kernel_rfl) (by kernel_rfl) (by decide) (by kernel_rfl) (by kernel_rfl) (by kernel_rfl) (geq_int (by simpa using h1)) ?_; intro a hF
  refine take_move (g := some (6, true)) 11 71 (.tmp 70) (.bool true) hF hS (by kernel_rfl) (by kernel_rfl) (by decide) (by kernel_rfl) (by kernel_rfl) ?_; intro a hF
  refine take_load (g := some (11, true)) 12 72 3 (.tmp 3) (.pointer (some ⟨B, 0, none⟩)) (.int .i64 count) hF hS (by kernel_rfl) (by kernel_rfl) (by decide) (by kernel_rfl) (by kernel_rfl) hld ?_; intro a hF
  refine take_move (g := some (11, true)) 13 73 (.tmp 0) (.slice ad bs.length c) hF hS (by kernel_rfl) (by kernel_rfl) (by decide) (by kernel_rfl) (by kernel_rfl) ?_; intro a hF
  refine take_len 14 74 22 (.tmp 73) ad bs.length c Try.underlying22 (g := some (11, true)) hF hS (by kernel_rfl) (by kernel_rfl) (by decide) (by kernel_rfl) (by kernel_rfl) ?_; intro a hF
  refine take_bin (g := some (11, true)) 15 75 .leq 3 3 (.tmp 72) (.tmp 74) (.int .i64 count) (.int .i64 (bs.length : Int)) (.bool false) hF hS (by kernel_rfl) (by kernel_rfl) (by decide) (by kernel_rfl) (by kernel_rfl) (by kernel_rfl) (leq_int (by simp; omega)) ?_; intro a hF
  refine take_pick (g := some (6, true)) 16 76 (.tmp 71) (.tmp 75) (.const (.bool false)) true (.bool false) hF hS (by kernel_rfl) (by kernel_rfl) (by decide) (by kernel_rfl) (by kernel_rfl) (by kernel_rfl) ?_; intro a hF
  refine take_bin (g := some (6, true)) 17 77 .eql 4 4 (.tmp 68) (.tmp 76) (.bool false) (.bool false) (.bool true) hF hS (by kernel_rfl) (by kernel_rfl) (by decide) (by kernel_rfl) (by kernel_rfl) (by kernel_rfl) (eql_bool Try.underlying4 rfl) ?_; intro a hF
  refine take_pick (g := none) 18 78 (.tmp 66) (.tmp 77) (.const (.bool false)) true (.bool true) hF hS (by kernel_rfl) (by kernel_rfl) (by decide) (by kernel_rfl) (by kernel_rfl) (by kernel_rfl) ?_; intro a hF
  refine take_move (g := none) 19 79 (.tmp 78) (.bool true) hF hS (by kernel_rfl) (by kernel_rfl) (by decide) (by kernel_rfl) (by kernel_rfl) ?_; intro a hF
  refine take_move (g := some (19, true)) 20 80 (.tmp 17) (.int .i64 4) hF hS (by kernel_rfl) (by kernel_rfl) (by decide) (by kernel_rfl) (by kernel_rfl) ?_; intro a hF
  refine take_bin (g := some (19, true)) 21 81 .eql 24 24 (.tmp 80) (.const (.int .i64 0)) (.int .i64 4) (.int .i64 0) (.bool false) hF hS (by kernel_rfl) (by kernel_rfl) (by decide) (by kernel_rfl) (by kernel_rfl) (by kernel_rfl) (eql_int rfl) ?_; intro a hF
  refine take_move (g := some (19, true)) 22 82 (.tmp 81) (.bool false) hF hS (by kernel_rfl) (by kernel_rfl) (by decide) (by kernel_rfl) (by kernel_rfl) ?_; intro a hF
  refine take_move (g := some (22, false)) 23 83 (.tmp 17) (.int .i64 4) hF hS (by kernel_rfl) (by kernel_rfl) (by decide) (by kernel_rfl) (by kernel_rfl) ?_; intro a hF
  refine take_bin (g := some (22, false)) 24 84 .eql 24 24 (.tmp 83) (.const (.int .i64 4)) (.int .i64 4) (.int .i64 4) (.bool true) hF hS (by kernel_rfl) (by kernel_rfl) (by decide) (by kernel_rfl) (by kernel_rfl) (by kernel_rfl) (eql_int rfl) ?_; intro a hF
  refine take_pick (g := some (19, true)) 25 85 (.tmp 82) (.const (.bool true)) (.tmp 84) false (.bool true) hF hS (by kernel_rfl) (by kernel_rfl) (by decide) (by kernel_rfl) (by kernel_rfl) (by kernel_rfl) ?_; intro a hF
  refine take_pick (g := none) 26 86 (.tmp 79) (.tmp 85) (.const (.bool false)) true (.bool true) hF hS (by kernel_rfl) (by kernel_rfl) (by decide) (by kernel_rfl) (by kernel_rfl) (by kernel_rfl) ?_; intro a hF
  refine take_move (g := none) 27 87 (.tmp 86) (.bool true) hF hS (by kernel_rfl) (by kernel_rfl) (by decide) (by kernel_rfl) (by kernel_rfl) ?_; intro a hF
  refine take_move (g := some (27, true)) 28 88 (.tmp 0) (.slice ad bs.length c) hF hS (by kernel_rfl) (by kernel_rfl) (by decide) (by kernel_rfl) (by kernel_rfl) ?_; intro a hF
  refine take_move (g := some (27, true)) 32 92 (.tmp 0) (.slice ad bs.length c) hF hS (by kernel_rfl) (by kernel_rfl) (by decide) (by kernel_rfl) (by kernel_rfl) ?_; intro a hF
  refine take_conv (g := some (27, true)) 33 93 22 9 (.tmp 92) (.slice ad bs.length c) (.string ⟨bs.toArray⟩) hF hS (by kernel_rfl) (by kernel_rfl) (by decide) (by kernel_rfl) (by kernel_rfl) (fun W h => (hv0.below h).str) ?_; intro a hF
  refine draw_relist (done' := [33, 32, 28, 27, 26, 25, 24, 23, 22, 21, 20, 19, 18, 17, 16, 15, 14, 13, 12, 11, 10, 9, 8, 7, 6, 5, 4, 3, 2, 1, 0]) (fuel' := 9) (by kernel_rfl) rfl ?_
  exact wo_rest bs hb ad c w _ _ (hF.sub _ (by kernel_rfl)) hv0 hB0

end Go.Proofs.Ytllpohacomknfaa
