/- WireBytes' region that draws its order. -/
import Derived.Test.YtllpohacomknfaaPutBK
import Derived.Test.YtllpohacomknfaaWnReg
namespace Go.Proofs.Ytllpohacomknfaa
open Go.RowKit Go.Shelf
set_option linter.unusedVariables false
set_option linter.unusedSimpArgs false

set_option maxRecDepth 100000 in
set_option maxHeartbeats 4000000 in
theorem wb_rest (bs s : List UInt8) (hb : bs.length + s.length + 4096 ≤ 140737488355328) (v u z v1 : Value) (w W : World) (a : Act)
    (hF : Fr 58 a [(46, .string ⟨(bs ++ pb s).toArray⟩), (47, z), (48, v), (50, u), (42, .bool true)]) (hv0 : RB w v bs) (hu0 : RB w u s) (hB : Below w.heap.size w W) (ho1 : W.ownsRow w.heap.size 5 1 v1 (bs ++ pb s).length ((bs ++ pb s).map encU)) (hou : W.ownsRow w.heap.size 5 1 z ([] : List UInt8).length (([] : List UInt8).map encU))
    (hne : ∀ k, v1.ownBlock = some k → z.ownBlock ≠ some k) :
    wpAnyH Try.prog .any (regOps Try.f4 3) (QN (Tells 58 6 w)) (S1 w v1 (bs ++ pb s)) 9 (lst 32 [23, 21, 20, 19, 18, 17, 16, 15, 14, 13, 12, 11, 10, 9, 8, 7, 6, 5, 4, 3, 2, 1, 0]) a W := by
  have hv := hv0.below hB
  have hbase := hB.size
  refine draw_only (i := 22) (by kernel_rfl) (step_of (i := 22) (d := 49) (op := .call { callee := .builtin .append, args := #[.tmp 47, .tmp 48], argTypes := #[22, 22] }) (g := some (15, true)) (by kernel_rfl) hF (by kernel_rfl) fun o ho hdst => ?_)
  refine wp_append_rbk _ _ ho w.heap.size z [] (hF.ev (by rfl)) hou v bs (hF.ev (by rfl)) hv (by simp; omega) hbase ?_
  intro v2 w2 ho2 hk2 hw2
  rw [hdst]
  have hF := hF.put 49 (by decide) v2
  generalize a.put (some 49) v2 = a at hF ⊢
  have hB2 : Below w.heap.size w w2 := hB.trans (hk2.below w.heap.size hbase (fun k hk => (hou.lt k hk).1))
  have ho1' := row_kept ho1 hk2 hne
  have hne' := apart_next ho1 hne hw2
  refine ⟨⟨hB2, RB.of_row ho1'⟩, ?_⟩
  simp only [List.nil_append] at ho2
  refine draw_only (i := 24) (by kernel_rfl) ?_
  refine step_call (ts := #[22, 22]) 24 51 22 #[.tmp 49, .tmp 50] [v2, u] (g := some (15, true)) hF (by kernel_rfl) (by decide) (by kernel_rfl) (by kernel_rfl) (enters_of Try.func22 (by kernel_rfl) rfl) ?_
  refine (put22k w.heap.size bs s (by omega) v2 u w w2 hu0 (Nat.le_refl _) hB2 hB2.size ho2).mono ?_
  rintro e w3 ⟨v3, rfl, ho3, hk3, hw3⟩
  refine ⟨v3, rfl, fun a hF => ?_⟩
  have hB3 : Below w.heap.size w w3 := hB2.trans (hk3.below w.heap.size hB2.size (fun k hk => (ho2.lt k hk).1))
  have ho1'' := row_kept ho1' hk3 hne'
  have hS : S1 w v1 (bs ++ pb s) w3 := ⟨hB3, RB.of_row ho1''⟩
  refine ⟨hS, ?_⟩
  refine draw_only (i := 25) (by kernel_rfl) (step_conv 25 52 22 9 (.tmp 51) v3 (.string ⟨(bs ++ pb s).toArray⟩) (g := some (15, true)) hF (by kernel_rfl) (by decide) (by kernel_rfl) (by kernel_rfl) (RB.of_row ho3).str ?_)
  intro a hF
  refine ⟨hS, ?_⟩
  refine take_bin (g := some (15, true)) 26 53 .eql 9 9 (.tmp 46) (.tmp 52) (.string ⟨(bs ++ pb s).toArray⟩) (.string ⟨(bs ++ pb s).toArray⟩) (.bool true) hF hS (by kernel_rfl) (by kernel_rfl) (by decide) (by kernel_rfl) (by kernel_rfl) (by kernel_rfl) (eql_str rfl) ?_; intro a hF
  refine take_pick (g := none) 27 54 (.tmp 42) (.tmp 53) (.const (.bool false)) true (.bool true) hF hS (by kernel_rfl) (by kernel_rfl) (by decide) (by kernel_rfl) (by kernel_rfl) (by kernel_rfl) ?_; intro a hF
  refine take_move (g := none) 28 55 (.tmp 54) (.bool true) hF hS (by kernel_rfl) (by kernel_rfl) (by decide) (by kernel_rfl) (by kernel_rfl) ?_; intro a hF
  refine draw_only (i := 29) (by kernel_rfl) ?_
  refine step_call (ts := #[]) 29 56 18 #[] [] (g := some (28, true)) hF (by kernel_rfl) (by decide) (by kernel_rfl) (by kernel_rfl) (enters_of Try.func18 (by kernel_rfl) rfl) ?_
  refine (awake18 w3).mono ?_
  rintro e w7 ⟨rfl, hB7⟩
  refine ⟨_, rfl, fun a hF => ?_⟩
  have hS : S1 w v1 (bs ++ pb s) w7 := ⟨hB3.trans (hB7.mono hB3.size), (RB.of_row ho1'').below hB7⟩
  refine ⟨hS, ?_⟩
  refine take_pick (g := none) 30 57 (.tmp 55) (.tmp 56) (.const (.bool false)) true (.bool true) hF hS (by kernel_rfl) (by kernel_rfl) (by decide) (by kernel_rfl) (by kernel_rfl) (by kernel_rfl) ?_; intro a hF
  refine take_assign (g := none) 31 6 (.tmp 57) (.bool true) hF hS (by kernel_rfl) (by kernel_rfl) (by decide) (by kernel_rfl) (by kernel_rfl) ?_; intro a hF
  exact draw_done (by kernel_rfl) ⟨hF.sub _ (by kernel_rfl), hS.1⟩

set_option maxRecDepth 100000 in
set_option maxHeartbeats 4000000 in
theorem wb_pre (bs s : List UInt8) (hb : bs.length + s.length + 4096 ≤ 140737488355328) (t : List UInt8) (k e : Int) (v u xv yv : Value) (w : World) (a : Act)
    (hF : Fr 58 a [(0, v), (1, u), (7, xv), (8, .int .i64 k), (9, .int .i64 e), (10, yv), (11, .int .i64 k), (12, .int .i64 e)]) (hv0 : RB w v bs) (hu0 : RB w u s) (hx : RB w xv t) (hy : RB w yv t) :
    wpAnyH Try.prog .any (regOps Try.f4 3) (QN (Tells 58 6 w)) (S0 w) 32 (lst 32 []) a w.drew := by
  have hB0 : Below w.heap.size w w.drew := (Below.refl _ _).drew
  have hS : S0 w w.drew := hB0
  refine take_move (g := none) 0 27 (.tmp 7) (xv) hF hS (by kernel_rfl) (by kernel_rfl) (by decide) (by kernel_rfl) (by kernel_rfl) ?_; intro a hF
  refine take_conv (g := none) 1 28 22 9 (.tmp 27) (xv) (.string ⟨t.toArray⟩) hF hS (by kernel_rfl) (by kernel_rfl) (by decide) (by kernel_rfl) (by kernel_rfl) (fun W h => (hx.below h).str) ?_; intro a hF
  refine take_move (g := none) 2 29 (.tmp 10) (yv) hF hS (by kernel_rfl) (by kernel_rfl) (by decide) (by kernel_rfl) (by kernel_rfl) ?_; intro a hF
  refine take_conv (g := none) 3 30 22 9 (.tmp 29) (yv) (.string ⟨t.toArray⟩) hF hS (by kernel_rfl) (by kernel_rfl) (by decide) (by kernel_rfl) (by kernel_rfl) (fun W h => (hy.below h).str) ?_; intro a hF
  refine take_bin (g := none) 4 31 .eql 9 9 (.tmp 28) (.tmp 30) (.string ⟨t.toArray⟩) (.string ⟨t.toArray⟩) (.bool true) hF hS (by kernel_rfl) (by kernel_rfl) (by decide) (by kernel_rfl) (by kernel_rfl) (by kernel_rfl) (eql_str rfl) ?_; intro a hF
  refine take_move (g := none) 5 32 (.tmp 31) (.bool true) hF hS (by kernel_rfl) (by kernel_rfl) (by decide) (by kernel_rfl) (by kernel_rfl) ?_; intro a hF
  refine take_move (g := some (5, true)) 6 33 (.tmp 8) (.int .i64 k) hF hS (by kernel_rfl) (by kernel_rfl) (by decide) (by kernel_rfl) (by kernel_rfl) ?_; intro a hF
  refine take_move (g := some (5, true)) 7 34 (.tmp 11) (.int .i64 k) hF hS (by kernel_rfl) (by kernel_rfl) (by decide) (by kernel_rfl) (by kernel_rfl) ?_; intro a hF
  refine take_bin (g := some (5, true)) 8 35 .eql 3 3 (.tmp 33) (.tmp 34) (.int .i64 k) (.int .i64 k) (.bool true) hF hS (by kernel_rfl) (by kernel_rfl) (by decide) (by kernel_rfl) (by kernel_rfl) (by kernel_rfl) (eql_int (by simp)) ?_; intro a hF
  refine take_pick (g := none) 9 36 (.tmp 32) (.tmp 35) (.const (.bool false)) true (.bool true) hF hS (by kernel_rfl) (by kernel_rfl) (by decide) (by kernel_rfl) (by kernel_rfl) (by kernel_rfl) ?_; intro a hF
  refine take_move (g := none) 10 37 (.tmp 36) (.bool true) hF hS (by kernel_rfl) (by kernel_rfl) (by decide) (by kernel_rfl) (by kernel_rfl) ?_; intro a hF
  refine take_move (g := some (10, true)) 11 38 (.tmp 9) (.int .i64 e) hF hS (by kernel_rfl) (by kernel_rfl) (by decide) (by kernel_rfl) (by kernel_rfl) ?_; intro a hF
  refine take_move (g := some (10, true)) 12 39 (.tmp 12) (.int .i64 e) hF hS (by kernel_rfl) (by kernel_rfl) (by decide) (by kernel_rfl) (by kernel_rfl) ?_; intro a hF
  refine take_bin (g := some (10, true)) 13 40 .eql 24 24 (.tmp 38) (.tmp 39) (.int .i64 e) (.int .i64 e) (.bool true) hF hS (by kernel_rfl) (by kernel_rfl) (by decide) (by kernel_rfl) (by kernel_rfl) (by kernel_rfl) (eql_int (by simp)) ?_; intro a hF
  refine take_pick (g := none) 14 41 (.tmp 37) (.tmp 40) (.const (.bool false)) true (.bool true) hF hS (by kernel_rfl) (by kernel_rfl) (by decide) (by kernel_rfl) (by kernel_rfl) (by kernel_rfl) ?_; intro a hF
  refine take_move (g := none) 15 42 (.tmp 41) (.bool true) hF hS (by kernel_rfl) (by kernel_rfl) (by decide) (by kernel_rfl) (by kernel_rfl) ?_; intro a hF
  refine take_move (g := some (15, true)) 16 43 (.tmp 0) (v) hF hS (by kernel_rfl) (by kernel_rfl) (by decide) (by kernel_rfl) (by kernel_rfl) ?_; intro a hF
  refine take_move (g := some (15, true)) 17 44 (.tmp 1) (u) hF hS (by kernel_rfl) (by kernel_rfl) (by decide) (by kernel_rfl) (by kernel_rfl) ?_; intro a hF
  refine take_move (g := some (15, true)) 21 48 (.tmp 0) (v) hF hS (by kernel_rfl) (by kernel_rfl) (by decide) (by kernel_rfl) (by kernel_rfl) ?_; intro a hF
  refine take_move (g := some (15, true)) 23 50 (.tmp 1) (u) hF hS (by kernel_rfl) (by kernel_rfl) (by decide) (by kernel_rfl) (by kernel_rfl) ?_; intro a hF
  have hF := hF.sub [(43, v), (44, u), (48, v), (50, u), (42, .bool true)] (by kernel_rfl)
  refine draw_either (i := 18) (j := 20) (by kernel_rfl) ?_ ?_
  · refine step_call (ts := #[22, 22]) 18 45 21 #[.tmp 43, .tmp 44] [v, u] (g := some (15, true)) hF (by kernel_rfl) (by decide) (by kernel_rfl) (by kernel_rfl) (enters_of Try.func21 (by kernel_rfl) rfl) ?_
    refine (put21 bs s (by omega) v u _ (hv0.below hB0) (hu0.below hB0)).mono ?_
    rintro e w1 ⟨v1, rfl, ho1, hB1⟩
    refine ⟨v1, rfl, fun a hF => ?_⟩
    have hB1' : Below w.heap.size w w1 := hB0.trans hB1
    have hS : S1 w v1 (bs ++ pb s) w1 := ⟨hB1', RB.of_row ho1⟩
    refine ⟨hS.1, draw_stronger (S' := S1 w v1 (bs ++ pb s)) (fun W h => h.1) _ _ _ _ ?_⟩
    refine take_conv (g := some (15, true)) 19 46 22 9 (.tmp 45) (v1) (.string ⟨(bs ++ pb s).toArray⟩) hF hS (by kernel_rfl) (by kernel_rfl) (by decide) (by kernel_rfl) (by kernel_rfl) (fun W h => h.2.str) ?_; intro a hF
    refine draw_only (i := 20) (by kernel_rfl) (step_of (i := 20) (d := 47) (op := .buildSlice 22 0 #[]) (g := some (15, true)) (by kernel_rfl) hF (by kernel_rfl) fun o ho hdst => wp_build_empty ho ?_)
    rw [hdst]
    have hF := hF.put 47 (by decide) (.slice (some ⟨w1.heap.size, 0, none⟩) 0 0)
    have hBa : Below w1.heap.size w1 (w1.alloc (.cells #[] 5)) := (Below.refl _ _).alloc (Nat.le_refl _) _
    refine ⟨⟨hS.1.trans (hBa.mono hS.1.size), hS.2.below hBa⟩, ?_⟩
    refine draw_relist (done' := [23, 21, 20, 19, 18, 17, 16, 15, 14, 13, 12, 11, 10, 9, 8, 7, 6, 5, 4, 3, 2, 1, 0]) (fuel' := 9) (by kernel_rfl) rfl ?_
    exact wb_rest bs s hb v u _ v1 w _ _ (hF.sub _ (by kernel_rfl)) hv0 hu0 (hB1'.trans (hBa.mono hB1'.size)) (ho1.alloc _) (empty_row w1 hB1'.size) (fun k hk e => by have := (ho1.lt k hk).2; simp [Value.ownBlock] at e; omega)
  · refine step_of (i := 20) (d := 47) (op := .buildSlice 22 0 #[]) (g := some (15, true)) (by kernel_rfl) hF (by kernel_rfl) fun o ho hdst => wp_build_empty ho ?_
    rw [hdst]
    have hF := hF.put 47 (by decide) (.slice (some ⟨w.drew.heap.size, 0, none⟩) 0 0)
    generalize a.put (some 47) (.slice (some ⟨w.drew.heap.size, 0, none⟩) 0 0) = a at hF ⊢
    have hBa : Below w.heap.size w (w.drew.alloc (.cells #[] 5)) := hB0.alloc (Nat.le_refl _) _
    refine ⟨hBa, draw_only (i := 18) (by kernel_rfl) ?_⟩
    refine step_call (ts := #[22, 22]) 18 45 21 #[.tmp 43, .tmp 44] [v, u] (g := some (15, true)) hF (by kernel_rfl) (by decide) (by kernel_rfl) (by kernel_rfl) (enters_of Try.func21 (by kernel_rfl) rfl) ?_
    refine (put21 bs s (by omega) v u _ (hv0.below hBa) (hu0.below hBa)).mono ?_
    rintro e w1 ⟨v1, rfl, ho1, hB1⟩
    refine ⟨v1, rfl, fun a hF => ?_⟩
    have hB1' : Below w.heap.size w w1 := hBa.trans (hB1.mono hBa.size)
    have hS : S1 w v1 (bs ++ pb s) w1 := ⟨hB1', RB.of_row ho1⟩
    refine ⟨hS.1, draw_stronger (S' := S1 w v1 (bs ++ pb s)) (fun W h => h.1) _ _ _ _ ?_⟩
    refine take_conv (g := some (15, true)) 19 46 22 9 (.tmp 45) (v1) (.string ⟨(bs ++ pb s).toArray⟩) hF hS (by kernel_rfl) (by kernel_rfl) (by decide) (by kernel_rfl) (by kernel_rfl) (fun W h => h.2.str) ?_; intro a hF
    refine draw_relist (done' := [23, 21, 20, 19, 18, 17, 16, 15, 14, 13, 12, 11, 10, 9, 8, 7, 6, 5, 4, 3, 2, 1, 0]) (fuel' := 9) (by kernel_rfl) rfl ?_
    exact wb_rest bs s hb v u _ v1 w _ _ (hF.sub _ (by kernel_rfl)) hv0 hu0 hB1' (row_base ho1 hBa.size) (row_below (empty_row w.drew (Nat.le_refl _)) hB1) (fun k hk e => by have := (ho1.lt k hk).1; simp [Value.ownBlock] at e this; omega)
end Go.Proofs.Ytllpohacomknfaa
