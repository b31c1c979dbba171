/- WireNumbers' region that draws its order. -/
import Derived.Test.YtllpohacomknfaaStepK
import Derived.Test.YtllpohacomknfaaDraw
namespace Go.Proofs.Ytllpohacomknfaa
open Go.RowKit Go.Shelf
set_option linter.unusedVariables false
set_option linter.unusedSimpArgs false

/-- What holds behind the region. -/
def Tells (n d : Nat) (w : World) (a : Act) (w' : World) : Prop := Fr n a [(d, .bool true)] ∧ Below w.heap.size w w'

/-- What stays as rows come about: what lay there, and a row that is still to be read. -/
def S0 (w : World) (W : World) : Prop := Below w.heap.size w W
def S1 (w : World) (u : Value) (s : List UInt8) (W : World) : Prop := Below w.heap.size w W ∧ RB W u s
def S2 (w : World) (u : Value) (s : List UInt8) (u' : Value) (s' : List UInt8) (W : World) : Prop := S1 w u s W ∧ RB W u' s'

/-- An empty slice made. -/
theorem wp_build_empty {o : Oper} {a : Act} {w : World} {R : Act → World → Prop} {Q : Exit → Act → World → Prop} (ho : o.op = .buildSlice 22 0 #[]) (h : R (a.put o.dst (.slice (some ⟨w.heap.size, 0, none⟩) 0 0)) (w.alloc (.cells #[] 5))) : Oper.wp Try.prog o a w R Q := by
  obtain ⟨i0, hi, hz0, hz1, hz2⟩ := info_parts info5
  have ht := Try.underlying22
  unfold Oper.wp
  simp only [execOp, ho]
  go_simp
  exact h

/-- A row that an append has not met stays apart. -/
theorem apart_next {u v v' : Value} {W : World} {base e size n : Nat} {xs : List Value} (ho : W.ownsRow base e size u n xs) (hne : ∀ k, u.ownBlock = some k → v.ownBlock ≠ some k) (hw : v'.ownBlock = v.ownBlock ∨ ∀ b, v'.ownBlock = some b → W.heap.size ≤ b) : ∀ k, u.ownBlock = some k → v'.ownBlock ≠ some k := by
  intro k hk e
  rcases hw with e' | e'
  · exact hne k hk (e' ▸ e)
  · have := e' k e
    have := (ho.lt k hk).2
    omega

set_option maxRecDepth 100000 in
set_option maxHeartbeats 4000000 in
theorem wn_rest2 (bs : List UInt8) (hb : bs.length + 4096 ≤ 140737488355328) (i : Int) (h1 : -9223372036854775808 ≤ i) (h2 : i ≤ 9223372036854775807) (v u v1 v4 : Value) (s1 : List UInt8) (w w3 W : World) (a : Act)
    (hF : Fr 112 a [(100, .string ⟨(bs ++ dig (usg i)).toArray⟩), (101, u), (102, v), (104, .int .i64 i), (96, .bool true)]) (hw3 : Below w.heap.size w w3) (hr1 : RB w3 v1 s1) (hv3 : RB w3 v bs) (hB : Below w3.heap.size w3 W) (ho4 : W.ownsRow w3.heap.size 5 1 v4 (bs ++ dig (usg i)).length ((bs ++ dig (usg i)).map encU)) (hou : W.ownsRow w3.heap.size 5 1 u ([] : List UInt8).length (([] : List UInt8).map encU))
    (hne : ∀ k, v4.ownBlock = some k → u.ownBlock ≠ some k) :
    wpAnyH Try.prog .any (regOps Try.f3 5) (QN (Tells 112 6 w)) (S2 w v1 s1 v4 (bs ++ dig (usg i))) 9 (lst 70 [61, 59, 58, 57, 56, 55, 54, 53, 52, 51, 50, 49, 48, 47, 46, 45, 44, 43, 42, 41, 40, 39, 38, 37, 36, 35, 34, 33, 32, 31, 30, 29, 28, 27, 26, 25, 24, 23, 22, 21, 20, 19, 18, 17, 16, 15, 14, 13, 12, 11, 10, 9, 8, 7, 6, 5, 4, 3, 2, 1, 0]) a W := by
  have hv := hv3.below hB
  have hbase := hB.size
  refine draw_only (i := 60) (by kernel_rfl) (step_of (i := 60) (d := 103) (op := .call { callee := .builtin .append, args := #[.tmp 101, .tmp 102], argTypes := #[22, 22] }) (g := some (53, true)) (by kernel_rfl) hF (by kernel_rfl) fun o ho hdst => ?_)
  refine wp_append_rbk _ _ ho w3.heap.size u [] (hF.ev (by rfl)) hou v bs (hF.ev (by rfl)) hv (by simp; omega) hbase ?_
  intro v5 w5 ho2 hk2 hw2
  rw [hdst]
  have hF := hF.put 103 (by decide) v5
  generalize a.put (some 103) v5 = a at hF ⊢
  have hB2 : Below w3.heap.size w3 w5 := hB.trans (hk2.below w3.heap.size hbase (fun k hk => (hou.lt k hk).1))
  have ho4' := row_kept ho4 hk2 hne
  have hne' := apart_next ho4 hne hw2
  refine ⟨⟨⟨hw3.trans (hB2.mono hw3.size), hr1.below hB2⟩, RB.of_row ho4'⟩, ?_⟩
  simp only [List.nil_append] at ho2
  refine draw_only (i := 62) (by kernel_rfl) ?_
  refine step_call (ts := #[22, 2]) 62 105 17 #[.tmp 103, .tmp 104] [v5, .int .i64 i] (g := some (53, true)) hF (by kernel_rfl) (by decide) (by kernel_rfl) (by kernel_rfl) (enters_of Try.func17 (by kernel_rfl) rfl) ?_
  refine (puti17k w3.heap.size i h1 h2 bs (by omega) v5 w5 hB2.size ho2).mono ?_
  rintro e w6 ⟨v6, rfl, ho6, hk6, hw6⟩
  refine ⟨v6, rfl, fun a hF => ?_⟩
  have hB6 : Below w3.heap.size w3 w6 := hB2.trans (hk6.below w3.heap.size hB2.size (fun k hk => (ho2.lt k hk).1))
  have ho4'' := row_kept ho4' hk6 hne'
  have hS : S2 w v1 s1 v4 (bs ++ dig (usg i)) w6 := ⟨⟨hw3.trans (hB6.mono hw3.size), hr1.below hB6⟩, RB.of_row ho4''⟩
  refine ⟨hS, ?_⟩
  refine draw_only (i := 63) (by kernel_rfl) (step_conv 63 106 22 9 (.tmp 105) v6 (.string ⟨(bs ++ dig (usg i)).toArray⟩) (g := some (53, true)) hF (by kernel_rfl) (by decide) (by kernel_rfl) (by kernel_rfl) (RB.of_row ho6).str ?_)
  intro a hF
  refine ⟨hS, ?_⟩
  refine take_bin (g := some (53, true)) 64 107 .eql 9 9 (.tmp 100) (.tmp 106) (.string ⟨(bs ++ dig (usg i)).toArray⟩) (.string ⟨(bs ++ dig (usg i)).toArray⟩) (.bool true) hF hS (by kernel_rfl) (by kernel_rfl) (by decide) (by kernel_rfl) (by kernel_rfl) (by kernel_rfl) (eql_str rfl) ?_; intro a hF
  refine take_pick (g := none) 65 108 (.tmp 96) (.tmp 107) (.const (.bool false)) true (.bool true) hF hS (by kernel_rfl) (by kernel_rfl) (by decide) (by kernel_rfl) (by kernel_rfl) (by kernel_rfl) ?_; intro a hF
  refine take_move (g := none) 66 109 (.tmp 108) (.bool true) hF hS (by kernel_rfl) (by kernel_rfl) (by decide) (by kernel_rfl) (by kernel_rfl) ?_; intro a hF
  refine draw_only (i := 67) (by kernel_rfl) ?_
  refine step_call (ts := #[]) 67 110 18 #[] [] (g := some (66, true)) hF (by kernel_rfl) (by decide) (by kernel_rfl) (by kernel_rfl) (enters_of Try.func18 (by kernel_rfl) rfl) ?_
  refine (awake18 w6).mono ?_
  rintro e w7 ⟨rfl, hB7⟩
  refine ⟨_, rfl, fun a hF => ?_⟩
  have hS : S2 w v1 s1 v4 (bs ++ dig (usg i)) w7 := ⟨⟨hw3.trans ((hB6.trans (hB7.mono hB6.size)).mono hw3.size), (hr1.below hB6).below hB7⟩, (RB.of_row ho4'').below hB7⟩
  refine ⟨hS, ?_⟩
  refine take_pick (g := none) 68 111 (.tmp 109) (.tmp 110) (.const (.bool false)) true (.bool true) hF hS (by kernel_rfl) (by kernel_rfl) (by decide) (by kernel_rfl) (by kernel_rfl) (by kernel_rfl) ?_; intro a hF
  refine take_assign (g := none) 69 6 (.tmp 111) (.bool true) hF hS (by kernel_rfl) (by kernel_rfl) (by decide) (by kernel_rfl) (by kernel_rfl) ?_; intro a hF
  exact draw_done (by kernel_rfl) ⟨hF.sub _ (by kernel_rfl), hS.1.1⟩

set_option maxRecDepth 100000 in
set_option maxHeartbeats 4000000 in
theorem wn_rest1 (bs : List UInt8) (hb : bs.length + 4096 ≤ 140737488355328) (m : Nat) (hm : m < 2 ^ 64) (i : Int) (h1 : -9223372036854775808 ≤ i) (h2 : i ≤ 9223372036854775807) (v u v1 : Value) (w W : World) (a : Act)
    (hF : Fr 112 a [(87, .string ⟨(bs ++ dig m).toArray⟩), (88, u), (89, v), (91, .int .u64 (m : Int)), (83, .bool true), (0, v), (2, .int .i64 i)]) (hv0 : RB w v bs) (hB : Below w.heap.size w W) (ho1 : W.ownsRow w.heap.size 5 1 v1 (bs ++ dig m).length ((bs ++ dig m).map encU)) (hou : W.ownsRow w.heap.size 5 1 u ([] : List UInt8).length (([] : List UInt8).map encU))
    (hne : ∀ k, v1.ownBlock = some k → u.ownBlock ≠ some k) :
    wpAnyH Try.prog .any (regOps Try.f3 5) (QN (Tells 112 6 w)) (S1 w v1 (bs ++ dig m)) 22 (lst 70 [48, 46, 45, 44, 43, 42, 41, 40, 39, 38, 37, 36, 35, 34, 33, 32, 31, 30, 29, 28, 27, 26, 25, 24, 23, 22, 21, 20, 19, 18, 17, 16, 15, 14, 13, 12, 11, 10, 9, 8, 7, 6, 5, 4, 3, 2, 1, 0]) a W := by
  have hv := hv0.below hB
  have hbase := hB.size
  refine draw_only (i := 47) (by kernel_rfl) (step_of (i := 47) (d := 90) (op := .call { callee := .builtin .append, args := #[.tmp 88, .tmp 89], argTypes := #[22, 22] }) (g := some (40, true)) (by kernel_rfl) hF (by kernel_rfl) fun o ho hdst => ?_)
  refine wp_append_rbk _ _ ho w.heap.size u [] (hF.ev (by rfl)) hou v bs (hF.ev (by rfl)) hv (by simp; omega) hbase ?_
  intro v2 w2 ho2 hk2 hw2
  rw [hdst]
  have hF := hF.put 90 (by decide) v2
  generalize a.put (some 90) v2 = a at hF ⊢
  have hB2 : Below w.heap.size w w2 := hB.trans (hk2.below w.heap.size hbase (fun k hk => (hou.lt k hk).1))
  have ho1' := row_kept ho1 hk2 hne
  have hne' := apart_next ho1 hne hw2
  refine ⟨⟨hB2, RB.of_row ho1'⟩, ?_⟩
  simp only [List.nil_append] at ho2
  refine draw_only (i := 49) (by kernel_rfl) ?_
  refine step_call (ts := #[22, 23]) 49 92 15 #[.tmp 90, .tmp 91] [v2, .int .u64 (m : Int)] (g := some (40, true)) hF (by kernel_rfl) (by decide) (by kernel_rfl) (by kernel_rfl) (enters_of Try.func15 (by kernel_rfl) rfl) ?_
  refine (put15k w.heap.size m hm bs (by omega) v2 w2 hB2.size ho2).mono ?_
  rintro e w3 ⟨v3, rfl, ho3, hk3, hw3⟩
  refine ⟨v3, rfl, fun a hF => ?_⟩
  have hB3 : Below w.heap.size w w3 := hB2.trans (hk3.below w.heap.size hB2.size (fun k hk => (ho2.lt k hk).1))
  have ho1'' := row_kept ho1' hk3 hne'
  have hr1 := RB.of_row ho1''
  have hS : S1 w v1 (bs ++ dig m) w3 := ⟨hB3, hr1⟩
  refine ⟨hS, ?_⟩
  refine draw_only (i := 50) (by kernel_rfl) (step_conv 50 93 22 9 (.tmp 92) v3 (.string ⟨(bs ++ dig m).toArray⟩) (g := some (40, true)) hF (by kernel_rfl) (by decide) (by kernel_rfl) (by kernel_rfl) (RB.of_row ho3).str ?_)
  intro a hF
  refine ⟨hS, ?_⟩
  refine take_bin (g := some (40, true)) 51 94 .eql 9 9 (.tmp 87) (.tmp 93) (.string ⟨(bs ++ dig m).toArray⟩) (.string ⟨(bs ++ dig m).toArray⟩) (.bool true) hF hS (by kernel_rfl) (by kernel_rfl) (by decide) (by kernel_rfl) (by kernel_rfl) (by kernel_rfl) (eql_str rfl) ?_; intro a hF
  refine take_pick (g := none) 52 95 (.tmp 83) (.tmp 94) (.const (.bool false)) true (.bool true) hF hS (by kernel_rfl) (by kernel_rfl) (by decide) (by kernel_rfl) (by kernel_rfl) (by kernel_rfl) ?_; intro a hF
  refine take_move (g := none) 53 96 (.tmp 95) (.bool true) hF hS (by kernel_rfl) (by kernel_rfl) (by decide) (by kernel_rfl) (by kernel_rfl) ?_; intro a hF
  refine take_move (g := some (53, true)) 54 97 (.tmp 0) (v) hF hS (by kernel_rfl) (by kernel_rfl) (by decide) (by kernel_rfl) (by kernel_rfl) ?_; intro a hF
  refine take_move (g := some (53, true)) 55 98 (.tmp 2) (.int .i64 i) hF hS (by kernel_rfl) (by kernel_rfl) (by decide) (by kernel_rfl) (by kernel_rfl) ?_; intro a hF
  refine take_move (g := some (53, true)) 59 102 (.tmp 0) (v) hF hS (by kernel_rfl) (by kernel_rfl) (by decide) (by kernel_rfl) (by kernel_rfl) ?_; intro a hF
  refine take_move (g := some (53, true)) 61 104 (.tmp 2) (.int .i64 i) hF hS (by kernel_rfl) (by kernel_rfl) (by decide) (by kernel_rfl) (by kernel_rfl) ?_; intro a hF
  have hv3 := hv0.below hB3
  refine draw_either (i := 56) (j := 58) (by kernel_rfl) ?_ ?_
  · refine step_call (ts := #[22, 2]) 56 99 16 #[.tmp 97, .tmp 98] [v, .int .i64 i] (g := some (53, true)) hF (by kernel_rfl) (by decide) (by kernel_rfl) (by kernel_rfl) (enters_of Try.func16 (by kernel_rfl) rfl) ?_
    refine (puti16 i h1 h2 bs (by omega) v w3 hv3).mono ?_
    rintro e w4 ⟨v4, rfl, ho4, hB4⟩
    refine ⟨v4, rfl, fun a hF => ?_⟩
    have hS : S2 w v1 (bs ++ dig m) v4 (bs ++ dig (usg i)) w4 := ⟨⟨hB3.trans (hB4.mono hB3.size), hr1.below hB4⟩, RB.of_row ho4⟩
    refine ⟨hS.1, draw_stronger (S' := S2 w v1 (bs ++ dig m) v4 (bs ++ dig (usg i))) (fun W h => h.1) _ _ _ _ ?_⟩
    refine take_conv (g := some (53, true)) 57 100 22 9 (.tmp 99) (v4) (.string ⟨(bs ++ dig (usg i)).toArray⟩) hF hS (by kernel_rfl) (by kernel_rfl) (by decide) (by kernel_rfl) (by kernel_rfl) (fun W h => h.2.str) ?_; intro a hF
    refine draw_only (i := 58) (by kernel_rfl) (step_of (i := 58) (d := 101) (op := .buildSlice 22 0 #[]) (g := some (53, true)) (by kernel_rfl) hF (by kernel_rfl) fun o ho hdst => wp_build_empty ho ?_)
    rw [hdst]
    have hF := hF.put 101 (by decide) (.slice (some ⟨w4.heap.size, 0, none⟩) 0 0)
    have hBa : Below w4.heap.size w4 (w4.alloc (.cells #[] 5)) := (Below.refl _ _).alloc (Nat.le_refl _) _
    refine ⟨⟨⟨hS.1.1.trans (hBa.mono hS.1.1.size), hS.1.2.below hBa⟩, hS.2.below hBa⟩, ?_⟩
    refine draw_relist (done' := [61, 59, 58, 57, 56, 55, 54, 53, 52, 51, 50, 49, 48, 47, 46, 45, 44, 43, 42, 41, 40, 39, 38, 37, 36, 35, 34, 33, 32, 31, 30, 29, 28, 27, 26, 25, 24, 23, 22, 21, 20, 19, 18, 17, 16, 15, 14, 13, 12, 11, 10, 9, 8, 7, 6, 5, 4, 3, 2, 1, 0]) (fuel' := 9) (by kernel_rfl) rfl ?_
    exact wn_rest2 bs hb i h1 h2 v _ v1 v4 (bs ++ dig m) w w3 _ _ (hF.sub _ (by kernel_rfl)) hB3 hr1 hv3 (hB4.trans (hBa.mono hB4.size)) (ho4.alloc _) (empty_row w4 hB4.size) (fun k hk e => by have := (ho4.lt k hk).2; simp [Value.ownBlock] at e; omega)
  · refine step_of (i := 58) (d := 101) (op := .buildSlice 22 0 #[]) (g := some (53, true)) (by kernel_rfl) hF (by kernel_rfl) fun o ho hdst => wp_build_empty ho ?_
    rw [hdst]
    have hF := hF.put 101 (by decide) (.slice (some ⟨w3.heap.size, 0, none⟩) 0 0)
    generalize a.put (some 101) (.slice (some ⟨w3.heap.size, 0, none⟩) 0 0) = a at hF ⊢
    have hBa : Below w3.heap.size w3 (w3.alloc (.cells #[] 5)) := (Below.refl _ _).alloc (Nat.le_refl _) _
    have hSa : S1 w v1 (bs ++ dig m) (w3.alloc (.cells #[] 5)) := ⟨hB3.trans (hBa.mono hB3.size), hr1.below hBa⟩
    refine ⟨hSa, draw_only (i := 56) (by kernel_rfl) ?_⟩
    refine step_call (ts := #[22, 2]) 56 99 16 #[.tmp 97, .tmp 98] [v, .int .i64 i] (g := some (53, true)) hF (by kernel_rfl) (by decide) (by kernel_rfl) (by kernel_rfl) (enters_of Try.func16 (by kernel_rfl) rfl) ?_
    refine (puti16 i h1 h2 bs (by omega) v _ (hv3.below hBa)).mono ?_
    rintro e w4 ⟨v4, rfl, ho4, hB4⟩
    refine ⟨v4, rfl, fun a hF => ?_⟩
    have hB4' : Below w3.heap.size w3 w4 := hBa.trans (hB4.mono (by simp))
    have hS : S2 w v1 (bs ++ dig m) v4 (bs ++ dig (usg i)) w4 := ⟨⟨hB3.trans (hB4'.mono hB3.size), hr1.below hB4'⟩, RB.of_row ho4⟩
    refine ⟨hS.1, draw_stronger (S' := S2 w v1 (bs ++ dig m) v4 (bs ++ dig (usg i))) (fun W h => h.1) _ _ _ _ ?_⟩
    refine take_conv (g := some (53, true)) 57 100 22 9 (.tmp 99) (v4) (.string ⟨(bs ++ dig (usg i)).toArray⟩) hF hS (by kernel_rfl) (by kernel_rfl) (by decide) (by kernel_rfl) (by kernel_rfl) (fun W h => h.2.str) ?_; intro a hF
    refine draw_relist (done' := [61, 59, 58, 57, 56, 55, 54, 53, 52, 51, 50, 49, 48, 47, 46, 45, 44, 43, 42, 41, 40, 39, 38, 37, 36, 35, 34, 33, 32, 31, 30, 29, 28, 27, 26, 25, 24, 23, 22, 21, 20, 19, 18, 17, 16, 15, 14, 13, 12, 11, 10, 9, 8, 7, 6, 5, 4, 3, 2, 1, 0]) (fuel' := 9) (by kernel_rfl) rfl ?_
    exact wn_rest2 bs hb i h1 h2 v _ v1 v4 (bs ++ dig m) w w3 _ _ (hF.sub _ (by kernel_rfl)) hB3 hr1 hv3 hB4' (row_base ho4 (by simp)) (row_below (empty_row w3 (Nat.le_refl _)) hB4) (fun k hk e => by have := (ho4.lt k hk).1; simp [Value.ownBlock] at e this; omega)

set_option maxRecDepth 100000 in
set_option maxHeartbeats 4000000 in
theorem wn_ok (bs : List UInt8) (hb : bs.length + 4096 ≤ 140737488355328) (m : Nat) (hm : m < 2 ^ 64) (i : Int) (h1 : -9223372036854775808 ≤ i) (h2 : i ≤ 9223372036854775807) (x k e s : Int) (he : (e != 0) = false) (he' : (e == 0) = true) (v : Value) (w : World) (a : Act)
    (hF : Fr 112 a [(0, v), (1, .int .u64 (m : Int)), (2, .int .i64 i), (7, .int .u64 x), (8, .int .i64 k), (9, .int .i64 e), (10, .int .u64 x), (11, .int .i64 k), (12, .int .i64 e), (13, .int .i64 s), (14, .int .i64 k), (15, .int .i64 e), (16, .int .i64 s), (17, .int .i64 k), (18, .int .i64 e)]) (hv0 : RB w v bs) :
    wpAnyH Try.prog .any (regOps Try.f3 5) (QN (Tells 112 6 w)) (S0 w) 70 (lst 70 []) a w.drew := by
  have hB0 : Below w.heap.size w w.drew := (Below.refl _ _).drew
  have hS : S0 w w.drew := hB0
  refine take_move (g := none) 0 43 (.tmp 7) (.int .u64 x) hF hS (by kernel_rfl) (by kernel_rfl) (by decide) (by kernel_rfl) (by kernel_rfl) ?_; intro a hF
  refine take_move (g := none) 1 44 (.tmp 10) (.int .u64 x) hF hS (by kernel_rfl) (by kernel_rfl) (by decide) (by kernel_rfl) (by kernel_rfl) ?_; intro a hF
  refine take_bin (g := none) 2 45 .eql 23 23 (.tmp 43) (.tmp 44) (.int .u64 x) (.int .u64 x) (.bool true) hF hS (by kernel_rfl) (by kernel_rfl) (by decide) (by kernel_rfl) (by kernel_rfl) (by kernel_rfl) (eql_int (by simp)) ?_; intro a hF
  refine take_move (g := none) 3 46 (.tmp 45) (.bool true) hF hS (by kernel_rfl) (by kernel_rfl) (by decide) (by kernel_rfl) (by kernel_rfl) ?_; intro a hF
  refine take_move (g := some (3, true)) 4 47 (.tmp 8) (.int .i64 k) hF hS (by kernel_rfl) (by kernel_rfl) (by decide) (by kernel_rfl) (by kernel_rfl) ?_; intro a hF
  refine take_move (g := some (3, true)) 5 48 (.tmp 11) (.int .i64 k) hF hS (by kernel_rfl) (by kernel_rfl) (by decide) (by kernel_rfl) (by kernel_rfl) ?_; intro a hF
  refine take_bin (g := some (3, true)) 6 49 .eql 3 3 (.tmp 47) (.tmp 48) (.int .i64 k) (.int .i64 k) (.bool true) hF hS (by kernel_rfl) (by kernel_rfl) (by decide) (by kernel_rfl) (by kernel_rfl) (by kernel_rfl) (eql_int (by simp)) ?_; intro a hF
  refine take_pick (g := none) 7 50 (.tmp 46) (.tmp 49) (.const (.bool false)) true (.bool true) hF hS (by kernel_rfl) (by kernel_rfl) (by decide) (by kernel_rfl) (by kernel_rfl) (by kernel_rfl) ?_; intro a hF
  refine take_move (g := none) 8 51 (.tmp 50) (.bool true) hF hS (by kernel_rfl) (by kernel_rfl) (by decide) (by kernel_rfl) (by kernel_rfl) ?_; intro a hF
  refine take_move (g := some (8, true)) 9 52 (.tmp 9) (.int .i64 e) hF hS (by kernel_rfl) (by kernel_rfl) (by decide) (by kernel_rfl) (by kernel_rfl) ?_; intro a hF
  refine take_move (g := some (8, true)) 10 53 (.tmp 12) (.int .i64 e) hF hS (by kernel_rfl) (by kernel_rfl) (by decide) (by kernel_rfl) (by kernel_rfl) ?_; intro a hF
  refine take_bin (g := some (8, true)) 11 54 .eql 24 24 (.tmp 52) (.tmp 53) (.int .i64 e) (.int .i64 e) (.bool true) hF hS (by kernel_rfl) (by kernel_rfl) (by decide) (by kernel_rfl) (by kernel_rfl) (by kernel_rfl) (eql_int (by simp)) ?_; intro a hF
  refine take_pick (g := none) 12 55 (.tmp 51) (.tmp 54) (.const (.bool false)) true (.bool true) hF hS (by kernel_rfl) (by kernel_rfl) (by decide) (by kernel_rfl) (by kernel_rfl) (by kernel_rfl) ?_; intro a hF
  refine take_move (g := none) 13 56 (.tmp 55) (.bool true) hF hS (by kernel_rfl) (by kernel_rfl) (by decide) (by kernel_rfl) (by kernel_rfl) ?_; intro a hF
  refine take_move (g := some (13, true)) 14 57 (.tmp 15) (.int .i64 e) hF hS (by kernel_rfl) (by kernel_rfl) (by decide) (by kernel_rfl) (by kernel_rfl) ?_; intro a hF
  refine take_bin (g := some (13, true)) 15 58 .neq 24 24 (.tmp 57) (.const (.int .i64 0)) (.int .i64 e) (.int .i64 0) (.bool false) hF hS (by kernel_rfl) (by kernel_rfl) (by decide) (by kernel_rfl) (by kernel_rfl) (by kernel_rfl) (neq_int he) ?_; intro a hF
  refine take_move (g := some (13, true)) 16 59 (.tmp 58) (.bool false) hF hS (by kernel_rfl) (by kernel_rfl) (by decide) (by kernel_rfl) (by kernel_rfl) ?_; intro a hF
  refine take_move (g := some (16, false)) 17 60 (.tmp 13) (.int .i64 s) hF hS (by kernel_rfl) (by kernel_rfl) (by decide) (by kernel_rfl) (by kernel_rfl) ?_; intro a hF
  refine take_move (g := some (16, false)) 18 61 (.tmp 16) (.int .i64 s) hF hS (by kernel_rfl) (by kernel_rfl) (by decide) (by kernel_rfl) (by kernel_rfl) ?_; intro a hF
  refine take_bin (g := some (16, false)) 19 62 .eql 2 2 (.tmp 60) (.tmp 61) (.int .i64 s) (.int .i64 s) (.bool true) hF hS (by kernel_rfl) (by kernel_rfl) (by decide) (by kernel_rfl) (by kernel_rfl) (by kernel_rfl) (eql_int (by simp)) ?_; intro a hF
  refine take_pick (g := some (13, true)) 20 63 (.tmp 59) (.const (.bool true)) (.tmp 62) false (.bool true) hF hS (by kernel_rfl) (by kernel_rfl) (by decide) (by kernel_rfl) (by kernel_rfl) (by kernel_rfl) ?_; intro a hF
  refine take_pick (g := none) 21 64 (.tmp 56) (.tmp 63) (.const (.bool false)) true (.bool true) hF hS (by kernel_rfl) (by kernel_rfl) (by decide) (by kernel_rfl) (by kernel_rfl) (by kernel_rfl) ?_; intro a hF
  refine take_move (g := none) 22 65 (.tmp 64) (.bool true) hF hS (by kernel_rfl) (by kernel_rfl) (by decide) (by kernel_rfl) (by kernel_rfl) ?_; intro a hF
  refine take_move (g := some (22, true)) 23 66 (.tmp 15) (.int .i64 e) hF hS (by kernel_rfl) (by kernel_rfl) (by decide) (by kernel_rfl) (by kernel_rfl) ?_; intro a hF
  refine take_bin (g := some (22, true)) 24 67 .eql 24 24 (.tmp 66) (.const (.int .i64 0)) (.int .i64 e) (.int .i64 0) (.bool true) hF hS (by kernel_rfl) (by kernel_rfl) (by decide) (by kernel_rfl) (by kernel_rfl) (by kernel_rfl) (eql_int he') ?_; intro a hF
  refine take_move (g := some (22, true)) 25 68 (.tmp 67) (.bool true) hF hS (by kernel_rfl) (by kernel_rfl) (by decide) (by kernel_rfl) (by kernel_rfl) ?_; intro a hF
  refine draw_skip (i := 26) (d := 69) (op := (.move (.tmp 13))) (g := some (25, false)) (by kernel_rfl) (by kernel_rfl) (by decide) hF (by kernel_rfl) hS ?_; intro a hF
  refine draw_skip (i := 27) (d := 70) (op := (.binOp .eql 2 (.tmp 69) (.const (.int .i64 0)) 2)) (g := some (25, false)) (by kernel_rfl) (by kernel_rfl) (by decide) hF (by kernel_rfl) hS ?_; intro a hF
  refine take_pick (g := some (22, true)) 28 71 (.tmp 68) (.const (.bool true)) (.tmp 70) true (.bool true) hF hS (by kernel_rfl) (by kernel_rfl) (by decide) (by kernel_rfl) (by kernel_rfl) (by kernel_rfl) ?_; intro a hF
  refine take_pick (g := none) 29 72 (.tmp 65) (.tmp 71) (.const (.bool false)) true (.bool true) hF hS (by kernel_rfl) (by kernel_rfl) (by decide) (by kernel_rfl) (by kernel_rfl) (by kernel_rfl) ?_; intro a hF
  refine take_move (g := none) 30 73 (.tmp 72) (.bool true) hF hS (by kernel_rfl) (by kernel_rfl) (by decide) (by kernel_rfl) (by kernel_rfl) ?_; intro a hF
  refine take_move (g := some (30, true)) 31 74 (.tmp 14) (.int .i64 k) hF hS (by kernel_rfl) (by kernel_rfl) (by decide) (by kernel_rfl) (by kernel_rfl) ?_; intro a hF
  refine take_move (g := some (30, true)) 32 75 (.tmp 17) (.int .i64 k) hF hS (by kernel_rfl) (by kernel_rfl) (by decide) (by kernel_rfl) (by kernel_rfl) ?_; intro a hF
  refine take_bin (g := some (30, true)) 33 76 .eql 3 3 (.tmp 74) (.tmp 75) (.int .i64 k) (.int .i64 k) (.bool true) hF hS (by kernel_rfl) (by kernel_rfl) (by decide) (by kernel_rfl) (by kernel_rfl) (by kernel_rfl) (eql_int (by simp)) ?_; intro a hF
  refine take_pick (g := none) 34 77 (.tmp 73) (.tmp 76) (.const (.bool false)) true (.bool true) hF hS (by kernel_rfl) (by kernel_rfl) (by decide) (by kernel_rfl) (by kernel_rfl) (by kernel_rfl) ?_; intro a hF
  refine take_move (g := none) 35 78 (.tmp 77) (.bool true) hF hS (by kernel_rfl) (by kernel_rfl) (by decide) (by kernel_rfl) (by kernel_rfl) ?_; intro a hF
  refine take_move (g := some (35, true)) 36 79 (.tmp 15) (.int .i64 e) hF hS (by kernel_rfl) (by kernel_rfl) (by decide) (by kernel_rfl) (by kernel_rfl) ?_; intro a hF
  refine take_move (g := some (35, true)) 37 80 (.tmp 18) (.int .i64 e) hF hS (by kernel_rfl) (by kernel_rfl) (by decide) (by kernel_rfl) (by kernel_rfl) ?_; intro a hF
  refine take_bin (g := some (35, true)) 38 81 .eql 24 24 (.tmp 79) (.tmp 80) (.int .i64 e) (.int .i64 e) (.bool true) hF hS (by kernel_rfl) (by kernel_rfl) (by decide) (by kernel_rfl) (by kernel_rfl) (by kernel_rfl) (eql_int (by simp)) ?_; intro a hF
  refine take_pick (g := none) 39 82 (.tmp 78) (.tmp 81) (.const (.bool false)) true (.bool true) hF hS (by kernel_rfl) (by kernel_rfl) (by decide) (by kernel_rfl) (by kernel_rfl) (by kernel_rfl) ?_; intro a hF
  refine take_move (g := none) 40 83 (.tmp 82) (.bool true) hF hS (by kernel_rfl) (by kernel_rfl) (by decide) (by kernel_rfl) (by kernel_rfl) ?_; intro a hF
  refine take_move (g := some (40, true)) 41 84 (.tmp 0) (v) hF hS (by kernel_rfl) (by kernel_rfl) (by decide) (by kernel_rfl) (by kernel_rfl) ?_; intro a hF
  refine take_move (g := some (40, true)) 42 85 (.tmp 1) (.int .u64 (m : Int)) hF hS (by kernel_rfl) (by kernel_rfl) (by decide) (by kernel_rfl) (by kernel_rfl) ?_; intro a hF
  refine take_move (g := some (40, true)) 46 89 (.tmp 0) (v) hF hS (by kernel_rfl) (by kernel_rfl) (by decide) (by kernel_rfl) (by kernel_rfl) ?_; intro a hF
  refine take_move (g := some (40, true)) 48 91 (.tmp 1) (.int .u64 (m : Int)) hF hS (by kernel_rfl) (by kernel_rfl) (by decide) (by kernel_rfl) (by kernel_rfl) ?_; intro a hF
  have hF := hF.sub [(84, v), (85, .int .u64 (m : Int)), (89, v), (91, .int .u64 (m : Int)), (83, .bool true), (0, v), (2, .int .i64 i)] (by kernel_rfl)
  refine draw_either (i := 43) (j := 45) (by kernel_rfl) ?_ ?_
  · refine step_call (ts := #[22, 23]) 43 86 14 #[.tmp 84, .tmp 85] [v, .int .u64 (m : Int)] (g := some (40, true)) hF (by kernel_rfl) (by decide) (by kernel_rfl) (by kernel_rfl) (enters_of Try.func14 (by kernel_rfl) rfl) ?_
    refine (put14 m hm bs (by omega) v _ (hv0.below hB0)).mono ?_
    rintro e w1 ⟨v1, rfl, ho1, hB1⟩
    refine ⟨v1, rfl, fun a hF => ?_⟩
    have hB1' : Below w.heap.size w w1 := hB0.trans hB1
    have hS : S1 w v1 (bs ++ dig m) w1 := ⟨hB1', RB.of_row ho1⟩
    refine ⟨hS.1, draw_stronger (S' := S1 w v1 (bs ++ dig m)) (fun W h => h.1) _ _ _ _ ?_⟩
    refine take_conv (g := some (40, true)) 44 87 22 9 (.tmp 86) (v1) (.string ⟨(bs ++ dig m).toArray⟩) hF hS (by kernel_rfl) (by kernel_rfl) (by decide) (by kernel_rfl) (by kernel_rfl) (fun W h => h.2.str) ?_; intro a hF
    refine draw_only (i := 45) (by kernel_rfl) (step_of (i := 45) (d := 88) (op := .buildSlice 22 0 #[]) (g := some (40, true)) (by kernel_rfl) hF (by kernel_rfl) fun o ho hdst => wp_build_empty ho ?_)
    rw [hdst]
    have hF := hF.put 88 (by decide) (.slice (some ⟨w1.heap.size, 0, none⟩) 0 0)
    have hBa : Below w1.heap.size w1 (w1.alloc (.cells #[] 5)) := (Below.refl _ _).alloc (Nat.le_refl _) _
    refine ⟨⟨hS.1.trans (hBa.mono hS.1.size), hS.2.below hBa⟩, ?_⟩
    refine draw_relist (done' := [48, 46, 45, 44, 43, 42, 41, 40, 39, 38, 37, 36, 35, 34, 33, 32, 31, 30, 29, 28, 27, 26, 25, 24, 23, 22, 21, 20, 19, 18, 17, 16, 15, 14, 13, 12, 11, 10, 9, 8, 7, 6, 5, 4, 3, 2, 1, 0]) (fuel' := 22) (by kernel_rfl) rfl ?_
    exact wn_rest1 bs hb m hm i h1 h2 v _ v1 w _ _ (hF.sub _ (by kernel_rfl)) hv0 (hB1'.trans (hBa.mono hB1'.size)) (ho1.alloc _) (empty_row w1 hB1'.size) (fun k hk e => by have := (ho1.lt k hk).2; simp [Value.ownBlock] at e; omega)
  · refine step_of (i := 45) (d := 88) (op := .buildSlice 22 0 #[]) (g := some (40, true)) (by kernel_rfl) hF (by kernel_rfl) fun o ho hdst => wp_build_empty ho ?_
    rw [hdst]
    have hF := hF.put 88 (by decide) (.slice (some ⟨w.drew.heap.size, 0, none⟩) 0 0)
    generalize a.put (some 88) (.slice (some ⟨w.drew.heap.size, 0, none⟩) 0 0) = a at hF ⊢
    have hBa : Below w.heap.size w (w.drew.alloc (.cells #[] 5)) := hB0.alloc (Nat.le_refl _) _
    refine ⟨hBa, draw_only (i := 43) (by kernel_rfl) ?_⟩
    refine step_call (ts := #[22, 23]) 43 86 14 #[.tmp 84, .tmp 85] [v, .int .u64 (m : Int)] (g := some (40, true)) hF (by kernel_rfl) (by decide) (by kernel_rfl) (by kernel_rfl) (enters_of Try.func14 (by kernel_rfl) rfl) ?_
    refine (put14 m hm bs (by omega) v _ (hv0.below hBa)).mono ?_
    rintro e w1 ⟨v1, rfl, ho1, hB1⟩
    refine ⟨v1, rfl, fun a hF => ?_⟩
    have hB1' : Below w.heap.size w w1 := hBa.trans (hB1.mono hBa.size)
    have hS : S1 w v1 (bs ++ dig m) w1 := ⟨hB1', RB.of_row ho1⟩
    refine ⟨hS.1, draw_stronger (S' := S1 w v1 (bs ++ dig m)) (fun W h => h.1) _ _ _ _ ?_⟩
    refine take_conv (g := some (40, true)) 44 87 22 9 (.tmp 86) (v1) (.string ⟨(bs ++ dig m).toArray⟩) hF hS (by kernel_rfl) (by kernel_rfl) (by decide) (by kernel_rfl) (by kernel_rfl) (fun W h => h.2.str) ?_; intro a hF
    refine draw_relist (done' := [48, 46, 45, 44, 43, 42, 41, 40, 39, 38, 37, 36, 35, 34, 33, 32, 31, 30, 29, 28, 27, 26, 25, 24, 23, 22, 21, 20, 19, 18, 17, 16, 15, 14, 13, 12, 11, 10, 9, 8, 7, 6, 5, 4, 3, 2, 1, 0]) (fuel' := 22) (by kernel_rfl) rfl ?_
    exact wn_rest1 bs hb m hm i h1 h2 v _ v1 w _ _ (hF.sub _ (by kernel_rfl)) hv0 hB1' (row_base ho1 hBa.size) (row_below (empty_row w.drew (Nat.le_refl _)) hB1) (fun k hk e => by have := (ho1.lt k hk).1; simp [Value.ownBlock] at e this; omega)

set_option maxRecDepth 100000 in
set_option maxHeartbeats 4000000 in
theorem wn_bad (bs : List UInt8) (hb : bs.length + 4096 ≤ 140737488355328) (m : Nat) (hm : m < 2 ^ 64) (i : Int) (h1 : -9223372036854775808 ≤ i) (h2 : i ≤ 9223372036854775807) (x k e s : Int) (he : (e != 0) = true) (he' : (e == 0) = false) (hs : (s == 0) = true) (v : Value) (w : World) (a : Act)
    (hF : Fr 112 a [(0, v), (1, .int .u64 (m : Int)), (2, .int .i64 i), (7, .int .u64 x), (8, .int .i64 k), (9, .int .i64 e), (10, .int .u64 x), (11, .int .i64 k), (12, .int .i64 e), (13, .int .i64 s), (14, .int .i64 k), (15, .int .i64 e), (16, .int .i64 s), (17, .int .i64 k), (18, .int .i64 e)]) (hv0 : RB w v bs) :
    wpAnyH Try.prog .any (regOps Try.f3 5) (QN (Tells 112 6 w)) (S0 w) 70 (lst 70 []) a w.drew := by
  have hB0 : Below w.heap.size w w.drew := (Below.refl _ _).drew
  have hS : S0 w w.drew := hB0
  refine take_move (g := none) 0 43 (.tmp 7) (.int .u64 x) hF hS (by kernel_rfl) (by kernel_rfl) (by decide) (by kernel_rfl) (by kernel_rfl) ?_; intro a hF
  refine take_move (g := none) 1 44 (.tmp 10) (.int .u64 x) hF hS (by kernel_rfl) (by kernel_rfl) (by decide) (by kernel_rfl) (by kernel_rfl) ?_; intro a hF
  refine take_bin (g := none) 2 45 .eql 23 23 (.tmp 43) (.tmp 44) (.int .u64 x) (.int .u64 x) (.bool true) hF hS (by kernel_rfl) (by kernel_rfl) (by decide) (by kernel_rfl) (by kernel_rfl) (by kernel_rfl) (eql_int (by simp)) ?_; intro a hF
  refine take_move (g := none) 3 46 (.tmp 45) (.bool true) hF hS (by kernel_rfl) (by kernel_rfl) (by decide) (by kernel_rfl) (by kernel_rfl) ?_; intro a hF
  refine take_move (g := some (3, true)) 4 47 (.tmp 8) (.int .i64 k) hF hS (by kernel_rfl) (by kernel_rfl) (by decide) (by kernel_rfl) (by kernel_rfl) ?_; intro a hF
  refine take_move (g := some (3, true)) 5 48 (.tmp 11) (.int .i64 k) hF hS (by kernel_rfl) (by kernel_rfl) (by decide) (by kernel_rfl) (by kernel_rfl) ?_; intro a hF
  refine take_bin (g := some (3, true)) 6 49 .eql 3 3 (.tmp 47) (.tmp 48) (.int .i64 k) (.int .i64 k) (.bool true) hF hS (by kernel_rfl) (by kernel_rfl) (by decide) (by kernel_rfl) (by kernel_rfl) (by kernel_rfl) (eql_int (by simp)) ?_; intro a hF
  refine take_pick (g := none) 7 50 (.tmp 46) (.tmp 49) (.const (.bool false)) true (.bool true) hF hS (by kernel_rfl) (by kernel_rfl) (by decide) (by kernel_rfl) (by kernel_rfl) (by kernel_rfl) ?_; intro a hF
  refine take_move (g := none) 8 51 (.tmp 50) (.bool true) hF hS (by kernel_rfl) (by kernel_rfl) (by decide) (by kernel_rfl) (by kernel_rfl) ?_; intro a hF
  refine take_move (g := some (8, true)) 9 52 (.tmp 9) (.int .i64 e) hF hS (by kernel_rfl) (by kernel_rfl) (by decide) (by kernel_rfl) (by kernel_rfl) ?_; intro a hF
  refine take_move (g := some (8, true)) 10 53 (.tmp 12) (.int .i64 e) hF hS (by kernel_rfl) (by kernel_rfl) (by decide) (by kernel_rfl) (by kernel_rfl) ?_; intro a hF
  refine take_bin (g := some (8, true)) 11 54 .eql 24 24 (.tmp 52) (.tmp 53) (.int .i64 e) (.int .i64 e) (.bool true) hF hS (by kernel_rfl) (by kernel_rfl) (by decide) (by kernel_rfl) (by kernel_rfl) (by kernel_rfl) (eql_int (by simp)) ?_; intro a hF
  refine take_pick (g := none) 12 55 (.tmp 51) (.tmp 54) (.const (.bool false)) true (.bool true) hF hS (by kernel_rfl) (by kernel_rfl) (by decide) (by kernel_rfl) (by kernel_rfl) (by kernel_rfl) ?_; intro a hF
  refine take_move (g := none) 13 56 (.tmp 55) (.bool true) hF hS (by kernel_rfl) (by kernel_rfl) (by decide) (by kernel_rfl) (by kernel_rfl) ?_; intro a hF
  refine take_move (g := some (13, true)) 14 57 (.tmp 15) (.int .i64 e) hF hS (by kernel_rfl) (by kernel_rfl) (by decide) (by kernel_rfl) (by kernel_rfl) ?_; intro a hF
  refine take_bin (g := some (13, true)) 15 58 .neq 24 24 (.tmp 57) (.const (.int .i64 0)) (.int .i64 e) (.int .i64 0) (.bool true) hF hS (by kernel_rfl) (by kernel_rfl) (by decide) (by kernel_rfl) (by kernel_rfl) (by kernel_rfl) (neq_int he) ?_; intro a hF
  refine take_move (g := some (13, true)) 16 59 (.tmp 58) (.bool true) hF hS (by kernel_rfl) (by kernel_rfl) (by decide) (by kernel_rfl) (by kernel_rfl) ?_; intro a hF
  refine draw_skip (i := 17) (d := 60) (op := (.move (.tmp 13))) (g := some (16, false)) (by kernel_rfl) (by kernel_rfl) (by decide) hF (by kernel_rfl) hS ?_; intro a hF
  refine draw_skip (i := 18) (d := 61) (op := (.move (.tmp 16))) (g := some (16, false)) (by kernel_rfl) (by kernel_rfl) (by decide) hF (by kernel_rfl) hS ?_; intro a hF
  refine draw_skip (i := 19) (d := 62) (op := (.binOp .eql 2 (.tmp 60) (.tmp 61) 2)) (g := some (16, false)) (by kernel_rfl) (by kernel_rfl) (by decide) hF (by kernel_rfl) hS ?_; intro a hF
  refine take_pick (g := some (13, true)) 20 63 (.tmp 59) (.const (.bool true)) (.tmp 62) true (.bool true) hF hS (by kernel_rfl) (by kernel_rfl) (by decide) (by kernel_rfl) (by kernel_rfl) (by kernel_rfl) ?_; intro a hF
  refine take_pick (g := none) 21 64 (.tmp 56) (.tmp 63) (.const (.bool false)) true (.bool true) hF hS (by kernel_rfl) (by kernel_rfl) (by decide) (by kernel_rfl) (by kernel_rfl) (by kernel_rfl) ?_; intro a hF
  refine take_move (g := none) 22 65 (.tmp 64) (.bool true) hF hS (by kernel_rfl) (by kernel_rfl) (by decide) (by kernel_rfl) (by kernel_rfl) ?_; intro a hF
  refine take_move (g := some (22, true)) 23 66 (.tmp 15) (.int .i64 e) hF hS (by kernel_rfl) (by kernel_rfl) (by decide) (by kernel_rfl) (by kernel_rfl) ?_; intro a hF
  refine take_bin (g := some (22, true)) 24 67 .eql 24 24 (.tmp 66) (.const (.int .i64 0)) (.int .i64 e) (.int .i64 0) (.bool false) hF hS (by kernel_rfl) (by kernel_rfl) (by decide) (by kernel_rfl) (by kernel_rfl) (by kernel_rfl) (eql_int he') ?_; intro a hF
  refine take_move (g := some (22, true)) 25 68 (.tmp 67) (.bool false) hF hS (by kernel_rfl) (by kernel_rfl) (by decide) (by kernel_rfl) (by kernel_rfl) ?_; intro a hF
  refine take_move (g := some (25, false)) 26 69 (.tmp 13) (.int .i64 s) hF hS (by kernel_rfl) (by kernel_rfl) (by decide) (by kernel_rfl) (by kernel_rfl) ?_; intro a hF
  refine take_bin (g := some (25, false)) 27 70 .eql 2 2 (.tmp 69) (.const (.int .i64 0)) (.int .i64 s) (.int .i64 0) (.bool true) hF hS (by kernel_rfl) (by kernel_rfl) (by decide) (by kernel_rfl) (by kernel_rfl) (by kernel_rfl) (eql_int hs) ?_; intro a hF
  refine take_pick (g := some (22, true)) 28 71 (.tmp 68) (.const (.bool true)) (.tmp 70) false (.bool true) hF hS (by kernel_rfl) (by kernel_rfl) (by decide) (by kernel_rfl) (by kernel_rfl) (by kernel_rfl) ?_; intro a hF
  refine take_pick (g := none) 29 72 (.tmp 65) (.tmp 71) (.const (.bool false)) true (.bool true) hF hS (by kernel_rfl) (by kernel_rfl) (by decide) (by kernel_rfl) (by kernel_rfl) (by kernel_rfl) ?_; intro a hF
  refine take_move (g := none) 30 73 (.tmp 72) (.bool true) hF hS (by kernel_rfl) (by kernel_rfl) (by decide) (by kernel_rfl) (by kernel_rfl) ?_; intro a hF
  refine take_move (g := some (30, true)) 31 74 (.tmp 14) (.int .i64 k) hF hS (by kernel_rfl) (by kernel_rfl) (by decide) (by kernel_rfl) (by kernel_rfl) ?_; intro a hF
  refine take_move (g := some (30, true)) 32 75 (.tmp 17) (.int .i64 k) hF hS (by kernel_rfl) (by kernel_rfl) (by decide) (by kernel_rfl) (by kernel_rfl) ?_; intro a hF
  refine take_bin (g := some (30, true)) 33 76 .eql 3 3 (.tmp 74) (.tmp 75) (.int .i64 k) (.int .i64 k) (.bool true) hF hS (by kernel_rfl) (by kernel_rfl) (by decide) (by kernel_rfl) (by kernel_rfl) (by kernel_rfl) (eql_int (by simp)) ?_; intro a hF
  refine take_pick (g := none) 34 77 (.tmp 73) (.tmp 76) (.const (.bool false)) true (.bool true) hF hS (by kernel_rfl) (by kernel_rfl) (by decide) (by kernel_rfl) (by kernel_rfl) (by kernel_rfl) ?_; intro a hF
  refine take_move (g := none) 35 78 (.tmp 77) (.bool true) hF hS (by kernel_rfl) (by kernel_rfl) (by decide) (by kernel_rfl) (by kernel_rfl) ?_; intro a hF
  refine take_move (g := some (35, true)) 36 79 (.tmp 15) (.int .i64 e) hF hS (by kernel_rfl) (by kernel_rfl) (by decide) (by kernel_rfl) (by kernel_rfl) ?_; intro a hF
  refine take_move (g := some (35, true)) 37 80 (.tmp 18) (.int .i64 e) hF hS (by kernel_rfl) (by kernel_rfl) (by decide) (by kernel_rfl) (by kernel_rfl) ?_; intro a hF
  refine take_bin (g := some (35, true)) 38 81 .eql 24 24 (.tmp 79) (.tmp 80) (.int .i64 e) (.int .i64 e) (.bool true) hF hS (by kernel_rfl) (by kernel_rfl) (by decide) (by kernel_rfl) (by kernel_rfl) (by kernel_rfl) (eql_int (by simp)) ?_; intro a hF
  refine take_pick (g := none) 39 82 (.tmp 78) (.tmp 81) (.const (.bool false)) true (.bool true) hF hS (by kernel_rfl) (by kernel_rfl) (by decide) (by kernel_rfl) (by kernel_rfl) (by kernel_rfl) ?_; intro a hF
  refine take_move (g := none) 40 83 (.tmp 82) (.bool true) hF hS (by kernel_rfl) (by kernel_rfl) (by decide) (by kernel_rfl) (by kernel_rfl) ?_; intro a hF
  refine take_move (g := some (40, true)) 41 84 (.tmp 0) (v) hF hS (by kernel_rfl) (by kernel_rfl) (by decide) (by kernel_rfl) (by kernel_rfl) ?_; intro a hF
  refine take_move (g := some (40, true)) 42 85 (.tmp 1) (.int .u64 (m : Int)) hF hS (by kernel_rfl) (by kernel_rfl) (by decide) (by kernel_rfl) (by kernel_rfl) ?_; intro a hF
  refine take_move (g := some (40, true)) 46 89 (.tmp 0) (v) hF hS (by kernel_rfl) (by kernel_rfl) (by decide) (by kernel_rfl) (by kernel_rfl) ?_; intro a hF
  refine take_move (g := some (40, true)) 48 91 (.tmp 1) (.int .u64 (m : Int)) hF hS (by kernel_rfl) (by kernel_rfl) (by decide) (by kernel_rfl) (by kernel_rfl) ?_; intro a hF
  have hF := hF.sub [(84, v), (85, .int .u64 (m : Int)), (89, v), (91, .int .u64 (m : Int)), (83, .bool true), (0, v), (2, .int .i64 i)] (by kernel_rfl)
  refine draw_either (i := 43) (j := 45) (by kernel_rfl) ?_ ?_
  · refine step_call (ts := #[22, 23]) 43 86 14 #[.tmp 84, .tmp 85] [v, .int .u64 (m : Int)] (g := some (40, true)) hF (by kernel_rfl) (by decide) (by kernel_rfl) (by kernel_rfl) (enters_of Try.func14 (by kernel_rfl) rfl) ?_
    refine (put14 m hm bs (by omega) v _ (hv0.below hB0)).mono ?_
    rintro e w1 ⟨v1, rfl, ho1, hB1⟩
    refine ⟨v1, rfl, fun a hF => ?_⟩
    have hB1' : Below w.heap.size w w1 := hB0.trans hB1
    have hS : S1 w v1 (bs ++ dig m) w1 := ⟨hB1', RB.of_row ho1⟩
    refine ⟨hS.1, draw_stronger (S' := S1 w v1 (bs ++ dig m)) (fun W h => h.1) _ _ _ _ ?_⟩
    refine take_conv (g := some (40, true)) 44 87 22 9 (.tmp 86) (v1) (.string ⟨(bs ++ dig m).toArray⟩) hF hS (by kernel_rfl) (by kernel_rfl) (by decide) (by kernel_rfl) (by kernel_rfl) (fun W h => h.2.str) ?_; intro a hF
    refine draw_only (i := 45) (by kernel_rfl) (step_of (i := 45) (d := 88) (op := .buildSlice 22 0 #[]) (g := some (40, true)) (by kernel_rfl) hF (by kernel_rfl) fun o ho hdst => wp_build_empty ho ?_)
    rw [hdst]
    have hF := hF.put 88 (by decide) (.slice (some ⟨w1.heap.size, 0, none⟩) 0 0)
    have hBa : Below w1.heap.size w1 (w1.alloc (.cells #[] 5)) := (Below.refl _ _).alloc (Nat.le_refl _) _
    refine ⟨⟨hS.1.trans (hBa.mono hS.1.size), hS.2.below hBa⟩, ?_⟩
    refine draw_relist (done' := [48, 46, 45, 44, 43, 42, 41, 40, 39, 38, 37, 36, 35, 34, 33, 32, 31, 30, 29, 28, 27, 26, 25, 24, 23, 22, 21, 20, 19, 18, 17, 16, 15, 14, 13, 12, 11, 10, 9, 8, 7, 6, 5, 4, 3, 2, 1, 0]) (fuel' := 22) (by kernel_rfl) rfl ?_
    exact wn_rest1 bs hb m hm i h1 h2 v _ v1 w _ _ (hF.sub _ (by kernel_rfl)) hv0 (hB1'.trans (hBa.mono hB1'.size)) (ho1.alloc _) (empty_row w1 hB1'.size) (fun k hk e => by have := (ho1.lt k hk).2; simp [Value.ownBlock] at e; omega)
  · refine step_of (i := 45) (d := 88) (op := .buildSlice 22 0 #[]) (g := some (40, true)) (by kernel_rfl) hF (by kernel_rfl) fun o ho hdst => wp_build_empty ho ?_
    rw [hdst]
    have hF := hF.put 88 (by decide) (.slice (some ⟨w.drew.heap.size, 0, none⟩) 0 0)
    generalize a.put (some 88) (.slice (some ⟨w.drew.heap.size, 0, none⟩) 0 0) = a at hF ⊢
    have hBa : Below w.heap.size w (w.drew.alloc (.cells #[] 5)) := hB0.alloc (Nat.le_refl _) _
    refine ⟨hBa, draw_only (i := 43) (by kernel_rfl) ?_⟩
    refine step_call (ts := #[22, 23]) 43 86 14 #[.tmp 84, .tmp 85] [v, .int .u64 (m : Int)] (g := some (40, true)) hF (by kernel_rfl) (by decide) (by kernel_rfl) (by kernel_rfl) (enters_of Try.func14 (by kernel_rfl) rfl) ?_
    refine (put14 m hm bs (by omega) v _ (hv0.below hBa)).mono ?_
    rintro e w1 ⟨v1, rfl, ho1, hB1⟩
    refine ⟨v1, rfl, fun a hF => ?_⟩
    have hB1' : Below w.heap.size w w1 := hBa.trans (hB1.mono hBa.size)
    have hS : S1 w v1 (bs ++ dig m) w1 := ⟨hB1', RB.of_row ho1⟩
    refine ⟨hS.1, draw_stronger (S' := S1 w v1 (bs ++ dig m)) (fun W h => h.1) _ _ _ _ ?_⟩
    refine take_conv (g := some (40, true)) 44 87 22 9 (.tmp 86) (v1) (.string ⟨(bs ++ dig m).toArray⟩) hF hS (by kernel_rfl) (by kernel_rfl) (by decide) (by kernel_rfl) (by kernel_rfl) (fun W h => h.2.str) ?_; intro a hF
    refine draw_relist (done' := [48, 46, 45, 44, 43, 42, 41, 40, 39, 38, 37, 36, 35, 34, 33, 32, 31, 30, 29, 28, 27, 26, 25, 24, 23, 22, 21, 20, 19, 18, 17, 16, 15, 14, 13, 12, 11, 10, 9, 8, 7, 6, 5, 4, 3, 2, 1, 0]) (fuel' := 22) (by kernel_rfl) rfl ?_
    exact wn_rest1 bs hb m hm i h1 h2 v _ v1 w _ _ (hF.sub _ (by kernel_rfl)) hv0 hB1' (row_base ho1 hBa.size) (row_below (empty_row w.drew (Nat.le_refl _)) hB1) (fun k hk e => by have := (ho1.lt k hk).1; simp [Value.ownBlock] at e this; omega)

end Go.Proofs.Ytllpohacomknfaa
