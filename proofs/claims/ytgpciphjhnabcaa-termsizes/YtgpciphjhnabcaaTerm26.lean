/- Mentions; the walk of TermSizes. -/
import Derived.Test.YtgpciphjhnabcaaTerm25
import Derived.Test.YtgpciphjhnabcaaTerm14
namespace Go.Proofs.Ytgpciphjhnabcaa
open Go.RowKit Go.Shelf
set_option linter.unusedVariables false
set_option linter.unusedSimpArgs false

theorem isC_yes {W : World} {A : Nat → Prop} {c : CT} {x : C8} {s : ByteArray} (h : RC W A c x) (hk : x.k = 7) (hs : x.s = s) : isC s c = true := by
  obtain ⟨t, ls, m, rfl⟩ := h.cst_of hk
  have h1 : x.s = t := h.2.1
  simp [isC, ← h1, hs]
theorem isC_no {W : World} {A : Nat → Prop} {c : CT} {x : C8} {s : ByteArray} (h : RC W A c x) (hn : ¬ (x.k = 7 ∧ x.s = s)) : isC s c = false := by
  cases c <;> try rfl
  next t ls m =>
    have h1 : x.k = 7 := h.1
    have h2 : x.s = t := h.2.1
    simp only [isC]
    exact decide_eq_false (fun h3 => hn ⟨h1, h2.trans h3⟩)
theorem leaves_nodes (s : ByteArray) : ∀ (c : CT) (d e : Int), (c.leaves d).any (fun l => isC s l.1) = (c.nodes e).any (fun n => isC s n.2)
  | .two k a b m, d, e => by
    have h : isC s (.two k a b m) = false := rfl
    simp only [CT.leaves, CT.nodes, List.any_append, List.any_cons, h, Bool.false_or]
    rw [leaves_nodes s a _ (e + 1), leaves_nodes s b _ (e + 1)]
  | .lt a b c m, d, e => by
    have h : isC s (.lt a b c m) = false := rfl
    simp only [CT.leaves, CT.nodes, List.any_append, List.any_cons, h, Bool.false_or]
    rw [leaves_nodes s a _ (e + 1), leaves_nodes s b _ (e + 1), leaves_nodes s c _ (e + 1)]
  | .var .., d, e => by simp [CT.leaves, CT.nodes, isC]
  | .sort .., d, e => by simp [CT.leaves, CT.nodes, isC]
  | .cst .., d, e => by simp [CT.leaves, CT.nodes, isC]
  | .odd .., d, e => by simp [CT.leaves, CT.nodes, isC]

set_option maxRecDepth 100000 in
set_option maxHeartbeats 400000 in
theorem Mentions38 (c : CT) (x : C8) (s : ByteArray) (w0 : World) (hx : RC w0 (fun k => k < w0.heap.size) c x) : Calls Try.prog 38 #[tv x, .string s] w0 fun e w' => e = .returned (.bool (c.menR s)) ∧ Below w0.heap.size w0 w' := by
  have hB := Below.refl w0.heap.size w0
  have sB := hB.size
  refine calls_fsM 22 [(0, tv x), (1, .string s)] Try.func38 rfl rfl rfl rfl rfl fun a hF => ?_
  refine wp_rs fun K1 hK1 => ?_
  refine s_box (tc x) hF (by decide) rfl rfl fun w2 b2 a eb2 m2 B3 zb2 hF => ?_
  have sB3 := B3.size
  have hB := hB.trans (B3.mono hB.size)
  refine s_box ([.string s]) hF (by decide) rfl rfl fun w4 b3 a eb3 m3 B5 zb3 hF => ?_
  have sB5 := B5.size
  have hB := hB.trans (B5.mono hB.size)
  have m2 := m2.old B5
  refine s_alloc1 hF (by decide) zero4 rfl fun w6 b4 a eb4 m4 B7 zb4 hF => ?_
  have sB7 := B7.size
  have hB := hB.trans (B7.mono hB.size)
  have m2 := m2.old B7
  have m3 := m3.old B7
  refine s_end (hK1 _ _ ?_)
  refine wp_seq_k fun K2 hK2 => ?_
  rcases (show ¬ c.ok ∨ c.ok by by_cases h : c.ok <;> simp [h]) with hk1 | hk1
  · skip
    refine wp_rs fun K4 hK4 => ?_
    refine s_val hF (x_ldW wide27 m2 rfl rfl) (by decide) fun a hF => ?_
    refine s_callB [_] hF (enters_of Try.func66 (by kernel_rfl) rfl) rfl (by decide) ((isGreat66 c x w6 (hx.bel hB)).mono fun e w' h => ⟨by rw [h.1, decide_eq_true hk1], h.2⟩) fun w8 a B9 hF => ?_
    have sB9 := B9.size
    have hB := hB.trans (B9.mono hB.size)
    have m2 := m2.old B9
    have m3 := m3.old B9
    have m4 := m4.old B9
    refine s_end (hK4 _ _ ?_)
    refine wp_if hF rfl ?_
    refine wp_rs fun K5 hK5 => ?_
    refine s_put hF rfl rfl flat4 m4 (by first | (simp; done) | (simp [tc, lc]; done) | decide) rfl fun w10 m4 o11 => ?_
    have so11 := o11.size
    have hB := hB.trans (o11.below (by omega))
    have m2 := m2.only o11 (by omega)
    have m3 := m3.only o11 (by omega)
    refine s_end (hK5 _ _ ?_)
    have hz : c.menR s = false := by unfold CT.menR; rw [decide_eq_false hk1]; rfl
    refine wp_ret (then_ret (resM0 hF ⟨run_cell (t0 := 0) (cs := []) hF rfl rfl (m_load flat4 (m4.cell (j := 0) rfl)), by rw [hz], hB⟩))
  · skip
    refine wp_rs fun K6 hK6 => ?_
    refine s_val hF (x_ldW wide27 m2 rfl rfl) (by decide) fun a hF => ?_
    refine s_callB [_] hF (enters_of Try.func66 (by kernel_rfl) rfl) rfl (by decide) ((isGreat66 c x w6 (hx.bel hB)).mono fun e w' h => ⟨by rw [h.1, decide_eq_false (fun h => h hk1)], h.2⟩) fun w12 a B13 hF => ?_
    have sB13 := B13.size
    have hB := hB.trans (B13.mono hB.size)
    have m2 := m2.old B13
    have m3 := m3.old B13
    have m4 := m4.old B13
    refine s_end (hK6 _ _ ?_)
    refine wp_if hF rfl ?_
    refine wp_skip (hK2 _ _ ?_)
    refine wp_seq_k fun K7 hK7 => ?_
    refine wp_rs fun K8 hK8 => ?_
    refine s_val hF (x_ldW wide27 m2 rfl rfl) (by decide) fun a hF => ?_
    refine s_callR (R := fun v w' => ∃ b1, v = .func (.func 107) #[] #[.pointer (some ⟨b1, 0, none⟩)] ∧ w12.heap.size ≤ b1 ∧ Blk w' b1 27 (tc x)) [_] hF (enters_of Try.func71 (by kernel_rfl) rfl) rfl (by decide) (nodes71 x w12 hx.one) ?_
    rintro v7 w14 a ⟨bx, hve, hbx, mx⟩ B15 hF
    have sB15 := B15.size
    have hB := hB.trans (B15.mono hB.size)
    have m2 := m2.old B15
    have m3 := m3.old B15
    have m4 := m4.old B15
    subst hve
    refine s_end (hK8 _ _ ?_)
    refine wp_block ?_
    have sD := hB.size
    refine wp_range (w0 := w0) hF rfl (enters_of Try.func107 (by kernel_rfl) rfl) _ rfl hB (hands107 w0 c x bx _ hx (by omega) (by have := mx.lt; omega) _ mx (by omega)) (fun W' hW' => mx.old hW') (by decide) (fun e vs ⟨y, h, _⟩ => by rw [h]; rfl)
      (fun p W => (∀ e ∈ p, e.1 ≤ 2000) ∧ (p.any fun e => isC s e.2) = false ∧ Blk W b3 9 [.string s] ∧ Blk W b4 4 [.bool false])
      (fun c' p W => c' = .ret ∧ (p.any fun e => isC s e.2) = true ∧ Blk W b4 4 [.bool true])
      (fun p W W' ⟨h1, h2, h3, h4⟩ hW => ⟨h1, h2, h3.below hW (by omega), h4.below hW (by omega)⟩) (fun c p W W' ⟨h1, h2, h3⟩ hW => ⟨h1, h2, h3.below hW (by omega)⟩) (fun p e W ⟨h1, _⟩ => by have := h1 e (by simp); omega) (⟨by simp, by simp, m3, m4⟩) ?_ ?_ ?_
    · rintro L p e1 rest W a vs hL hq hv hI hWs hBr hF K hK
      obtain ⟨hds, han, m3, m4⟩ := hI
      obtain ⟨y, rfl, hy⟩ := hv
      have sBr := hBr.size
      have hlW : w14.heap.size + 1 < W.heap.size := by omega
      have hM := Mid.refl w0.heap.size w14.heap.size W
      have sM := hM.size
      have hm3l := m3.lt
      have hm4l := m4.lt
      refine wpI_r (by repeat' first | exact rndPost.calm | exact false.calm | refine Calm.then ?_ _ | refine Calm.block ?_ _) rfl ?_
      refine s_alloc hF (by decide) zero27 fun w16 b6 a eb6 m6 B17 zb6 hF => ?_
      have sB17 := B17.size
      have hBr := hBr.trans (B17.mono hBr.size)
      have m3 := m3.old B17
      have m4 := m4.old B17
      have hM := hM.old B17
      refine s_putW hF rfl rfl (size_wide wide27) m6 rfl hy.one fun w20 m6 o21 => ?_
      have so21 := o21.size
      have hBr := hBr.trans (o21.below (by omega))
      have m3 := m3.only o21 (by omega)
      have m4 := m4.only o21 (by omega)
      have hM := hM.only o21 (by omega)
      refine s_end ?_
      refine hK _ _ hM fun W3 hO3 => ?_
      have hM := Mid.refl w0.heap.size w14.heap.size W3
      have sO := hO3.size
      have m3 := m3.only hO3 (by omega)
      have m4 := m4.only hO3 (by omega)
      have m6 := m6.only hO3 (by omega)
      have hBr := hBr.trans (hO3.below (by omega))
      obtain ⟨hbd, hbd2⟩ := (c.nodes_dep 1).1 e1 (by rw [hq]; simp)
      have hcd := hk1.2
      refine wpIn_block ?_
      rcases (show (y.k = 7 ∧ y.s = s) ∨ (y.k = 7 ∧ ¬ y.s = s) ∨ y.k ≠ 7 by by_cases h1 : y.k = 7 <;> by_cases h2 : y.s = s <;> simp [h1, h2]) with hk | hk | hk
      · have hic : isC s e1.2 = true := isC_yes hy hk.1 hk.2
        refine wpI_rs (by repeat' first | exact rndPost.calm | exact false.calm | refine Calm.then ?_ _ | refine Calm.block ?_ _) rfl fun K10 hK10 => ?_
        refine s_val hF (x_fa0 fa27_0 rfl) (by decide) fun a hF => ?_
        refine s_val hF (x_load rfl (m_load flat3 (m6.cell (j := 0) rfl))) (by decide) fun a hF => ?_
        refine s_val hF (x_eql (b := true) (decide_eq_true (by omega)) rfl rfl) (by decide) fun a hF => ?_
        refine s_val hF (x_move rfl) (by decide) fun a hF => ?_
        refine s_grd 16 hF rfl rfl rfl ?_
        refine s_val hF (x_fa0 fa27_2 rfl) (by decide) fun a hF => ?_
        refine s_grd 16 hF rfl rfl rfl ?_
        refine s_val hF (x_load rfl (m_load flat9 (m6.cell (j := 2) rfl))) (by decide) fun a hF => ?_
        refine s_grd 16 hF rfl rfl rfl ?_
        refine s_val hF (x_load rfl (m_load flat9 (m3.cell (j := 0) rfl))) (by decide) fun a hF => ?_
        refine s_grd 16 hF rfl rfl rfl ?_
        refine s_val hF (x_eqS (b := true) (decide_eq_true hk.2) rfl rfl) (by decide) fun a hF => ?_
        refine s_val hF (x_pick (b := true) rfl rfl) (by decide) fun a hF => ?_
        refine s_end (hK10 _ _ ?_)
        refine wpI_if hF rfl ?_
        refine wpI_rs (by repeat' first | exact rndPost.calm | exact false.calm | refine Calm.then ?_ _ | refine Calm.block ?_ _) rfl fun K11 hK11 => ?_
        refine s_put hF rfl rfl flat4 m4 (by first | (simp; done) | (simp [tc, lc]; done) | decide) rfl fun w22 m4 o23 => ?_
        have so23 := o23.size
        have hBr := hBr.trans (o23.below (by omega))
        have m3 := m3.only o23 (by omega)
        have m6 := m6.only o23 (by omega)
        have hM := hM.only o23 (by omega)
        refine s_end (hK11 _ _ ?_)
        refine wpIn_ret ⟨hM, rfl, by rw [List.any_append, List.any_cons, hic]; simp, m4⟩
      · have hic : isC s e1.2 = false := isC_no hy (fun h => hk.2 h.2)
        refine wpI_rs (by repeat' first | exact rndPost.calm | exact false.calm | refine Calm.then ?_ _ | refine Calm.block ?_ _) rfl fun K12 hK12 => ?_
        refine s_val hF (x_fa0 fa27_0 rfl) (by decide) fun a hF => ?_
        refine s_val hF (x_load rfl (m_load flat3 (m6.cell (j := 0) rfl))) (by decide) fun a hF => ?_
        refine s_val hF (x_eql (b := true) (decide_eq_true (by omega)) rfl rfl) (by decide) fun a hF => ?_
        refine s_val hF (x_move rfl) (by decide) fun a hF => ?_
        refine s_grd 16 hF rfl rfl rfl ?_
        refine s_val hF (x_fa0 fa27_2 rfl) (by decide) fun a hF => ?_
        refine s_grd 16 hF rfl rfl rfl ?_
        refine s_val hF (x_load rfl (m_load flat9 (m6.cell (j := 2) rfl))) (by decide) fun a hF => ?_
        refine s_grd 16 hF rfl rfl rfl ?_
        refine s_val hF (x_load rfl (m_load flat9 (m3.cell (j := 0) rfl))) (by decide) fun a hF => ?_
        refine s_grd 16 hF rfl rfl rfl ?_
        refine s_val hF (x_eqS (b := false) (decide_eq_false hk.2) rfl rfl) (by decide) fun a hF => ?_
        refine s_val hF (x_pick (b := true) rfl rfl) (by decide) fun a hF => ?_
        refine s_end (hK12 _ _ ?_)
        refine wpI_if hF rfl ?_
        refine wpIn_skip ?_
        exact ⟨hM, (fun e he => by rcases List.mem_append.1 he with he | he; (· exact hds e he); (· rw [List.mem_singleton.1 he]; omega)), by rw [List.any_append, han, List.any_cons, hic]; rfl, m3, m4⟩
      · have hic : isC s e1.2 = false := isC_no hy (fun h => hk h.1)
        refine wpI_rs (by repeat' first | exact rndPost.calm | exact false.calm | refine Calm.then ?_ _ | refine Calm.block ?_ _) rfl fun K13 hK13 => ?_
        refine s_val hF (x_fa0 fa27_0 rfl) (by decide) fun a hF => ?_
        refine s_val hF (x_load rfl (m_load flat3 (m6.cell (j := 0) rfl))) (by decide) fun a hF => ?_
        refine s_val hF (x_eql (b := false) (decide_eq_false (by omega)) rfl rfl) (by decide) fun a hF => ?_
        refine s_val hF (x_move rfl) (by decide) fun a hF => ?_
        refine s_grdn 16 hF rfl rfl (by decide) fun a hF => ?_
        refine s_grdn 16 hF rfl rfl (by decide) fun a hF => ?_
        refine s_grdn 16 hF rfl rfl (by decide) fun a hF => ?_
        refine s_grdn 16 hF rfl rfl (by decide) fun a hF => ?_
        refine s_val hF (x_pick (b := false) rfl rfl) (by decide) fun a hF => ?_
        refine s_end (hK13 _ _ ?_)
        refine wpI_if hF rfl ?_
        refine wpIn_skip ?_
        exact ⟨hM, (fun e he => by rcases List.mem_append.1 he with he | he; (· exact hds e he); (· rw [List.mem_singleton.1 he]; omega)), by rw [List.any_append, han, List.any_cons, hic]; rfl, m3, m4⟩
    · rintro a W hI hM hD hF
      obtain ⟨hds, han, m3, m4⟩ := hI
      have sM := hM.size
      have hB := hB.trans (hM.below (by omega))
      obtain ⟨bD, hbD⟩ : ∃ bD, bD = w14.heap.size := ⟨_, rfl⟩
      rw [← hbD] at hD hF
      have hD : Dfr W bD := hD
      refine hK7 _ _ ?_
      refine wp_rs fun K14 hK14 => ?_
      refine s_put hF rfl rfl flat4 m4 (by first | (simp; done) | (simp [tc, lc]; done) | decide) rfl fun w24 m4 o25 => ?_
      have so25 := o25.size
      have hB := hB.trans (o25.below (by omega))
      have m3 := m3.only o25 (by omega)
      have hD := hD.only o25 (by omega)
      refine s_end (hK14 _ _ ?_)
      have hz : c.menR s = false := by unfold CT.menR; rw [leaves_nodes s c 0 1, han, Bool.and_false]
      refine wp_ret (resM hF hD fun w9 o9 => ⟨run_cell (t0 := 0) (cs := []) hF rfl rfl (m_load flat4 ((m4.only o9 (by omega)).cell (j := 0) rfl)), by rw [hz], hB.trans (o9.below (by omega))⟩)
    · rintro a c p W hp hI hM hD hF
      obtain ⟨rfl, han, m4⟩ := hI
      have hB := hB.trans (hM.below (by omega))
      have hz : c.menR s = true := by unfold CT.menR; rw [decide_eq_true hk1, leaves_nodes s c 0 1]; obtain ⟨t, ht⟩ := hp; rw [← ht, List.any_append, han]; rfl
      refine wp_ret (inb_ret (then_ret (resM hF hD fun w9 o9 => ⟨run_cell (t0 := 0) (cs := []) hF rfl rfl (m_load flat4 ((m4.only o9 (by omega)).cell (j := 0) rfl)), by rw [hz], hB.trans (o9.below (by omega))⟩)))

set_option maxRecDepth 100000 in
set_option maxHeartbeats 400000 in
theorem termSizes_walk (a0 : CT) (x : C8) (s : ByteArray) (w0 : World) (hx : RC w0 (fun k => k < w0.heap.size) a0 x) : Calls Try.prog 5 #[tv x, .string s] w0 fun e w' => e = .returned (.bool true) ∧ Below w0.heap.size w0 w' := by
  have hB := Below.refl w0.heap.size w0
  have sB := hB.size
  refine calls_fs 36 [(0, tv x), (1, .string s)] Try.func5 rfl rfl rfl rfl rfl fun a hF => ?_
  refine wp_rs fun K1 hK1 => ?_
  refine s_box (tc x) hF (by decide) rfl rfl fun w2 b2 a eb2 m2 B3 zb2 hF => ?_
  have sB3 := B3.size
  have hB := hB.trans (B3.mono hB.size)
  refine s_val hF (x_assign rfl) (by decide) fun a hF => ?_
  refine s_end (hK1 _ _ ?_)
  refine dk2_seq (w2.heap.size) (w2.heap.size) (ops := regOps Try.f5 1) (N := 32) (by kernel_rfl) wide_orders (by kernel_rfl) fun w4 hw4 B5 hS K2 hK2 => ?_
  have zw4 : w4.heap.size = w2.heap.size := by rw [hw4]
  have sB5 := B5.size
  have hB := hB.trans (B5.mono hB.size)
  have m2 := m2.old B5
  have m2_d := m2
  have hB_d := hB
  refine d_val 0 5 (op := (Go.Op.load 27 (Go.Operand.tmp 2))) hF hS (by kernel_rfl) (fun W hW => x_ldW wide27 (m2_d.k2 hW (by omega)) rfl rfl) (by kernel_rfl) (by decide) fun a hF => ?_
  refine d_val 2 7 (op := (Go.Op.load 27 (Go.Operand.tmp 2))) hF hS (by kernel_rfl) (fun W hW => x_ldW wide27 (m2_d.k2 hW (by omega)) rfl rfl) (by kernel_rfl) (by decide) fun a hF => ?_
  refine d_one 1 (some 6) (Go.Op.call (Go.Call.mk (Go.Callee.value (Go.Operand.func 33)) #[(Go.Operand.tmp 5)] #[27])) (by kernel_rfl) (by kernel_rfl) fun ty pos af => ?_
  refine s_callB [_] hF (enters_of Try.func33 (by kernel_rfl) rfl) rfl (by decide) (Size33 a0 x w4 (hx.bel hB)) fun w6 a B7 hF => ?_
  have sB7 := B7.size
  have hB := hB.trans (B7.mono hB.size)
  have m2 := m2.old B7
  have hS := hS.below B7
  refine s_end ⟨hS, ?_⟩
  refine d_one 3 (some 8) (Go.Op.call (Go.Call.mk (Go.Callee.value (Go.Operand.func 26)) #[(Go.Operand.tmp 7)] #[27])) (by kernel_rfl) (by kernel_rfl) fun ty pos af => ?_
  refine s_callB [_] hF (enters_of Try.func26 (by kernel_rfl) rfl) rfl (by decide) (Size26 a0 x w6 (hx.bel hB)) fun w8 a B9 hF => ?_
  have sB9 := B9.size
  have hB := hB.trans (B9.mono hB.size)
  have m2 := m2.old B9
  have hS := hS.below B9
  refine s_end ⟨hS, ?_⟩
  refine d_val 4 9 (op := (Go.Op.binOp Go.BinOp.eql 3 (Go.Operand.tmp 6) (Go.Operand.tmp 8) 3)) hF hS (by kernel_rfl) (fun W hW => x_eql (b := true) (decide_eq_true rfl) rfl rfl) (by kernel_rfl) (by decide) fun a hF => ?_
  refine d_val 5 10 (op := (Go.Op.move (Go.Operand.tmp 9))) hF hS (by kernel_rfl) (fun W hW => x_move rfl) (by kernel_rfl) (by decide) fun a hF => ?_
  refine d_valg 6 11 10 (j := 5) (want := true) (op := (Go.Op.load 27 (Go.Operand.tmp 2))) hF hS (by kernel_rfl) (by kernel_rfl) rfl (fun W hW => x_ldW wide27 (m2_d.k2 hW (by omega)) rfl rfl) (by kernel_rfl) (by decide) fun a hF => ?_
  refine d_valg 8 13 10 (j := 5) (want := true) (op := (Go.Op.load 27 (Go.Operand.tmp 2))) hF hS (by kernel_rfl) (by kernel_rfl) rfl (fun W hW => x_ldW wide27 (m2_d.k2 hW (by omega)) rfl rfl) (by kernel_rfl) (by decide) fun a hF => ?_
  refine d_oneg 7 10 (some 12) (Go.Op.call (Go.Call.mk (Go.Callee.value (Go.Operand.func 34)) #[(Go.Operand.tmp 11)] #[27])) (j := 5) (want := true) hF (by kernel_rfl) (by kernel_rfl) (by kernel_rfl) rfl fun ty pos af => ?_
  refine s_callB [_] hF (enters_of Try.func34 (by kernel_rfl) rfl) rfl (by decide) (Depth34 a0 x w8 (hx.bel hB)) fun w10 a B11 hF => ?_
  have sB11 := B11.size
  have hB := hB.trans (B11.mono hB.size)
  have m2 := m2.old B11
  have hS := hS.below B11
  refine s_end ⟨hS, ?_⟩
  refine d_oneg 9 10 (some 14) (Go.Op.call (Go.Call.mk (Go.Callee.value (Go.Operand.func 35)) #[(Go.Operand.tmp 13)] #[27])) (j := 5) (want := true) hF (by kernel_rfl) (by kernel_rfl) (by kernel_rfl) rfl fun ty pos af => ?_
  refine s_callB [_] hF (enters_of Try.func35 (by kernel_rfl) rfl) rfl (by decide) (Depth35 a0 x w10 (hx.bel hB)) fun w12 a B13 hF => ?_
  have sB13 := B13.size
  have hB := hB.trans (B13.mono hB.size)
  have m2 := m2.old B13
  have hS := hS.below B13
  refine s_end ⟨hS, ?_⟩
  refine d_valg 10 15 10 (j := 5) (want := true) (op := (Go.Op.binOp Go.BinOp.eql 3 (Go.Operand.tmp 12) (Go.Operand.tmp 14) 3)) hF hS (by kernel_rfl) (by kernel_rfl) rfl (fun W hW => x_eql (b := true) (decide_eq_true rfl) rfl rfl) (by kernel_rfl) (by decide) fun a hF => ?_
  refine d_val 11 16 (op := (Go.Op.pick (Go.Operand.tmp 10) (Go.Operand.tmp 15) (Go.Operand.const (Go.Value.bool false)))) hF hS (by kernel_rfl) (fun W hW => x_pick (b := true) rfl rfl) (by kernel_rfl) (by decide) fun a hF => ?_
  refine d_val 12 17 (op := (Go.Op.move (Go.Operand.tmp 16))) hF hS (by kernel_rfl) (fun W hW => x_move rfl) (by kernel_rfl) (by decide) fun a hF => ?_
  refine d_valg 13 18 17 (j := 12) (want := true) (op := (Go.Op.load 27 (Go.Operand.tmp 2))) hF hS (by kernel_rfl) (by kernel_rfl) rfl (fun W hW => x_ldW wide27 (m2_d.k2 hW (by omega)) rfl rfl) (by kernel_rfl) (by decide) fun a hF => ?_
  refine d_valg 15 20 17 (j := 12) (want := true) (op := (Go.Op.load 27 (Go.Operand.tmp 2))) hF hS (by kernel_rfl) (by kernel_rfl) rfl (fun W hW => x_ldW wide27 (m2_d.k2 hW (by omega)) rfl rfl) (by kernel_rfl) (by decide) fun a hF => ?_
  refine d_oneg 14 17 (some 19) (Go.Op.call (Go.Call.mk (Go.Callee.value (Go.Operand.func 36)) #[(Go.Operand.tmp 18)] #[27])) (j := 12) (want := true) hF (by kernel_rfl) (by kernel_rfl) (by kernel_rfl) rfl fun ty pos af => ?_
  refine s_callB [_] hF (enters_of Try.func36 (by kernel_rfl) rfl) rfl (by decide) (Loose36 a0 x w12 (hx.bel hB)) fun w14 a B15 hF => ?_
  have sB15 := B15.size
  have hB := hB.trans (B15.mono hB.size)
  have m2 := m2.old B15
  have hS := hS.below B15
  refine s_end ⟨hS, ?_⟩
  refine d_oneg 16 17 (some 21) (Go.Op.call (Go.Call.mk (Go.Callee.value (Go.Operand.func 37)) #[(Go.Operand.tmp 20)] #[27])) (j := 12) (want := true) hF (by kernel_rfl) (by kernel_rfl) (by kernel_rfl) rfl fun ty pos af => ?_
  refine s_callB [_] hF (enters_of Try.func37 (by kernel_rfl) rfl) rfl (by decide) (rLoose37 a0 x w14 (hx.bel hB)) fun w16 a B17 hF => ?_
  have sB17 := B17.size
  have hB := hB.trans (B17.mono hB.size)
  have m2 := m2.old B17
  have hS := hS.below B17
  refine s_end ⟨hS, ?_⟩
  refine d_valg 17 22 17 (j := 12) (want := true) (op := (Go.Op.binOp Go.BinOp.eql 3 (Go.Operand.tmp 19) (Go.Operand.tmp 21) 3)) hF hS (by kernel_rfl) (by kernel_rfl) rfl (fun W hW => x_eql (b := true) (decide_eq_true rfl) rfl rfl) (by kernel_rfl) (by decide) fun a hF => ?_
  refine d_val 18 23 (op := (Go.Op.pick (Go.Operand.tmp 17) (Go.Operand.tmp 22) (Go.Operand.const (Go.Value.bool false)))) hF hS (by kernel_rfl) (fun W hW => x_pick (b := true) rfl rfl) (by kernel_rfl) (by decide) fun a hF => ?_
  refine d_val 19 24 (op := (Go.Op.move (Go.Operand.tmp 23))) hF hS (by kernel_rfl) (fun W hW => x_move rfl) (by kernel_rfl) (by decide) fun a hF => ?_
  refine d_valg 20 25 24 (j := 19) (want := true) (op := (Go.Op.load 27 (Go.Operand.tmp 2))) hF hS (by kernel_rfl) (by kernel_rfl) rfl (fun W hW => x_ldW wide27 (m2_d.k2 hW (by omega)) rfl rfl) (by kernel_rfl) (by decide) fun a hF => ?_
  refine d_valg 21 26 24 (j := 19) (want := true) (op := (Go.Op.move (Go.Operand.tmp 1))) hF hS (by kernel_rfl) (by kernel_rfl) rfl (fun W hW => x_move rfl) (by kernel_rfl) (by decide) fun a hF => ?_
  refine d_valg 23 28 24 (j := 19) (want := true) (op := (Go.Op.load 27 (Go.Operand.tmp 2))) hF hS (by kernel_rfl) (by kernel_rfl) rfl (fun W hW => x_ldW wide27 (m2_d.k2 hW (by omega)) rfl rfl) (by kernel_rfl) (by decide) fun a hF => ?_
  refine d_valg 24 29 24 (j := 19) (want := true) (op := (Go.Op.move (Go.Operand.tmp 1))) hF hS (by kernel_rfl) (by kernel_rfl) rfl (fun W hW => x_move rfl) (by kernel_rfl) (by decide) fun a hF => ?_
  refine d_oneg 22 24 (some 27) (Go.Op.call (Go.Call.mk (Go.Callee.value (Go.Operand.func 38)) #[(Go.Operand.tmp 25), (Go.Operand.tmp 26)] #[27, 9])) (j := 19) (want := true) hF (by kernel_rfl) (by kernel_rfl) (by kernel_rfl) rfl fun ty pos af => ?_
  refine s_callB [_, _] hF (enters_of Try.func38 (by kernel_rfl) rfl) rfl (by decide) (Mentions38 a0 x s w16 (hx.bel hB)) fun w18 a B19 hF => ?_
  have sB19 := B19.size
  have hB := hB.trans (B19.mono hB.size)
  have m2 := m2.old B19
  have hS := hS.below B19
  refine s_end ⟨hS, ?_⟩
  refine d_oneg 25 24 (some 30) (Go.Op.call (Go.Call.mk (Go.Callee.value (Go.Operand.func 39)) #[(Go.Operand.tmp 28), (Go.Operand.tmp 29)] #[27, 9])) (j := 19) (want := true) hF (by kernel_rfl) (by kernel_rfl) (by kernel_rfl) rfl fun ty pos af => ?_
  refine s_callB [_, _] hF (enters_of Try.func39 (by kernel_rfl) rfl) rfl (by decide) (rMentions39 a0 x s w18 (hx.bel hB)) fun w20 a B21 hF => ?_
  have sB21 := B21.size
  have hB := hB.trans (B21.mono hB.size)
  have m2 := m2.old B21
  have hS := hS.below B21
  refine s_end ⟨hS, ?_⟩
  refine d_valg 26 31 24 (j := 19) (want := true) (op := (Go.Op.binOp Go.BinOp.eql 4 (Go.Operand.tmp 27) (Go.Operand.tmp 30) 4)) hF hS (by kernel_rfl) (by kernel_rfl) rfl (fun W hW => x_eqB (b := true) Try.underlying4 (by simp) rfl rfl) (by kernel_rfl) (by decide) fun a hF => ?_
  refine d_val 27 32 (op := (Go.Op.pick (Go.Operand.tmp 24) (Go.Operand.tmp 31) (Go.Operand.const (Go.Value.bool false)))) hF hS (by kernel_rfl) (fun W hW => x_pick (b := true) rfl rfl) (by kernel_rfl) (by decide) fun a hF => ?_
  refine d_val 28 33 (op := (Go.Op.move (Go.Operand.tmp 32))) hF hS (by kernel_rfl) (fun W hW => x_move rfl) (by kernel_rfl) (by decide) fun a hF => ?_
  refine d_oneg 29 33 (some 34) (Go.Op.call (Go.Call.mk (Go.Callee.value (Go.Operand.func 15)) #[] #[])) (j := 28) (want := true) hF (by kernel_rfl) (by kernel_rfl) (by kernel_rfl) rfl fun ty pos af => ?_
  refine s_callB [] hF (enters_of Try.func15 (by kernel_rfl) rfl) rfl (by decide) (awake15 w20) fun w22 a B23 hF => ?_
  have sB23 := B23.size
  have hB := hB.trans (B23.mono hB.size)
  have m2 := m2.old B23
  have hS := hS.below B23
  refine s_end ⟨hS, ?_⟩
  refine d_val 30 35 (op := (Go.Op.pick (Go.Operand.tmp 33) (Go.Operand.tmp 34) (Go.Operand.const (Go.Value.bool false)))) hF hS (by kernel_rfl) (fun W hW => x_pick (b := true) rfl rfl) (by kernel_rfl) (by decide) fun a hF => ?_
  refine d_val 31 4 (op := (Go.Op.assign (Go.Operand.tmp 35))) hF hS (by kernel_rfl) (fun W hW => x_assign rfl) (by kernel_rfl) (by decide) fun a hF => ?_
  refine d_end (by kernel_rfl) (hK2 _ _ ?_)
  refine wp_ret (res_slot hF rfl rfl ⟨rfl, hB⟩)
end Go.Proofs.Ytgpciphjhnabcaa
