/- check, May, isSound; the reference's may, May, sound, Sound. -/
import Derived.Test.YtaclncmkdpjnlaaLev1
namespace Go.Proofs.Ytaclncmkdpjnlaa
open Go.RowKit Go.Shelf
set_option linter.unusedVariables false
set_option linter.unusedSimpArgs false

theorem chk_two {D top vars d : Int} {r : Nat} {k n : Int} {ls : List Lv} (h : D < d ∨ r = 0) : (chk D top vars d r (.mk k n ls)).1 = 2 := by
  have e : nodeE D top vars d r k n ls.length = 2 := by rw [nodeE, if_pos h]
  rw [chk_out (by rw [e]; decide), e]
theorem chk_one {D top vars d : Int} {r : Nat} {k n : Int} {ls : List Lv} (h : ¬ (D < d ∨ r = 0)) (h1 : kidsB k ls.length = false ∨ numB top k n = false) : (chk D top vars d r (.mk k n ls)).1 = 1 := by
  have e : nodeE D top vars d r k n ls.length = 1 := by rw [nodeE, if_neg h, if_pos h1]
  rw [chk_out (by rw [e]; decide), e]
theorem chk_ten {D top vars d : Int} {r : Nat} {k n : Int} {ls : List Lv} (h : ¬ (D < d ∨ r = 0)) (h1 : kidsB k ls.length = true) (h2 : numB top k n = true) (h3 : k = 2 ∧ (n < 0 ∨ vars ≤ n)) : (chk D top vars d r (.mk k n ls)).1 = 10 := by
  have e : nodeE D top vars d r k n ls.length = 10 := by rw [nodeE, if_neg h, if_neg (by rw [h1, h2]; simp), if_pos h3]
  rw [chk_out (by rw [e]; decide), e]
theorem RL.one1 {W : World} {x : C3} {l : Lv} (h : RL W x l) : x.2.2.oneCell' = true := by
  obtain ⟨_, _, h⟩ := h.slice
  exact h.one
theorem drop_at {α : Type} {ls : List α} {i : Nat} {l : α} (h : ls[i]? = some l) : ls.drop i = l :: ls.drop (i + 1) := by
  obtain ⟨hi, rfl⟩ := List.getElem?_eq_some_iff.1 h
  exact List.drop_eq_getElem_cons hi
theorem arI_kids {k : Int} {len : Nat} : kidsB k len = true ↔ 0 ≤ arI k ∧ (len : Int) = arI k := by
  rw [kidsB_iff]
  unfold arI
  split
  · omega
  · split
    · omega
    · split
      · omega
      · omega
theorem arI_no {k : Int} {len : Nat} (h : arI k < 0 ∨ (len : Int) ≠ arI k) : kidsB k len = false := Bool.eq_false_iff.2 fun h1 => by have := arI_kids.1 h1; omega
theorem numB_no {top k n : Int} (h : ¬ ((k = 1 → 0 ≤ n ∧ n ≤ top) ∧ (k = 3 → 1 ≤ n ∧ n ≤ top))) : numB top k n = false := Bool.eq_false_iff.2 fun h1 => h (numB_iff.1 h1)
theorem kids_le {k : Int} {len : Nat} (h : kidsB k len = true) : len ≤ 2 := by
  have := kidsB_iff.1 h
  omega
theorem int_of {x y : Int} (h : x = y) : Value.int .i64 x = Value.int .i64 y := by rw [h]

set_option maxRecDepth 100000 in
set_option maxHeartbeats 1600000 in
theorem check34 (D top vars : Int) (hD : D ≤ 256) (w0 : World) (g : Nat) (hg : w0.heap.size ≤ g) : ∀ (x : C3) (l : Lv), RL w0 x l → ∀ (d : Int) (r : Nat) (w1 : World), 1 ≤ d → d ≤ 300 → r ≤ 1000 → Below w0.heap.size w0 w1 → Blk w1 g 135 [.int .i64 D, .int .i64 (r : Int), .int .i64 top, .int .i64 vars] →
    Calls Try.prog 122 #[lv x, .int .i64 d, .pointer (some ⟨g, 0, none⟩)] w1 fun e w' => ∃ v, e = .returned v ∧ (v = .int .i64 (chk D top vars d r l).1 ∧ ((chk D top vars d r l).1 = 0 → Blk w' g 135 [.int .i64 D, .int .i64 ((chk D top vars d r l).2 : Int), .int .i64 top, .int .i64 vars])) ∧ Ktw g g w1 w' := by
  intro x l h
  induction h with
  | @mk k n v xs ls hR hl hk ih =>
  intro d r w1 hd1 hd2 hr hB mg
  obtain ⟨av, cv, rfl, _⟩ := hR.form
  have hK := Ktw.refl g g w1
  have sB := hB.size
  have hgl := mg.lt
  refine calls_fs 75 [(0, .agg [.int .i64 k, .int .i64 n, .slice av xs.length cv].toArray), (1, .int .i64 d), (2, .pointer (some ⟨g, 0, none⟩))] Try.func122 rfl rfl rfl rfl rfl fun a hF => ?_
  refine wp_rs fun K1 hK1 => ?_
  refine s_box ([.int .i64 k, .int .i64 n, .slice av xs.length cv]) hF (by decide) rfl rfl fun w2 b3 a eb3 m3 B3 zb3 hF => ?_
  have sB3 := B3.size
  have hB := hB.trans (B3.mono hB.size)
  have hK := hK.below B3
  have mg := mg.old B3
  refine s_val hF (x_assign rfl) (by decide) fun a hF => ?_
  refine s_end (hK1 _ _ ?_)
  refine wp_seq_k fun K2 hK2 => ?_
  rcases (show D < d ∨ (d ≤ D ∧ r = 0) ∨ (d ≤ D ∧ r ≠ 0) by omega) with hp | hp | hp
  · skip
    refine wp_rs fun K4 hK4 => ?_
    refine s_val hF (x_move rfl) (by decide) fun a hF => ?_
    refine s_val hF (x_move rfl) (by decide) fun a hF => ?_
    refine s_val hF (x_nil rfl) (by decide) fun a hF => ?_
    refine s_val hF (x_fa0 fa54_0 rfl) (by decide) fun a hF => ?_
    refine s_val hF (x_load rfl (m_load flat3 (mg.cell (j := 0) rfl))) (by decide) fun a hF => ?_
    refine s_val hF (x_gtr (b := true) (decide_eq_true (by omega)) rfl rfl) (by decide) fun a hF => ?_
    refine s_val hF (x_move rfl) (by decide) fun a hF => ?_
    refine s_grdn 16 hF rfl rfl (by decide) fun a hF => ?_
    refine s_grdn 16 hF rfl rfl (by decide) fun a hF => ?_
    refine s_grdn 16 hF rfl rfl (by decide) fun a hF => ?_
    refine s_grdn 16 hF rfl rfl (by decide) fun a hF => ?_
    refine s_grdn 16 hF rfl rfl (by decide) fun a hF => ?_
    refine s_val hF (x_pick (b := true) rfl rfl) (by decide) fun a hF => ?_
    refine s_end (hK4 _ _ ?_)
    refine wp_if hF rfl ?_
    refine wp_rs fun K5 hK5 => ?_
    refine s_val hF (x_assign rfl) (by decide) fun a hF => ?_
    refine s_end (hK5 _ _ ?_)
    refine wp_ret (then_ret (res_slot hF rfl rfl ⟨_, rfl, ⟨int_of (chk_two (by omega)).symm, fun h => absurd ((chk_two (by omega)).symm.trans h) (by decide)⟩, hK⟩))
  · skip
    refine wp_rs fun K6 hK6 => ?_
    refine s_val hF (x_move rfl) (by decide) fun a hF => ?_
    refine s_val hF (x_move rfl) (by decide) fun a hF => ?_
    refine s_val hF (x_nil rfl) (by decide) fun a hF => ?_
    refine s_val hF (x_fa0 fa54_0 rfl) (by decide) fun a hF => ?_
    refine s_val hF (x_load rfl (m_load flat3 (mg.cell (j := 0) rfl))) (by decide) fun a hF => ?_
    refine s_val hF (x_gtr (b := false) (decide_eq_false (by omega)) rfl rfl) (by decide) fun a hF => ?_
    refine s_val hF (x_move rfl) (by decide) fun a hF => ?_
    refine s_grd 16 hF rfl rfl rfl ?_
    refine s_val hF (x_move rfl) (by decide) fun a hF => ?_
    refine s_grd 16 hF rfl rfl rfl ?_
    refine s_val hF (x_nil rfl) (by decide) fun a hF => ?_
    refine s_grd 16 hF rfl rfl rfl ?_
    refine s_val hF (x_fa0 fa54_1 rfl) (by decide) fun a hF => ?_
    refine s_grd 16 hF rfl rfl rfl ?_
    refine s_val hF (x_load rfl (m_load flat3 (mg.cell (j := 1) rfl))) (by decide) fun a hF => ?_
    refine s_grd 16 hF rfl rfl rfl ?_
    refine s_val hF (x_eql (b := true) (decide_eq_true (by omega)) rfl rfl) (by decide) fun a hF => ?_
    refine s_val hF (x_pick (b := false) rfl rfl) (by decide) fun a hF => ?_
    refine s_end (hK6 _ _ ?_)
    refine wp_if hF rfl ?_
    refine wp_rs fun K7 hK7 => ?_
    refine s_val hF (x_assign rfl) (by decide) fun a hF => ?_
    refine s_end (hK7 _ _ ?_)
    refine wp_ret (then_ret (res_slot hF rfl rfl ⟨_, rfl, ⟨int_of (chk_two (by omega)).symm, fun h => absurd ((chk_two (by omega)).symm.trans h) (by decide)⟩, hK⟩))
  · skip
    refine wp_rs fun K8 hK8 => ?_
    refine s_val hF (x_move rfl) (by decide) fun a hF => ?_
    refine s_val hF (x_move rfl) (by decide) fun a hF => ?_
    refine s_val hF (x_nil rfl) (by decide) fun a hF => ?_
    refine s_val hF (x_fa0 fa54_0 rfl) (by decide) fun a hF => ?_
    refine s_val hF (x_load rfl (m_load flat3 (mg.cell (j := 0) rfl))) (by decide) fun a hF => ?_
    refine s_val hF (x_gtr (b := false) (decide_eq_false (by omega)) rfl rfl) (by decide) fun a hF => ?_
    refine s_val hF (x_move rfl) (by decide) fun a hF => ?_
    refine s_grd 16 hF rfl rfl rfl ?_
    refine s_val hF (x_move rfl) (by decide) fun a hF => ?_
    refine s_grd 16 hF rfl rfl rfl ?_
    refine s_val hF (x_nil rfl) (by decide) fun a hF => ?_
    refine s_grd 16 hF rfl rfl rfl ?_
    refine s_val hF (x_fa0 fa54_1 rfl) (by decide) fun a hF => ?_
    refine s_grd 16 hF rfl rfl rfl ?_
    refine s_val hF (x_load rfl (m_load flat3 (mg.cell (j := 1) rfl))) (by decide) fun a hF => ?_
    refine s_grd 16 hF rfl rfl rfl ?_
    refine s_val hF (x_eql (b := false) (decide_eq_false (by omega)) rfl rfl) (by decide) fun a hF => ?_
    refine s_val hF (x_pick (b := false) rfl rfl) (by decide) fun a hF => ?_
    refine s_end (hK8 _ _ ?_)
    refine wp_if hF rfl ?_
    refine wp_skip (hK2 _ _ ?_)
    refine wp_rs fun K9 hK9 => ?_
    refine s_val hF (x_move rfl) (by decide) fun a hF => ?_
    refine s_val hF (x_nil rfl) (by decide) fun a hF => ?_
    refine s_val hF (x_fa0 fa54_1 rfl) (by decide) fun a hF => ?_
    refine s_val hF (x_load rfl (m_load flat3 (mg.cell (j := 1) rfl))) (by decide) fun a hF => ?_
    refine s_val hF (x_subn (r - 1) (by omega) (by omega) rfl rfl) (by decide) fun a hF => ?_
    refine s_val hF (x_nil rfl) (by decide) fun a hF => ?_
    refine s_val hF (x_fa0 fa54_1 rfl) (by decide) fun a hF => ?_
    refine s_put hF rfl rfl flat3 mg (by simp) rfl fun w4 mg o5 => ?_
    have so5 := o5.size
    have hB := hB.trans (o5.below (by omega))
    have hK := hK.only o5 (by omega)
    have m3 := m3.only o5 (by omega)
    refine s_end (hK9 _ _ ?_)
    refine wp_seq_k fun K10 hK10 => ?_
    rcases (show kidsB k xs.length = false ∨ (kidsB k xs.length = true ∧ numB top k n = false) ∨ (kidsB k xs.length = true ∧ numB top k n = true) by cases kidsB k xs.length <;> cases numB top k n <;> simp) with hkb | ⟨hkb, hnb⟩ | ⟨hkb, hnb⟩
    · have hq : kidsB k ls.length = false ∨ numB top k n = false := .inl (by rw [← hl]; exact hkb)
      refine dk2_seq (w4.heap.size) (w4.heap.size) (ops := regOps Try.f122 4) (N := 12) (by kernel_rfl) wide_orders (by kernel_rfl) fun w6 hw6 B7 hS K12 hK12 => ?_
      have zw6 : w6.heap.size = w4.heap.size := by rw [hw6]
      have sB7 := B7.size
      have hB := hB.trans (B7.mono hB.size)
      have hK := hK.below B7
      have mg := mg.old B7
      have m3 := m3.old B7
      have mg_d := mg
      have m3_d := m3
      have hB_d := hB
      have hK_d := hK
      refine d_val 0 30 (op := (Go.Op.load 24 (Go.Operand.tmp 3))) hF hS (by kernel_rfl) (fun W hW => x_ldW wide24 (m3_d.k2 hW (by omega)) rfl rfl) (by kernel_rfl) (by decide) fun a hF => ?_
      refine d_one 1 (some 31) (Go.Op.call (Go.Call.mk (Go.Callee.value (Go.Operand.func 132)) #[(Go.Operand.tmp 30)] #[24])) (by kernel_rfl) (by kernel_rfl) fun ty pos af => ?_
      refine s_callB [_] hF (enters_of Try.func132 (by kernel_rfl) rfl) rfl (by decide) (hasKids56 k n _ _ _ w6 (hR.below hB)) fun w8 a B9 hF => ?_
      have sB9 := B9.size
      have hB := hB.trans (B9.mono hB.size)
      have hK := hK.below B9
      have mg := mg.old B9
      have m3 := m3.old B9
      have hS := hS.below B9
      rw [hkb] at hF
      refine s_end ⟨hS, ?_⟩
      refine d_val 2 32 (op := (Go.Op.unOp Go.UnOp.not 4 (Go.Operand.tmp 31))) hF hS (by kernel_rfl) (fun W hW => x_not rfl) (by kernel_rfl) (by decide) fun a hF => ?_
      refine d_val 3 33 (op := (Go.Op.move (Go.Operand.tmp 32))) hF hS (by kernel_rfl) (fun W hW => x_move rfl) (by kernel_rfl) (by decide) fun a hF => ?_
      refine d_skip 4 34 33 (j := 3) (want := false) (op := (Go.Op.load 24 (Go.Operand.tmp 3))) hF hS (by kernel_rfl) (by kernel_rfl) rfl (by kernel_rfl) (by decide) fun a hF => ?_
      refine d_skip 5 35 33 (j := 3) (want := false) (op := (Go.Op.move (Go.Operand.tmp 2))) hF hS (by kernel_rfl) (by kernel_rfl) rfl (by kernel_rfl) (by decide) fun a hF => ?_
      refine d_skip 6 36 33 (j := 3) (want := false) (op := (Go.Op.nilCheck (Go.Operand.tmp 35))) hF hS (by kernel_rfl) (by kernel_rfl) rfl (by kernel_rfl) (by decide) fun a hF => ?_
      refine d_skip 7 37 33 (j := 3) (want := false) (op := (Go.Op.fieldAddr 135 (Go.Operand.tmp 36) 2)) hF hS (by kernel_rfl) (by kernel_rfl) rfl (by kernel_rfl) (by decide) fun a hF => ?_
      refine d_skip 8 38 33 (j := 3) (want := false) (op := (Go.Op.load 3 (Go.Operand.tmp 37))) hF hS (by kernel_rfl) (by kernel_rfl) rfl (by kernel_rfl) (by decide) fun a hF => ?_
      refine d_skip 9 39 33 (j := 3) (want := false) (op := (Go.Op.call (Go.Call.mk (Go.Callee.value (Go.Operand.func 133)) #[(Go.Operand.tmp 34), (Go.Operand.tmp 38)] #[24, 3]))) hF hS (by kernel_rfl) (by kernel_rfl) rfl (by kernel_rfl) (by decide) fun a hF => ?_
      refine d_skip 10 40 33 (j := 3) (want := false) (op := (Go.Op.unOp Go.UnOp.not 4 (Go.Operand.tmp 39))) hF hS (by kernel_rfl) (by kernel_rfl) rfl (by kernel_rfl) (by decide) fun a hF => ?_
      refine d_val 11 41 (op := (Go.Op.pick (Go.Operand.tmp 33) (Go.Operand.const (Go.Value.bool true)) (Go.Operand.tmp 40))) hF hS (by kernel_rfl) (fun W hW => x_pick (b := true) rfl rfl) (by kernel_rfl) (by decide) fun a hF => ?_
      refine d_end (by kernel_rfl) (hK12 _ _ ?_)
      refine wp_if hF rfl ?_
      refine wp_rs fun K13 hK13 => ?_
      refine s_val hF (x_assign rfl) (by decide) fun a hF => ?_
      refine s_end (hK13 _ _ ?_)
      refine wp_ret (then_ret (res_slot hF rfl rfl ⟨_, rfl, ⟨int_of (chk_one (by omega) hq).symm, fun h => absurd ((chk_one (by omega) hq).symm.trans h) (by decide)⟩, hK⟩))
    · have hq : kidsB k ls.length = false ∨ numB top k n = false := .inr hnb
      refine dk2_seq (w4.heap.size) (w4.heap.size) (ops := regOps Try.f122 4) (N := 12) (by kernel_rfl) wide_orders (by kernel_rfl) fun w10 hw10 B11 hS K14 hK14 => ?_
      have zw10 : w10.heap.size = w4.heap.size := by rw [hw10]
      have sB11 := B11.size
      have hB := hB.trans (B11.mono hB.size)
      have hK := hK.below B11
      have mg := mg.old B11
      have m3 := m3.old B11
      have mg_d := mg
      have m3_d := m3
      have hB_d := hB
      have hK_d := hK
      refine d_val 0 30 (op := (Go.Op.load 24 (Go.Operand.tmp 3))) hF hS (by kernel_rfl) (fun W hW => x_ldW wide24 (m3_d.k2 hW (by omega)) rfl rfl) (by kernel_rfl) (by decide) fun a hF => ?_
      refine d_one 1 (some 31) (Go.Op.call (Go.Call.mk (Go.Callee.value (Go.Operand.func 132)) #[(Go.Operand.tmp 30)] #[24])) (by kernel_rfl) (by kernel_rfl) fun ty pos af => ?_
      refine s_callB [_] hF (enters_of Try.func132 (by kernel_rfl) rfl) rfl (by decide) (hasKids56 k n _ _ _ w10 (hR.below hB)) fun w12 a B13 hF => ?_
      have sB13 := B13.size
      have hB := hB.trans (B13.mono hB.size)
      have hK := hK.below B13
      have mg := mg.old B13
      have m3 := m3.old B13
      have hS := hS.below B13
      rw [hkb] at hF
      refine s_end ⟨hS, ?_⟩
      refine d_val 2 32 (op := (Go.Op.unOp Go.UnOp.not 4 (Go.Operand.tmp 31))) hF hS (by kernel_rfl) (fun W hW => x_not rfl) (by kernel_rfl) (by decide) fun a hF => ?_
      refine d_val 3 33 (op := (Go.Op.move (Go.Operand.tmp 32))) hF hS (by kernel_rfl) (fun W hW => x_move rfl) (by kernel_rfl) (by decide) fun a hF => ?_
      refine d_valg 4 34 33 (j := 3) (want := false) (op := (Go.Op.load 24 (Go.Operand.tmp 3))) hF hS (by kernel_rfl) (by kernel_rfl) rfl (fun W hW => x_ldW wide24 (m3_d.k2 hW (by omega)) rfl rfl) (by kernel_rfl) (by decide) fun a hF => ?_
      refine d_valg 5 35 33 (j := 3) (want := false) (op := (Go.Op.move (Go.Operand.tmp 2))) hF hS (by kernel_rfl) (by kernel_rfl) rfl (fun W hW => x_move rfl) (by kernel_rfl) (by decide) fun a hF => ?_
      refine d_valg 6 36 33 (j := 3) (want := false) (op := (Go.Op.nilCheck (Go.Operand.tmp 35))) hF hS (by kernel_rfl) (by kernel_rfl) rfl (fun W hW => x_nil rfl) (by kernel_rfl) (by decide) fun a hF => ?_
      refine d_valg 7 37 33 (j := 3) (want := false) (op := (Go.Op.fieldAddr 135 (Go.Operand.tmp 36) 2)) hF hS (by kernel_rfl) (by kernel_rfl) rfl (fun W hW => x_fa0 fa54_2 rfl) (by kernel_rfl) (by decide) fun a hF => ?_
      refine d_valg 8 38 33 (j := 3) (want := false) (op := (Go.Op.load 3 (Go.Operand.tmp 37))) hF hS (by kernel_rfl) (by kernel_rfl) rfl (fun W hW => x_load rfl (m_load flat3 ((mg_d.k2 hW (by omega)).cell (j := 2) rfl))) (by kernel_rfl) (by decide) fun a hF => ?_
      refine d_oneg 9 33 (some 39) (Go.Op.call (Go.Call.mk (Go.Callee.value (Go.Operand.func 133)) #[(Go.Operand.tmp 34), (Go.Operand.tmp 38)] #[24, 3])) (j := 3) (want := false) hF (by kernel_rfl) (by kernel_rfl) (by kernel_rfl) rfl fun ty pos af => ?_
      refine s_callB [_, _] hF (enters_of Try.func133 (by kernel_rfl) rfl) rfl (by decide) (hasNumber57 k n top _ w12) fun w14 a B15 hF => ?_
      have sB15 := B15.size
      have hB := hB.trans (B15.mono hB.size)
      have hK := hK.below B15
      have mg := mg.old B15
      have m3 := m3.old B15
      have hS := hS.below B15
      rw [hnb] at hF
      refine s_end ⟨hS, ?_⟩
      refine d_valg 10 40 33 (j := 3) (want := false) (op := (Go.Op.unOp Go.UnOp.not 4 (Go.Operand.tmp 39))) hF hS (by kernel_rfl) (by kernel_rfl) rfl (fun W hW => x_not rfl) (by kernel_rfl) (by decide) fun a hF => ?_
      refine d_val 11 41 (op := (Go.Op.pick (Go.Operand.tmp 33) (Go.Operand.const (Go.Value.bool true)) (Go.Operand.tmp 40))) hF hS (by kernel_rfl) (fun W hW => x_pick (b := false) rfl rfl) (by kernel_rfl) (by decide) fun a hF => ?_
      refine d_end (by kernel_rfl) (hK14 _ _ ?_)
      refine wp_if hF rfl ?_
      refine wp_rs fun K15 hK15 => ?_
      refine s_val hF (x_assign rfl) (by decide) fun a hF => ?_
      refine s_end (hK15 _ _ ?_)
      refine wp_ret (then_ret (res_slot hF rfl rfl ⟨_, rfl, ⟨int_of (chk_one (by omega) hq).symm, fun h => absurd ((chk_one (by omega) hq).symm.trans h) (by decide)⟩, hK⟩))
    · have hkl : kidsB k ls.length = true := by rw [← hl]; exact hkb
      refine dk2_seq (w4.heap.size) (w4.heap.size) (ops := regOps Try.f122 4) (N := 12) (by kernel_rfl) wide_orders (by kernel_rfl) fun w16 hw16 B17 hS K16 hK16 => ?_
      have zw16 : w16.heap.size = w4.heap.size := by rw [hw16]
      have sB17 := B17.size
      have hB := hB.trans (B17.mono hB.size)
      have hK := hK.below B17
      have mg := mg.old B17
      have m3 := m3.old B17
      have mg_d := mg
      have m3_d := m3
      have hB_d := hB
      have hK_d := hK
      refine d_val 0 30 (op := (Go.Op.load 24 (Go.Operand.tmp 3))) hF hS (by kernel_rfl) (fun W hW => x_ldW wide24 (m3_d.k2 hW (by omega)) rfl rfl) (by kernel_rfl) (by decide) fun a hF => ?_
      refine d_one 1 (some 31) (Go.Op.call (Go.Call.mk (Go.Callee.value (Go.Operand.func 132)) #[(Go.Operand.tmp 30)] #[24])) (by kernel_rfl) (by kernel_rfl) fun ty pos af => ?_
      refine s_callB [_] hF (enters_of Try.func132 (by kernel_rfl) rfl) rfl (by decide) (hasKids56 k n _ _ _ w16 (hR.below hB)) fun w18 a B19 hF => ?_
      have sB19 := B19.size
      have hB := hB.trans (B19.mono hB.size)
      have hK := hK.below B19
      have mg := mg.old B19
      have m3 := m3.old B19
      have hS := hS.below B19
      rw [hkb] at hF
      refine s_end ⟨hS, ?_⟩
      refine d_val 2 32 (op := (Go.Op.unOp Go.UnOp.not 4 (Go.Operand.tmp 31))) hF hS (by kernel_rfl) (fun W hW => x_not rfl) (by kernel_rfl) (by decide) fun a hF => ?_
      refine d_val 3 33 (op := (Go.Op.move (Go.Operand.tmp 32))) hF hS (by kernel_rfl) (fun W hW => x_move rfl) (by kernel_rfl) (by decide) fun a hF => ?_
      refine d_valg 4 34 33 (j := 3) (want := false) (op := (Go.Op.load 24 (Go.Operand.tmp 3))) hF hS (by kernel_rfl) (by kernel_rfl) rfl (fun W hW => x_ldW wide24 (m3_d.k2 hW (by omega)) rfl rfl) (by kernel_rfl) (by decide) fun a hF => ?_
      refine d_valg 5 35 33 (j := 3) (want := false) (op := (Go.Op.move (Go.Operand.tmp 2))) hF hS (by kernel_rfl) (by kernel_rfl) rfl (fun W hW => x_move rfl) (by kernel_rfl) (by decide) fun a hF => ?_
      refine d_valg 6 36 33 (j := 3) (want := false) (op := (Go.Op.nilCheck (Go.Operand.tmp 35))) hF hS (by kernel_rfl) (by kernel_rfl) rfl (fun W hW => x_nil rfl) (by kernel_rfl) (by decide) fun a hF => ?_
      refine d_valg 7 37 33 (j := 3) (want := false) (op := (Go.Op.fieldAddr 135 (Go.Operand.tmp 36) 2)) hF hS (by kernel_rfl) (by kernel_rfl) rfl (fun W hW => x_fa0 fa54_2 rfl) (by kernel_rfl) (by decide) fun a hF => ?_
      refine d_valg 8 38 33 (j := 3) (want := false) (op := (Go.Op.load 3 (Go.Operand.tmp 37))) hF hS (by kernel_rfl) (by kernel_rfl) rfl (fun W hW => x_load rfl (m_load flat3 ((mg_d.k2 hW (by omega)).cell (j := 2) rfl))) (by kernel_rfl) (by decide) fun a hF => ?_
      refine d_oneg 9 33 (some 39) (Go.Op.call (Go.Call.mk (Go.Callee.value (Go.Operand.func 133)) #[(Go.Operand.tmp 34), (Go.Operand.tmp 38)] #[24, 3])) (j := 3) (want := false) hF (by kernel_rfl) (by kernel_rfl) (by kernel_rfl) rfl fun ty pos af => ?_
      refine s_callB [_, _] hF (enters_of Try.func133 (by kernel_rfl) rfl) rfl (by decide) (hasNumber57 k n top _ w18) fun w20 a B21 hF => ?_
      have sB21 := B21.size
      have hB := hB.trans (B21.mono hB.size)
      have hK := hK.below B21
      have mg := mg.old B21
      have m3 := m3.old B21
      have hS := hS.below B21
      rw [hnb] at hF
      refine s_end ⟨hS, ?_⟩
      refine d_valg 10 40 33 (j := 3) (want := false) (op := (Go.Op.unOp Go.UnOp.not 4 (Go.Operand.tmp 39))) hF hS (by kernel_rfl) (by kernel_rfl) rfl (fun W hW => x_not rfl) (by kernel_rfl) (by decide) fun a hF => ?_
      refine d_val 11 41 (op := (Go.Op.pick (Go.Operand.tmp 33) (Go.Operand.const (Go.Value.bool true)) (Go.Operand.tmp 40))) hF hS (by kernel_rfl) (fun W hW => x_pick (b := false) rfl rfl) (by kernel_rfl) (by decide) fun a hF => ?_
      refine d_end (by kernel_rfl) (hK16 _ _ ?_)
      refine wp_if hF rfl ?_
      refine wp_skip (hK10 _ _ ?_)
      refine wp_seq_k fun K17 hK17 => ?_
      rcases (show (k = 2 ∧ n < 0) ∨ (k = 2 ∧ 0 ≤ n ∧ vars ≤ n) ∨ (k = 2 ∧ 0 ≤ n ∧ n < vars) ∨ k ≠ 2 by omega) with hv | hv | hv | hv
      · skip
        refine dk2_seq (w20.heap.size) (w20.heap.size) (ops := regOps Try.f122 6) (N := 17) (by kernel_rfl) wide_orders (by kernel_rfl) fun w22 hw22 B23 hS K19 hK19 => ?_
        have zw22 : w22.heap.size = w20.heap.size := by rw [hw22]
        have sB23 := B23.size
        have hB := hB.trans (B23.mono hB.size)
        have hK := hK.below B23
        have mg := mg.old B23
        have m3 := m3.old B23
        have mg_d := mg
        have m3_d := m3
        have hB_d := hB
        have hK_d := hK
        refine d_val 0 42 (op := (Go.Op.fieldAddr 24 (Go.Operand.tmp 3) 0)) hF hS (by kernel_rfl) (fun W hW => x_fa0 fa24_0 rfl) (by kernel_rfl) (by decide) fun a hF => ?_
        refine d_val 1 43 (op := (Go.Op.load 3 (Go.Operand.tmp 42))) hF hS (by kernel_rfl) (fun W hW => x_load rfl (m_load flat3 ((m3_d.k2 hW (by omega)).cell (j := 0) rfl))) (by kernel_rfl) (by decide) fun a hF => ?_
        refine d_val 2 44 (op := (Go.Op.binOp Go.BinOp.eql 3 (Go.Operand.tmp 43) (Go.Operand.const (Go.Value.int Go.IntKind.i64 2)) 3)) hF hS (by kernel_rfl) (fun W hW => x_eql (b := true) (decide_eq_true (by omega)) rfl rfl) (by kernel_rfl) (by decide) fun a hF => ?_
        refine d_val 3 45 (op := (Go.Op.move (Go.Operand.tmp 44))) hF hS (by kernel_rfl) (fun W hW => x_move rfl) (by kernel_rfl) (by decide) fun a hF => ?_
        refine d_valg 4 46 45 (j := 3) (want := true) (op := (Go.Op.fieldAddr 24 (Go.Operand.tmp 3) 1)) hF hS (by kernel_rfl) (by kernel_rfl) rfl (fun W hW => x_fa0 fa24_1 rfl) (by kernel_rfl) (by decide) fun a hF => ?_
        refine d_valg 5 47 45 (j := 3) (want := true) (op := (Go.Op.load 3 (Go.Operand.tmp 46))) hF hS (by kernel_rfl) (by kernel_rfl) rfl (fun W hW => x_load rfl (m_load flat3 ((m3_d.k2 hW (by omega)).cell (j := 1) rfl))) (by kernel_rfl) (by decide) fun a hF => ?_
        refine d_valg 6 48 45 (j := 3) (want := true) (op := (Go.Op.binOp Go.BinOp.lss 3 (Go.Operand.tmp 47) (Go.Operand.const (Go.Value.int Go.IntKind.i64 0)) 3)) hF hS (by kernel_rfl) (by kernel_rfl) rfl (fun W hW => x_lss (b := true) (decide_eq_true (by omega)) rfl rfl) (by kernel_rfl) (by decide) fun a hF => ?_
        refine d_valg 7 49 45 (j := 3) (want := true) (op := (Go.Op.move (Go.Operand.tmp 48))) hF hS (by kernel_rfl) (by kernel_rfl) rfl (fun W hW => x_move rfl) (by kernel_rfl) (by decide) fun a hF => ?_
        refine d_skip 8 50 49 (j := 7) (want := false) (op := (Go.Op.fieldAddr 24 (Go.Operand.tmp 3) 1)) hF hS (by kernel_rfl) (by kernel_rfl) rfl (by kernel_rfl) (by decide) fun a hF => ?_
        refine d_skip 9 51 49 (j := 7) (want := false) (op := (Go.Op.load 3 (Go.Operand.tmp 50))) hF hS (by kernel_rfl) (by kernel_rfl) rfl (by kernel_rfl) (by decide) fun a hF => ?_
        refine d_skip 10 52 49 (j := 7) (want := false) (op := (Go.Op.move (Go.Operand.tmp 2))) hF hS (by kernel_rfl) (by kernel_rfl) rfl (by kernel_rfl) (by decide) fun a hF => ?_
        refine d_skip 11 53 49 (j := 7) (want := false) (op := (Go.Op.nilCheck (Go.Operand.tmp 52))) hF hS (by kernel_rfl) (by kernel_rfl) rfl (by kernel_rfl) (by decide) fun a hF => ?_
        refine d_skip 12 54 49 (j := 7) (want := false) (op := (Go.Op.fieldAddr 135 (Go.Operand.tmp 53) 3)) hF hS (by kernel_rfl) (by kernel_rfl) rfl (by kernel_rfl) (by decide) fun a hF => ?_
        refine d_skip 13 55 49 (j := 7) (want := false) (op := (Go.Op.load 3 (Go.Operand.tmp 54))) hF hS (by kernel_rfl) (by kernel_rfl) rfl (by kernel_rfl) (by decide) fun a hF => ?_
        refine d_skip 14 56 49 (j := 7) (want := false) (op := (Go.Op.binOp Go.BinOp.geq 3 (Go.Operand.tmp 51) (Go.Operand.tmp 55) 3)) hF hS (by kernel_rfl) (by kernel_rfl) rfl (by kernel_rfl) (by decide) fun a hF => ?_
        refine d_valg 15 57 45 (j := 3) (want := true) (op := (Go.Op.pick (Go.Operand.tmp 49) (Go.Operand.const (Go.Value.bool true)) (Go.Operand.tmp 56))) hF hS (by kernel_rfl) (by kernel_rfl) rfl (fun W hW => x_pick (b := true) rfl rfl) (by kernel_rfl) (by decide) fun a hF => ?_
        refine d_val 16 58 (op := (Go.Op.pick (Go.Operand.tmp 45) (Go.Operand.tmp 57) (Go.Operand.const (Go.Value.bool false)))) hF hS (by kernel_rfl) (fun W hW => x_pick (b := true) rfl rfl) (by kernel_rfl) (by decide) fun a hF => ?_
        refine d_end (by kernel_rfl) (hK19 _ _ ?_)
        refine wp_if hF rfl ?_
        refine wp_rs fun K20 hK20 => ?_
        refine s_val hF (x_assign rfl) (by decide) fun a hF => ?_
        refine s_end (hK20 _ _ ?_)
        refine wp_ret (then_ret (res_slot hF rfl rfl ⟨_, rfl, ⟨int_of (chk_ten (by omega) hkl hnb (by omega)).symm, fun h => absurd ((chk_ten (by omega) hkl hnb (by omega)).symm.trans h) (by decide)⟩, hK⟩))
      · skip
        refine dk2_seq (w20.heap.size) (w20.heap.size) (ops := regOps Try.f122 6) (N := 17) (by kernel_rfl) wide_orders (by kernel_rfl) fun w24 hw24 B25 hS K21 hK21 => ?_
        have zw24 : w24.heap.size = w20.heap.size := by rw [hw24]
        have sB25 := B25.size
        have hB := hB.trans (B25.mono hB.size)
        have hK := hK.below B25
        have mg := mg.old B25
        have m3 := m3.old B25
        have mg_d := mg
        have m3_d := m3
        have hB_d := hB
        have hK_d := hK
        refine d_val 0 42 (op := (Go.Op.fieldAddr 24 (Go.Operand.tmp 3) 0)) hF hS (by kernel_rfl) (fun W hW => x_fa0 fa24_0 rfl) (by kernel_rfl) (by decide) fun a hF => ?_
        refine d_val 1 43 (op := (Go.Op.load 3 (Go.Operand.tmp 42))) hF hS (by kernel_rfl) (fun W hW => x_load rfl (m_load flat3 ((m3_d.k2 hW (by omega)).cell (j := 0) rfl))) (by kernel_rfl) (by decide) fun a hF => ?_
        refine d_val 2 44 (op := (Go.Op.binOp Go.BinOp.eql 3 (Go.Operand.tmp 43) (Go.Operand.const (Go.Value.int Go.IntKind.i64 2)) 3)) hF hS (by kernel_rfl) (fun W hW => x_eql (b := true) (decide_eq_true (by omega)) rfl rfl) (by kernel_rfl) (by decide) fun a hF => ?_
        refine d_val 3 45 (op := (Go.Op.move (Go.Operand.tmp 44))) hF hS (by kernel_rfl) (fun W hW => x_move rfl) (by kernel_rfl) (by decide) fun a hF => ?_
        refine d_valg 4 46 45 (j := 3) (want := true) (op := (Go.Op.fieldAddr 24 (Go.Operand.tmp 3) 1)) hF hS (by kernel_rfl) (by kernel_rfl) rfl (fun W hW => x_fa0 fa24_1 rfl) (by kernel_rfl) (by decide) fun a hF => ?_
        refine d_valg 5 47 45 (j := 3) (want := true) (op := (Go.Op.load 3 (Go.Operand.tmp 46))) hF hS (by kernel_rfl) (by kernel_rfl) rfl (fun W hW => x_load rfl (m_load flat3 ((m3_d.k2 hW (by omega)).cell (j := 1) rfl))) (by kernel_rfl) (by decide) fun a hF => ?_
        refine d_valg 6 48 45 (j := 3) (want := true) (op := (Go.Op.binOp Go.BinOp.lss 3 (Go.Operand.tmp 47) (Go.Operand.const (Go.Value.int Go.IntKind.i64 0)) 3)) hF hS (by kernel_rfl) (by kernel_rfl) rfl (fun W hW => x_lss (b := false) (decide_eq_false (by omega)) rfl rfl) (by kernel_rfl) (by decide) fun a hF => ?_
        refine d_valg 7 49 45 (j := 3) (want := true) (op := (Go.Op.move (Go.Operand.tmp 48))) hF hS (by kernel_rfl) (by kernel_rfl) rfl (fun W hW => x_move rfl) (by kernel_rfl) (by decide) fun a hF => ?_
        refine d_valg 8 50 49 (j := 7) (want := false) (op := (Go.Op.fieldAddr 24 (Go.Operand.tmp 3) 1)) hF hS (by kernel_rfl) (by kernel_rfl) rfl (fun W hW => x_fa0 fa24_1 rfl) (by kernel_rfl) (by decide) fun a hF => ?_
        refine d_valg 9 51 49 (j := 7) (want := false) (op := (Go.Op.load 3 (Go.Operand.tmp 50))) hF hS (by kernel_rfl) (by kernel_rfl) rfl (fun W hW => x_load rfl (m_load flat3 ((m3_d.k2 hW (by omega)).cell (j := 1) rfl))) (by kernel_rfl) (by decide) fun a hF => ?_
        refine d_valg 10 52 49 (j := 7) (want := false) (op := (Go.Op.move (Go.Operand.tmp 2))) hF hS (by kernel_rfl) (by kernel_rfl) rfl (fun W hW => x_move rfl) (by kernel_rfl) (by decide) fun a hF => ?_
        refine d_valg 11 53 49 (j := 7) (want := false) (op := (Go.Op.nilCheck (Go.Operand.tmp 52))) hF hS (by kernel_rfl) (by kernel_rfl) rfl (fun W hW => x_nil rfl) (by kernel_rfl) (by decide) fun a hF => ?_
        refine d_valg 12 54 49 (j := 7) (want := false) (op := (Go.Op.fieldAddr 135 (Go.Operand.tmp 53) 3)) hF hS (by kernel_rfl) (by kernel_rfl) rfl (fun W hW => x_fa0 fa54_3 rfl) (by kernel_rfl) (by decide) fun a hF => ?_
        refine d_valg 13 55 49 (j := 7) (want := false) (op := (Go.Op.load 3 (Go.Operand.tmp 54))) hF hS (by kernel_rfl) (by kernel_rfl) rfl (fun W hW => x_load rfl (m_load flat3 ((mg_d.k2 hW (by omega)).cell (j := 3) rfl))) (by kernel_rfl) (by decide) fun a hF => ?_
        refine d_valg 14 56 49 (j := 7) (want := false) (op := (Go.Op.binOp Go.BinOp.geq 3 (Go.Operand.tmp 51) (Go.Operand.tmp 55) 3)) hF hS (by kernel_rfl) (by kernel_rfl) rfl (fun W hW => x_geq (b := true) (decide_eq_true (by omega)) rfl rfl) (by kernel_rfl) (by decide) fun a hF => ?_
        refine d_valg 15 57 45 (j := 3) (want := true) (op := (Go.Op.pick (Go.Operand.tmp 49) (Go.Operand.const (Go.Value.bool true)) (Go.Operand.tmp 56))) hF hS (by kernel_rfl) (by kernel_rfl) rfl (fun W hW => x_pick (b := false) rfl rfl) (by kernel_rfl) (by decide) fun a hF => ?_
        refine d_val 16 58 (op := (Go.Op.pick (Go.Operand.tmp 45) (Go.Operand.tmp 57) (Go.Operand.const (Go.Value.bool false)))) hF hS (by kernel_rfl) (fun W hW => x_pick (b := true) rfl rfl) (by kernel_rfl) (by decide) fun a hF => ?_
        refine d_end (by kernel_rfl) (hK21 _ _ ?_)
        refine wp_if hF rfl ?_
        refine wp_rs fun K22 hK22 => ?_
        refine s_val hF (x_assign rfl) (by decide) fun a hF => ?_
        refine s_end (hK22 _ _ ?_)
        refine wp_ret (then_ret (res_slot hF rfl rfl ⟨_, rfl, ⟨int_of (chk_ten (by omega) hkl hnb (by omega)).symm, fun h => absurd ((chk_ten (by omega) hkl hnb (by omega)).symm.trans h) (by decide)⟩, hK⟩))
      · have hnd := nodeE_iff.2 ⟨hp.1, hp.2, hkl, hnb, (by omega : ¬ (k = 2 ∧ (n < 0 ∨ vars ≤ n)))⟩
        refine dk2_seq (w20.heap.size) (w20.heap.size) (ops := regOps Try.f122 6) (N := 17) (by kernel_rfl) wide_orders (by kernel_rfl) fun w26 hw26 B27 hS K23 hK23 => ?_
        have zw26 : w26.heap.size = w20.heap.size := by rw [hw26]
        have sB27 := B27.size
        have hB := hB.trans (B27.mono hB.size)
        have hK := hK.below B27
        have mg := mg.old B27
        have m3 := m3.old B27
        have mg_d := mg
        have m3_d := m3
        have hB_d := hB
        have hK_d := hK
        refine d_val 0 42 (op := (Go.Op.fieldAddr 24 (Go.Operand.tmp 3) 0)) hF hS (by kernel_rfl) (fun W hW => x_fa0 fa24_0 rfl) (by kernel_rfl) (by decide) fun a hF => ?_
        refine d_val 1 43 (op := (Go.Op.load 3 (Go.Operand.tmp 42))) hF hS (by kernel_rfl) (fun W hW => x_load rfl (m_load flat3 ((m3_d.k2 hW (by omega)).cell (j := 0) rfl))) (by kernel_rfl) (by decide) fun a hF => ?_
        refine d_val 2 44 (op := (Go.Op.binOp Go.BinOp.eql 3 (Go.Operand.tmp 43) (Go.Operand.const (Go.Value.int Go.IntKind.i64 2)) 3)) hF hS (by kernel_rfl) (fun W hW => x_eql (b := true) (decide_eq_true (by omega)) rfl rfl) (by kernel_rfl) (by decide) fun a hF => ?_
        refine d_val 3 45 (op := (Go.Op.move (Go.Operand.tmp 44))) hF hS (by kernel_rfl) (fun W hW => x_move rfl) (by kernel_rfl) (by decide) fun a hF => ?_
        refine d_valg 4 46 45 (j := 3) (want := true) (op := (Go.Op.fieldAddr 24 (Go.Operand.tmp 3) 1)) hF hS (by kernel_rfl) (by kernel_rfl) rfl (fun W hW => x_fa0 fa24_1 rfl) (by kernel_rfl) (by decide) fun a hF => ?_
        refine d_valg 5 47 45 (j := 3) (want := true) (op := (Go.Op.load 3 (Go.Operand.tmp 46))) hF hS (by kernel_rfl) (by kernel_rfl) rfl (fun W hW => x_load rfl (m_load flat3 ((m3_d.k2 hW (by omega)).cell (j := 1) rfl))) (by kernel_rfl) (by decide) fun a hF => ?_
        refine d_valg 6 48 45 (j := 3) (want := true) (op := (Go.Op.binOp Go.BinOp.lss 3 (Go.Operand.tmp 47) (Go.Operand.const (Go.Value.int Go.IntKind.i64 0)) 3)) hF hS (by kernel_rfl) (by kernel_rfl) rfl (fun W hW => x_lss (b := false) (decide_eq_false (by omega)) rfl rfl) (by kernel_rfl) (by decide) fun a hF => ?_
        refine d_valg 7 49 45 (j := 3) (want := true) (op := (Go.Op.move (Go.Operand.tmp 48))) hF hS (by kernel_rfl) (by kernel_rfl) rfl (fun W hW => x_move rfl) (by kernel_rfl) (by decide) fun a hF => ?_
        refine d_valg 8 50 49 (j := 7) (want := false) (op := (Go.Op.fieldAddr 24 (Go.Operand.tmp 3) 1)) hF hS (by kernel_rfl) (by kernel_rfl) rfl (fun W hW => x_fa0 fa24_1 rfl) (by kernel_rfl) (by decide) fun a hF => ?_
        refine d_valg 9 51 49 (j := 7) (want := false) (op := (Go.Op.load 3 (Go.Operand.tmp 50))) hF hS (by kernel_rfl) (by kernel_rfl) rfl (fun W hW => x_load rfl (m_load flat3 ((m3_d.k2 hW (by omega)).cell (j := 1) rfl))) (by kernel_rfl) (by decide) fun a hF => ?_
        refine d_valg 10 52 49 (j := 7) (want := false) (op := (Go.Op.move (Go.Operand.tmp 2))) hF hS (by kernel_rfl) (by kernel_rfl) rfl (fun W hW => x_move rfl) (by kernel_rfl) (by decide) fun a hF => ?_
        refine d_valg 11 53 49 (j := 7) (want := false) (op := (Go.Op.nilCheck (Go.Operand.tmp 52))) hF hS (by kernel_rfl) (by kernel_rfl) rfl (fun W hW => x_nil rfl) (by kernel_rfl) (by decide) fun a hF => ?_
        refine d_valg 12 54 49 (j := 7) (want := false) (op := (Go.Op.fieldAddr 135 (Go.Operand.tmp 53) 3)) hF hS (by kernel_rfl) (by kernel_rfl) rfl (fun W hW => x_fa0 fa54_3 rfl) (by kernel_rfl) (by decide) fun a hF => ?_
        refine d_valg 13 55 49 (j := 7) (want := false) (op := (Go.Op.load 3 (Go.Operand.tmp 54))) hF hS (by kernel_rfl) (by kernel_rfl) rfl (fun W hW => x_load rfl (m_load flat3 ((mg_d.k2 hW (by omega)).cell (j := 3) rfl))) (by kernel_rfl) (by decide) fun a hF => ?_
        refine d_valg 14 56 49 (j := 7) (want := false) (op := (Go.Op.binOp Go.BinOp.geq 3 (Go.Operand.tmp 51) (Go.Operand.tmp 55) 3)) hF hS (by kernel_rfl) (by kernel_rfl) rfl (fun W hW => x_geq (b := false) (decide_eq_false (by omega)) rfl rfl) (by kernel_rfl) (by decide) fun a hF => ?_
        refine d_valg 15 57 45 (j := 3) (want := true) (op := (Go.Op.pick (Go.Operand.tmp 49) (Go.Operand.const (Go.Value.bool true)) (Go.Operand.tmp 56))) hF hS (by kernel_rfl) (by kernel_rfl) rfl (fun W hW => x_pick (b := false) rfl rfl) (by kernel_rfl) (by decide) fun a hF => ?_
        refine d_val 16 58 (op := (Go.Op.pick (Go.Operand.tmp 45) (Go.Operand.tmp 57) (Go.Operand.const (Go.Value.bool false)))) hF hS (by kernel_rfl) (fun W hW => x_pick (b := true) rfl rfl) (by kernel_rfl) (by decide) fun a hF => ?_
        refine d_end (by kernel_rfl) (hK23 _ _ ?_)
        refine wp_if hF rfl ?_
        refine wp_skip (hK17 _ _ ?_)
        refine wp_seq_k fun K24 hK24 => ?_
        refine wp_rs fun K25 hK25 => ?_
        refine s_val hF (x_fa0 fa24_2 rfl) (by decide) fun a hF => ?_
        refine s_val hF (x_load rfl (m_load flat22 (m3.cell (j := 2) rfl))) (by decide) fun a hF => ?_
        refine s_val hF (x_len Try.underlying22 rfl) (by decide) fun a hF => ?_
        refine s_val hF (x_move rfl) (by decide) fun a hF => ?_
        refine s_end (hK25 _ _ ?_)
        refine wp_block ?_
        refine wp_up xs.length (fun i a w => ∃ ri : Nat, ri ≤ 1000 ∧ chks D top vars (d + 1) (r - 1) ls = chks D top vars (d + 1) ri (ls.drop i) ∧ Blk w g 135 [.int .i64 D, .int .i64 (ri : Int), .int .i64 top, .int .i64 vars] ∧ Below w0.heap.size w0 w ∧ Ktw g g w1 w ∧ Fs 75 a [(62, .int .i64 (i : Int)), (61, .int .i64 (xs.length : Int)), (60, .slice av xs.length cv), (1, .int .i64 d), (2, .pointer (some ⟨g, 0, none⟩))]) ⟨r - 1, by omega, rfl, mg, hB, hK, hF.sub _ rfl⟩ ?_
        clear hF hB hK mg
        rintro i a w hi ⟨ri, hri, hck, mg, hB, hK, hF⟩ K' hK'
        have sB := hB.size
        have hgl := mg.lt
        have sK := hK.size
        have hle := kids_le hkl
        refine wp_rs fun K26 hK26 => ?_
        refine s_val hF (x_lss rfl rfl rfl) (by decide) fun a hF => ?_
        refine s_end (hK26 _ _ ?_)
        refine wp_seq_k fun K27 hK27 => ?_
        refine wp_iff hF rfl (fun hc63 => ?_) (fun hc63 => ?_)
        · obtain ⟨b, off, c, y, hve, hy, hrow⟩ := rd_row3 hR (i := i) (by omega)
          cases hve
          obtain ⟨l, hlk⟩ : ∃ l, ls[i]? = some l := ⟨_, List.getElem?_eq_getElem (by omega)⟩
          have ihy := ih i y l hy hlk
          have h1y := (hk i y l hy hlk).one1
          rw [drop_at hlk] at hck
          refine wp_skip (hK27 _ _ ?_)
          refine wp_seq_k fun K28 hK28 => ?_
          refine wp_block ?_
          refine wp_rs fun K29 hK29 => ?_
          refine s_val hF (x_ixa rfl rfl (m_ixsK i Try.underlying22 el22.size rfl (by omega))) (by decide) fun a hF => ?_
          refine s_val hF (x_ldA wide24 (hrow _ hB) rfl rfl) (by decide) fun a hF => ?_
          refine s_alloc hF (by decide) zero24 fun w28 b8 a eb8 m8 B29 zb8 hF => ?_
          have sB29 := B29.size
          have hB := hB.trans (B29.mono hB.size)
          have hK := hK.below B29
          have mg := mg.old B29
          refine s_putW hF rfl rfl (size_wide wide24) m8 rfl (one_lc h1y) fun w30 m8 o31 => ?_
          have so31 := o31.size
          have hB := hB.trans (o31.below (by omega))
          have hK := hK.only o31 (by omega)
          have mg := mg.only o31 (by omega)
          refine s_end (hK29 _ _ ?_)
          refine wp_rs fun K30 hK30 => ?_
          refine s_val hF (x_ldW wide24 m8 rfl rfl) (by decide) fun a hF => ?_
          refine s_val hF (x_move rfl) (by decide) fun a hF => ?_
          refine s_val hF (x_add (by omega) (by omega) rfl rfl) (by decide) fun a hF => ?_
          refine s_val hF (x_move rfl) (by decide) fun a hF => ?_
          refine s_call (R := fun u w' => (u = .int .i64 (chk D top vars (d + 1) ri l).1 ∧ ((chk D top vars (d + 1) ri l).1 = 0 → Blk w' g 135 [.int .i64 D, .int .i64 ((chk D top vars (d + 1) ri l).2 : Int), .int .i64 top, .int .i64 vars])) ∧ Ktw g g w30 w') hF [_, _, _] (enters_of Try.func122 (by kernel_rfl) rfl) rfl (by decide) (ihy (d + 1) ri w30 (by omega) (by omega) hri hB mg) ?_
          rintro _ w32 a ⟨⟨rfl, hmg⟩, k33⟩ hF
          have sk33 := k33.size
          have hB := k33.under hB (by omega)
          have hK := hK.trans k33 (by omega)
          have m8 := m8.k2 k33 (by omega)
          refine s_val hF (x_assign rfl) (by decide) fun a hF => ?_
          refine s_end (hK30 _ _ ?_)
          refine wp_rs fun K31 hK31 => ?_
          refine s_val hF (x_move rfl) (by decide) fun a hF => ?_
          refine s_val hF (x_neq rfl rfl rfl) (by decide) fun a hF => ?_
          refine s_end (hK31 _ _ ?_)
          refine wp_iff hF rfl (fun hc72 => ?_) (fun hc72 => ?_)
          · refine wp_rs fun K32 hK32 => ?_
            refine s_val hF (x_move rfl) (by decide) fun a hF => ?_
            refine s_val hF (x_assign rfl) (by decide) fun a hF => ?_
            refine s_end (hK32 _ _ ?_)
            refine wp_ret (inb_ret (then_ret (then_ret (inb_ret (then_ret (res_slot hF rfl rfl ⟨_, rfl, ⟨int_of (by rw [chk_in hnd, hck, chks_out hc72]), fun h => absurd (by rw [chk_in hnd, hck, chks_out hc72] at h; exact h) hc72⟩, hK⟩))))))
          · have hc0 : (chk D top vars (d + 1) ri l).1 = 0 := by omega
            have mg := hmg hc0
            refine wp_skip (hK28 _ _ ?_)
            refine wp_region_lit ?_
            refine s_val hF (x_addn (i + 1) (by omega) (by omega) rfl rfl) (by decide) fun a hF => ?_
            refine s_val hF (x_move rfl) (by decide) fun a hF => ?_
            refine s_end (hK' _ _ (by omega) ⟨(chk D top vars (d + 1) ri l).2, Nat.le_trans (chk_le _ _ _ _ _ _) hri, by rw [hck, chks_in hc0], mg, hB, hK, hF.sub _ rfl⟩)
        · refine wp_exit (hK24 _ _ ?_)
          refine wp_rs fun K33 hK33 => ?_
          refine s_val hF (x_assign rfl) (by decide) fun a hF => ?_
          refine s_end (hK33 _ _ ?_)
          have hnil : ls.drop i = [] := List.drop_of_length_le (by omega)
          rw [hnil] at hck
          refine wp_ret (res_slot hF rfl rfl ⟨_, rfl, ⟨int_of (by rw [chk_in hnd, hck]; rfl), fun _ => by rw [chk_in hnd, hck]; exact mg⟩, hK⟩)
      · have hnd := nodeE_iff.2 ⟨hp.1, hp.2, hkl, hnb, (by omega : ¬ (k = 2 ∧ (n < 0 ∨ vars ≤ n)))⟩
        refine dk2_seq (w20.heap.size) (w20.heap.size) (ops := regOps Try.f122 6) (N := 17) (by kernel_rfl) wide_orders (by kernel_rfl) fun w34 hw34 B35 hS K34 hK34 => ?_
        have zw34 : w34.heap.size = w20.heap.size := by rw [hw34]
        have sB35 := B35.size
        have hB := hB.trans (B35.mono hB.size)
        have hK := hK.below B35
        have mg := mg.old B35
        have m3 := m3.old B35
        have mg_d := mg
        have m3_d := m3
        have hB_d := hB
        have hK_d := hK
        refine d_val 0 42 (op := (Go.Op.fieldAddr 24 (Go.Operand.tmp 3) 0)) hF hS (by kernel_rfl) (fun W hW => x_fa0 fa24_0 rfl) (by kernel_rfl) (by decide) fun a hF => ?_
        refine d_val 1 43 (op := (Go.Op.load 3 (Go.Operand.tmp 42))) hF hS (by kernel_rfl) (fun W hW => x_load rfl (m_load flat3 ((m3_d.k2 hW (by omega)).cell (j := 0) rfl))) (by kernel_rfl) (by decide) fun a hF => ?_
        refine d_val 2 44 (op := (Go.Op.binOp Go.BinOp.eql 3 (Go.Operand.tmp 43) (Go.Operand.const (Go.Value.int Go.IntKind.i64 2)) 3)) hF hS (by kernel_rfl) (fun W hW => x_eql (b := false) (decide_eq_false (by omega)) rfl rfl) (by kernel_rfl) (by decide) fun a hF => ?_
        refine d_val 3 45 (op := (Go.Op.move (Go.Operand.tmp 44))) hF hS (by kernel_rfl) (fun W hW => x_move rfl) (by kernel_rfl) (by decide) fun a hF => ?_
        refine d_skip 4 46 45 (j := 3) (want := true) (op := (Go.Op.fieldAddr 24 (Go.Operand.tmp 3) 1)) hF hS (by kernel_rfl) (by kernel_rfl) rfl (by kernel_rfl) (by decide) fun a hF => ?_
        refine d_skip 5 47 45 (j := 3) (want := true) (op := (Go.Op.load 3 (Go.Operand.tmp 46))) hF hS (by kernel_rfl) (by kernel_rfl) rfl (by kernel_rfl) (by decide) fun a hF => ?_
        refine d_skip 6 48 45 (j := 3) (want := true) (op := (Go.Op.binOp Go.BinOp.lss 3 (Go.Operand.tmp 47) (Go.Operand.const (Go.Value.int Go.IntKind.i64 0)) 3)) hF hS (by kernel_rfl) (by kernel_rfl) rfl (by kernel_rfl) (by decide) fun a hF => ?_
        refine d_skip 7 49 45 (j := 3) (want := true) (op := (Go.Op.move (Go.Operand.tmp 48))) hF hS (by kernel_rfl) (by kernel_rfl) rfl (by kernel_rfl) (by decide) fun a hF => ?_
        refine d_skipu 8 50 49 (j := 7) (want := false) (op := (Go.Op.fieldAddr 24 (Go.Operand.tmp 3) 1)) hF hS (by kernel_rfl) (by kernel_rfl) rfl (by kernel_rfl) (by decide) fun a hF => ?_
        refine d_skipu 9 51 49 (j := 7) (want := false) (op := (Go.Op.load 3 (Go.Operand.tmp 50))) hF hS (by kernel_rfl) (by kernel_rfl) rfl (by kernel_rfl) (by decide) fun a hF => ?_
        refine d_skipu 10 52 49 (j := 7) (want := false) (op := (Go.Op.move (Go.Operand.tmp 2))) hF hS (by kernel_rfl) (by kernel_rfl) rfl (by kernel_rfl) (by decide) fun a hF => ?_
        refine d_skipu 11 53 49 (j := 7) (want := false) (op := (Go.Op.nilCheck (Go.Operand.tmp 52))) hF hS (by kernel_rfl) (by kernel_rfl) rfl (by kernel_rfl) (by decide) fun a hF => ?_
        refine d_skipu 12 54 49 (j := 7) (want := false) (op := (Go.Op.fieldAddr 135 (Go.Operand.tmp 53) 3)) hF hS (by kernel_rfl) (by kernel_rfl) rfl (by kernel_rfl) (by decide) fun a hF => ?_
        refine d_skipu 13 55 49 (j := 7) (want := false) (op := (Go.Op.load 3 (Go.Operand.tmp 54))) hF hS (by kernel_rfl) (by kernel_rfl) rfl (by kernel_rfl) (by decide) fun a hF => ?_
        refine d_skipu 14 56 49 (j := 7) (want := false) (op := (Go.Op.binOp Go.BinOp.geq 3 (Go.Operand.tmp 51) (Go.Operand.tmp 55) 3)) hF hS (by kernel_rfl) (by kernel_rfl) rfl (by kernel_rfl) (by decide) fun a hF => ?_
        refine d_skip 15 57 45 (j := 3) (want := true) (op := (Go.Op.pick (Go.Operand.tmp 49) (Go.Operand.const (Go.Value.bool true)) (Go.Operand.tmp 56))) hF hS (by kernel_rfl) (by kernel_rfl) rfl (by kernel_rfl) (by decide) fun a hF => ?_
        refine d_val 16 58 (op := (Go.Op.pick (Go.Operand.tmp 45) (Go.Operand.tmp 57) (Go.Operand.const (Go.Value.bool false)))) hF hS (by kernel_rfl) (fun W hW => x_pick (b := false) rfl rfl) (by kernel_rfl) (by decide) fun a hF => ?_
        refine d_end (by kernel_rfl) (hK34 _ _ ?_)
        refine wp_if hF rfl ?_
        refine wp_skip (hK17 _ _ ?_)
        refine wp_seq_k fun K35 hK35 => ?_
        refine wp_rs fun K36 hK36 => ?_
        refine s_val hF (x_fa0 fa24_2 rfl) (by decide) fun a hF => ?_
        refine s_val hF (x_load rfl (m_load flat22 (m3.cell (j := 2) rfl))) (by decide) fun a hF => ?_
        refine s_val hF (x_len Try.underlying22 rfl) (by decide) fun a hF => ?_
        refine s_val hF (x_move rfl) (by decide) fun a hF => ?_
        refine s_end (hK36 _ _ ?_)
        refine wp_block ?_
        refine wp_up xs.length (fun i a w => ∃ ri : Nat, ri ≤ 1000 ∧ chks D top vars (d + 1) (r - 1) ls = chks D top vars (d + 1) ri (ls.drop i) ∧ Blk w g 135 [.int .i64 D, .int .i64 (ri : Int), .int .i64 top, .int .i64 vars] ∧ Below w0.heap.size w0 w ∧ Ktw g g w1 w ∧ Fs 75 a [(62, .int .i64 (i : Int)), (61, .int .i64 (xs.length : Int)), (60, .slice av xs.length cv), (1, .int .i64 d), (2, .pointer (some ⟨g, 0, none⟩))]) ⟨r - 1, by omega, rfl, mg, hB, hK, hF.sub _ rfl⟩ ?_
        clear hF hB hK mg
        rintro i a w hi ⟨ri, hri, hck, mg, hB, hK, hF⟩ K' hK'
        have sB := hB.size
        have hgl := mg.lt
        have sK := hK.size
        have hle := kids_le hkl
        refine wp_rs fun K37 hK37 => ?_
        refine s_val hF (x_lss rfl rfl rfl) (by decide) fun a hF => ?_
        refine s_end (hK37 _ _ ?_)
        refine wp_seq_k fun K38 hK38 => ?_
        refine wp_iff hF rfl (fun hc63 => ?_) (fun hc63 => ?_)
        · obtain ⟨b, off, c, y, hve, hy, hrow⟩ := rd_row3 hR (i := i) (by omega)
          cases hve
          obtain ⟨l, hlk⟩ : ∃ l, ls[i]? = some l := ⟨_, List.getElem?_eq_getElem (by omega)⟩
          have ihy := ih i y l hy hlk
          have h1y := (hk i y l hy hlk).one1
          rw [drop_at hlk] at hck
          refine wp_skip (hK38 _ _ ?_)
          refine wp_seq_k fun K39 hK39 => ?_
          refine wp_block ?_
          refine wp_rs fun K40 hK40 => ?_
          refine s_val hF (x_ixa rfl rfl (m_ixsK i Try.underlying22 el22.size rfl (by omega))) (by decide) fun a hF => ?_
          refine s_val hF (x_ldA wide24 (hrow _ hB) rfl rfl) (by decide) fun a hF => ?_
          refine s_alloc hF (by decide) zero24 fun w36 b8 a eb8 m8 B37 zb8 hF => ?_
          have sB37 := B37.size
          have hB := hB.trans (B37.mono hB.size)
          have hK := hK.below B37
          have mg := mg.old B37
          refine s_putW hF rfl rfl (size_wide wide24) m8 rfl (one_lc h1y) fun w38 m8 o39 => ?_
          have so39 := o39.size
          have hB := hB.trans (o39.below (by omega))
          have hK := hK.only o39 (by omega)
          have mg := mg.only o39 (by omega)
          refine s_end (hK40 _ _ ?_)
          refine wp_rs fun K41 hK41 => ?_
          refine s_val hF (x_ldW wide24 m8 rfl rfl) (by decide) fun a hF => ?_
          refine s_val hF (x_move rfl) (by decide) fun a hF => ?_
          refine s_val hF (x_add (by omega) (by omega) rfl rfl) (by decide) fun a hF => ?_
          refine s_val hF (x_move rfl) (by decide) fun a hF => ?_
          refine s_call (R := fun u w' => (u = .int .i64 (chk D top vars (d + 1) ri l).1 ∧ ((chk D top vars (d + 1) ri l).1 = 0 → Blk w' g 135 [.int .i64 D, .int .i64 ((chk D top vars (d + 1) ri l).2 : Int), .int .i64 top, .int .i64 vars])) ∧ Ktw g g w38 w') hF [_, _, _] (enters_of Try.func122 (by kernel_rfl) rfl) rfl (by decide) (ihy (d + 1) ri w38 (by omega) (by omega) hri hB mg) ?_
          rintro _ w40 a ⟨⟨rfl, hmg⟩, k41⟩ hF
          have sk41 := k41.size
          have hB := k41.under hB (by omega)
          have hK := hK.trans k41 (by omega)
          have m8 := m8.k2 k41 (by omega)
          refine s_val hF (x_assign rfl) (by decide) fun a hF => ?_
          refine s_end (hK41 _ _ ?_)
          refine wp_rs fun K42 hK42 => ?_
          refine s_val hF (x_move rfl) (by decide) fun a hF => ?_
          refine s_val hF (x_neq rfl rfl rfl) (by decide) fun a hF => ?_
          refine s_end (hK42 _ _ ?_)
          refine wp_iff hF rfl (fun hc72 => ?_) (fun hc72 => ?_)
          · refine wp_rs fun K43 hK43 => ?_
            refine s_val hF (x_move rfl) (by decide) fun a hF => ?_
            refine s_val hF (x_assign rfl) (by decide) fun a hF => ?_
            refine s_end (hK43 _ _ ?_)
            refine wp_ret (inb_ret (then_ret (then_ret (inb_ret (then_ret (res_slot hF rfl rfl ⟨_, rfl, ⟨int_of (by rw [chk_in hnd, hck, chks_out hc72]), fun h => absurd (by rw [chk_in hnd, hck, chks_out hc72] at h; exact h) hc72⟩, hK⟩))))))
          · have hc0 : (chk D top vars (d + 1) ri l).1 = 0 := by omega
            have mg := hmg hc0
            refine wp_skip (hK39 _ _ ?_)
            refine wp_region_lit ?_
            refine s_val hF (x_addn (i + 1) (by omega) (by omega) rfl rfl) (by decide) fun a hF => ?_
            refine s_val hF (x_move rfl) (by decide) fun a hF => ?_
            refine s_end (hK' _ _ (by omega) ⟨(chk D top vars (d + 1) ri l).2, Nat.le_trans (chk_le _ _ _ _ _ _) hri, by rw [hck, chks_in hc0], mg, hB, hK, hF.sub _ rfl⟩)
        · refine wp_exit (hK35 _ _ ?_)
          refine wp_rs fun K44 hK44 => ?_
          refine s_val hF (x_assign rfl) (by decide) fun a hF => ?_
          refine s_end (hK44 _ _ ?_)
          have hnil : ls.drop i = [] := List.drop_of_length_le (by omega)
          rw [hnil] at hck
          refine wp_ret (res_slot hF rfl rfl ⟨_, rfl, ⟨int_of (by rw [chk_in hnd, hck]; rfl), fun _ => by rw [chk_in hnd, hck]; exact mg⟩, hK⟩)

set_option maxRecDepth 100000 in
set_option maxHeartbeats 1600000 in
theorem may13 (x : C3) (l : Lv) (vars : Int) (w0 : World) (hL : RL w0 x l) : Calls Try.prog 98 #[lv x, .int .i64 vars] w0 fun e w' => e = .returned (.int .i64 (chk 32 1048576 vars 1 100 l).1) ∧ Below w0.heap.size w0 w' := by
  have hB := Below.refl w0.heap.size w0
  have sB := hB.size
  refine calls_fs 10 [(0, lv x), (1, .int .i64 vars)] Try.func98 rfl rfl rfl rfl rfl fun a hF => ?_
  refine wp_rs fun K1 hK1 => ?_
  refine s_box (lc x) hF (by decide) rfl rfl fun w2 b2 a eb2 m2 B3 zb2 hF => ?_
  have sB3 := B3.size
  have hB := hB.trans (B3.mono hB.size)
  refine s_val hF (x_assign rfl) (by decide) fun a hF => ?_
  refine s_end (hK1 _ _ ?_)
  refine wp_rs fun K2 hK2 => ?_
  refine s_val hF (x_ldW wide24 m2 rfl rfl) (by decide) fun a hF => ?_
  refine s_val hF (x_move rfl) (by decide) fun a hF => ?_
  refine s_val hF (x_build (vs := [(0, _), (1, _), (2, _), (3, _)]) rfl (b54_0123 _ _ _ _ _)) (by decide) fun a hF => ?_
  refine s_box ([.int .i64 32, .int .i64 100, .int .i64 1048576, .int .i64 vars]) hF (by decide) rfl rfl fun w4 b8 a eb8 m8 B5 zb8 hF => ?_
  have sB5 := B5.size
  have hB := hB.trans (B5.mono hB.size)
  have m2 := m2.old B5
  refine s_call (R := fun u w' => (u = .int .i64 (chk 32 1048576 vars 1 100 l).1 ∧ ((chk 32 1048576 vars 1 100 l).1 = 0 → Blk w' b8 135 [.int .i64 32, .int .i64 ((chk 32 1048576 vars 1 100 l).2 : Int), .int .i64 1048576, .int .i64 vars])) ∧ Ktw b8 b8 w4 w') hF [_, _, _] (enters_of Try.func122 (by kernel_rfl) rfl) rfl (by decide) (check34 32 1048576 vars (by decide) w0 b8 (by omega) x l hL 1 100 w4 (by decide) (by decide) (by decide) hB m8) ?_
  rintro _ w6 a ⟨⟨rfl, _⟩, k7⟩ hF
  have sk7 := k7.size
  have hB := k7.under hB (by omega)
  have m2 := m2.k2 k7 (by omega)
  refine s_val hF (x_assign rfl) (by decide) fun a hF => ?_
  refine s_end (hK2 _ _ ?_)
  refine wp_ret (res_slot hF rfl rfl ⟨rfl, hB⟩)

set_option maxRecDepth 100000 in
set_option maxHeartbeats 1600000 in
theorem rmay35 (vars : Int) (w0 : World) (g : Nat) (hg : w0.heap.size ≤ g) : ∀ (x : C3) (l : Lv), RL w0 x l → ∀ (d : Int) (r : Nat) (w1 : World), 1 ≤ d → d ≤ 300 → r ≤ 100 → Below w0.heap.size w0 w1 → Blk w1 g 3 [.int .i64 (100 - (r : Int))] →
    Calls Try.prog 82 #[lv x, .int .i64 vars, .int .i64 d, .pointer (some ⟨g, 0, none⟩)] w1 fun e w' => ∃ v, e = .returned v ∧ (v = .int .i64 (chk 32 1048576 vars d r l).1 ∧ ((chk 32 1048576 vars d r l).1 = 0 → Blk w' g 3 [.int .i64 (100 - ((chk 32 1048576 vars d r l).2 : Int))])) ∧ Ktw g g w1 w' := by
  intro x l h
  induction h with
  | @mk k n v xs ls hR hl hk ih =>
  intro d r w1 hd1 hd2 hr hB mg
  obtain ⟨av, cv, rfl, _⟩ := hR.form
  have hK := Ktw.refl g g w1
  have sB := hB.size
  have hgl := mg.lt
  refine calls_fs 101 [(0, .agg [.int .i64 k, .int .i64 n, .slice av xs.length cv].toArray), (1, .int .i64 vars), (2, .int .i64 d), (3, .pointer (some ⟨g, 0, none⟩))] Try.func82 rfl rfl rfl rfl rfl fun a hF => ?_
  refine wp_rs fun K1 hK1 => ?_
  refine s_box ([.int .i64 k, .int .i64 n, .slice av xs.length cv]) hF (by decide) rfl rfl fun w2 b4 a eb4 m4 B3 zb4 hF => ?_
  have sB3 := B3.size
  have hB := hB.trans (B3.mono hB.size)
  have hK := hK.below B3
  have mg := mg.old B3
  refine s_val hF (x_assign rfl) (by decide) fun a hF => ?_
  refine s_end (hK1 _ _ ?_)
  refine wp_rs fun K2 hK2 => ?_
  refine s_val hF (x_move rfl) (by decide) fun a hF => ?_
  refine s_val hF (x_nil rfl) (by decide) fun a hF => ?_
  refine s_val hF (x_load rfl (m_load flat3 (mg.cell (j := 0) rfl))) (by decide) fun a hF => ?_
  refine s_val hF (x_add (by omega) (by omega) rfl rfl) (by decide) fun a hF => ?_
  refine s_val hF (x_nil rfl) (by decide) fun a hF => ?_
  refine s_put hF rfl rfl flat3 mg (by simp) rfl fun w4 mg o5 => ?_
  have so5 := o5.size
  have hB := hB.trans (o5.below (by omega))
  have hK := hK.only o5 (by omega)
  have m4 := m4.only o5 (by omega)
  refine s_end (hK2 _ _ ?_)
  refine wp_seq_k fun K3 hK3 => ?_
  refine wp_block ?_
  rcases (show 32 < d ∨ (d ≤ 32 ∧ r = 0) ∨ (d ≤ 32 ∧ r ≠ 0) by omega) with hp | hp | hp
  · skip
    refine wp_rs fun K5 hK5 => ?_
    refine s_val hF (x_move rfl) (by decide) fun a hF => ?_
    refine s_val hF (x_gtr (b := true) (decide_eq_true (by omega)) rfl rfl) (by decide) fun a hF => ?_
    refine s_val hF (x_move rfl) (by decide) fun a hF => ?_
    refine s_grdn 20 hF rfl rfl (by decide) fun a hF => ?_
    refine s_grdn 20 hF rfl rfl (by decide) fun a hF => ?_
    refine s_grdn 20 hF rfl rfl (by decide) fun a hF => ?_
    refine s_grdn 20 hF rfl rfl (by decide) fun a hF => ?_
    refine s_val hF (x_pick (b := true) rfl rfl) (by decide) fun a hF => ?_
    refine s_val hF (x_assign rfl) (by decide) fun a hF => ?_
    refine s_end (hK5 _ _ ?_)
    refine wp_if hF rfl ?_
    refine wp_rs fun K6 hK6 => ?_
    refine s_val hF (x_assign rfl) (by decide) fun a hF => ?_
    refine s_end (hK6 _ _ ?_)
    refine wp_ret (inb_ret (then_ret (res_slot hF rfl rfl ⟨_, rfl, ⟨int_of (chk_two (by omega)).symm, fun h => absurd ((chk_two (by omega)).symm.trans h) (by decide)⟩, hK⟩)))
  · skip
    refine wp_rs fun K7 hK7 => ?_
    refine s_val hF (x_move rfl) (by decide) fun a hF => ?_
    refine s_val hF (x_gtr (b := false) (decide_eq_false (by omega)) rfl rfl) (by decide) fun a hF => ?_
    refine s_val hF (x_move rfl) (by decide) fun a hF => ?_
    refine s_grd 20 hF rfl rfl rfl ?_
    refine s_val hF (x_move rfl) (by decide) fun a hF => ?_
    refine s_grd 20 hF rfl rfl rfl ?_
    refine s_val hF (x_nil rfl) (by decide) fun a hF => ?_
    refine s_grd 20 hF rfl rfl rfl ?_
    refine s_val hF (x_load rfl (m_load flat3 (mg.cell (j := 0) rfl))) (by decide) fun a hF => ?_
    refine s_grd 20 hF rfl rfl rfl ?_
    refine s_val hF (x_gtr (b := true) (decide_eq_true (by omega)) rfl rfl) (by decide) fun a hF => ?_
    refine s_val hF (x_pick (b := false) rfl rfl) (by decide) fun a hF => ?_
    refine s_val hF (x_assign rfl) (by decide) fun a hF => ?_
    refine s_end (hK7 _ _ ?_)
    refine wp_if hF rfl ?_
    refine wp_rs fun K8 hK8 => ?_
    refine s_val hF (x_assign rfl) (by decide) fun a hF => ?_
    refine s_end (hK8 _ _ ?_)
    refine wp_ret (inb_ret (then_ret (res_slot hF rfl rfl ⟨_, rfl, ⟨int_of (chk_two (by omega)).symm, fun h => absurd ((chk_two (by omega)).symm.trans h) (by decide)⟩, hK⟩)))
  · skip
    refine wp_rs fun K9 hK9 => ?_
    refine s_val hF (x_move rfl) (by decide) fun a hF => ?_
    refine s_val hF (x_gtr (b := false) (decide_eq_false (by omega)) rfl rfl) (by decide) fun a hF => ?_
    refine s_val hF (x_move rfl) (by decide) fun a hF => ?_
    refine s_grd 20 hF rfl rfl rfl ?_
    refine s_val hF (x_move rfl) (by decide) fun a hF => ?_
    refine s_grd 20 hF rfl rfl rfl ?_
    refine s_val hF (x_nil rfl) (by decide) fun a hF => ?_
    refine s_grd 20 hF rfl rfl rfl ?_
    refine s_val hF (x_load rfl (m_load flat3 (mg.cell (j := 0) rfl))) (by decide) fun a hF => ?_
    refine s_grd 20 hF rfl rfl rfl ?_
    refine s_val hF (x_gtr (b := false) (decide_eq_false (by omega)) rfl rfl) (by decide) fun a hF => ?_
    refine s_val hF (x_pick (b := false) rfl rfl) (by decide) fun a hF => ?_
    refine s_val hF (x_assign rfl) (by decide) fun a hF => ?_
    refine s_end (hK9 _ _ ?_)
    refine wp_if hF rfl ?_
    rcases (show arI k < 0 ∨ (0 ≤ arI k ∧ (xs.length : Int) ≠ arI k) ∨ (0 ≤ arI k ∧ (xs.length : Int) = arI k) by omega) with hkb | hkb | hkb
    · have hq : kidsB k ls.length = false ∨ numB 1048576 k n = false := .inl (arI_no (by omega))
      refine dk2_seq (w4.heap.size) (w4.heap.size) (ops := regOps Try.f82 4) (N := 14) (by kernel_rfl) wide_orders (by kernel_rfl) fun w6 hw6 B7 hS K11 hK11 => ?_
      have zw6 : w6.heap.size = w4.heap.size := by rw [hw6]
      have sB7 := B7.size
      have hB := hB.trans (B7.mono hB.size)
      have hK := hK.below B7
      have mg := mg.old B7
      have m4 := m4.old B7
      have mg_d := mg
      have m4_d := m4
      have hB_d := hB
      have hK_d := hK
      refine d_val 0 27 (op := (Go.Op.fieldAddr 24 (Go.Operand.tmp 4) 0)) hF hS (by kernel_rfl) (fun W hW => x_fa0 fa24_0 rfl) (by kernel_rfl) (by decide) fun a hF => ?_
      refine d_val 1 28 (op := (Go.Op.load 3 (Go.Operand.tmp 27))) hF hS (by kernel_rfl) (fun W hW => x_load rfl (m_load flat3 ((m4_d.k2 hW (by omega)).cell (j := 0) rfl))) (by kernel_rfl) (by decide) fun a hF => ?_
      refine d_one 2 (some 29) (Go.Op.call (Go.Call.mk (Go.Callee.value (Go.Operand.func 119)) #[(Go.Operand.tmp 28)] #[3])) (by kernel_rfl) (by kernel_rfl) fun ty pos af => ?_
      refine s_callS [.int .i64 k] hF (enters_of Try.func119 (by kernel_rfl) rfl) rfl (by decide) (arity58 k _) fun a hF => ?_
      refine s_end ⟨hS, ?_⟩
      refine d_val 3 30 (op := (Go.Op.binOp Go.BinOp.lss 3 (Go.Operand.tmp 29) (Go.Operand.const (Go.Value.int Go.IntKind.i64 0)) 3)) hF hS (by kernel_rfl) (fun W hW => x_lss (b := true) (decide_eq_true (by omega)) rfl rfl) (by kernel_rfl) (by decide) fun a hF => ?_
      refine d_val 4 31 (op := (Go.Op.move (Go.Operand.tmp 30))) hF hS (by kernel_rfl) (fun W hW => x_move rfl) (by kernel_rfl) (by decide) fun a hF => ?_
      refine d_skip 5 32 31 (j := 4) (want := false) (op := (Go.Op.fieldAddr 24 (Go.Operand.tmp 4) 2)) hF hS (by kernel_rfl) (by kernel_rfl) rfl (by kernel_rfl) (by decide) fun a hF => ?_
      refine d_skip 6 33 31 (j := 4) (want := false) (op := (Go.Op.load 22 (Go.Operand.tmp 32))) hF hS (by kernel_rfl) (by kernel_rfl) rfl (by kernel_rfl) (by decide) fun a hF => ?_
      refine d_skip 7 34 31 (j := 4) (want := false) (op := (Go.Op.call (Go.Call.mk (Go.Callee.builtin Go.Builtin.len) #[(Go.Operand.tmp 33)] #[22]))) hF hS (by kernel_rfl) (by kernel_rfl) rfl (by kernel_rfl) (by decide) fun a hF => ?_
      refine d_skip 8 35 31 (j := 4) (want := false) (op := (Go.Op.fieldAddr 24 (Go.Operand.tmp 4) 0)) hF hS (by kernel_rfl) (by kernel_rfl) rfl (by kernel_rfl) (by decide) fun a hF => ?_
      refine d_skip 9 36 31 (j := 4) (want := false) (op := (Go.Op.load 3 (Go.Operand.tmp 35))) hF hS (by kernel_rfl) (by kernel_rfl) rfl (by kernel_rfl) (by decide) fun a hF => ?_
      refine d_skip 10 37 31 (j := 4) (want := false) (op := (Go.Op.call (Go.Call.mk (Go.Callee.value (Go.Operand.func 119)) #[(Go.Operand.tmp 36)] #[3]))) hF hS (by kernel_rfl) (by kernel_rfl) rfl (by kernel_rfl) (by decide) fun a hF => ?_
      refine d_skip 11 38 31 (j := 4) (want := false) (op := (Go.Op.binOp Go.BinOp.neq 3 (Go.Operand.tmp 34) (Go.Operand.tmp 37) 3)) hF hS (by kernel_rfl) (by kernel_rfl) rfl (by kernel_rfl) (by decide) fun a hF => ?_
      refine d_val 12 39 (op := (Go.Op.pick (Go.Operand.tmp 31) (Go.Operand.const (Go.Value.bool true)) (Go.Operand.tmp 38))) hF hS (by kernel_rfl) (fun W hW => x_pick (b := true) rfl rfl) (by kernel_rfl) (by decide) fun a hF => ?_
      refine d_val 13 26 (op := (Go.Op.assign (Go.Operand.tmp 39))) hF hS (by kernel_rfl) (fun W hW => x_assign rfl) (by kernel_rfl) (by decide) fun a hF => ?_
      refine d_end (by kernel_rfl) (hK11 _ _ ?_)
      refine wp_if hF rfl ?_
      refine wp_rs fun K12 hK12 => ?_
      refine s_val hF (x_assign rfl) (by decide) fun a hF => ?_
      refine s_end (hK12 _ _ ?_)
      refine wp_ret (inb_ret (then_ret (res_slot hF rfl rfl ⟨_, rfl, ⟨int_of (chk_one (by omega) hq).symm, fun h => absurd ((chk_one (by omega) hq).symm.trans h) (by decide)⟩, hK⟩)))
    · have hq : kidsB k ls.length = false ∨ numB 1048576 k n = false := .inl (arI_no (by omega))
      refine dk2_seq (w4.heap.size) (w4.heap.size) (ops := regOps Try.f82 4) (N := 14) (by kernel_rfl) wide_orders (by kernel_rfl) fun w8 hw8 B9 hS K13 hK13 => ?_
      have zw8 : w8.heap.size = w4.heap.size := by rw [hw8]
      have sB9 := B9.size
      have hB := hB.trans (B9.mono hB.size)
      have hK := hK.below B9
      have mg := mg.old B9
      have m4 := m4.old B9
      have mg_d := mg
      have m4_d := m4
      have hB_d := hB
      have hK_d := hK
      refine d_val 0 27 (op := (Go.Op.fieldAddr 24 (Go.Operand.tmp 4) 0)) hF hS (by kernel_rfl) (fun W hW => x_fa0 fa24_0 rfl) (by kernel_rfl) (by decide) fun a hF => ?_
      refine d_val 1 28 (op := (Go.Op.load 3 (Go.Operand.tmp 27))) hF hS (by kernel_rfl) (fun W hW => x_load rfl (m_load flat3 ((m4_d.k2 hW (by omega)).cell (j := 0) rfl))) (by kernel_rfl) (by decide) fun a hF => ?_
      refine d_one 2 (some 29) (Go.Op.call (Go.Call.mk (Go.Callee.value (Go.Operand.func 119)) #[(Go.Operand.tmp 28)] #[3])) (by kernel_rfl) (by kernel_rfl) fun ty pos af => ?_
      refine s_callS [.int .i64 k] hF (enters_of Try.func119 (by kernel_rfl) rfl) rfl (by decide) (arity58 k _) fun a hF => ?_
      refine s_end ⟨hS, ?_⟩
      refine d_val 3 30 (op := (Go.Op.binOp Go.BinOp.lss 3 (Go.Operand.tmp 29) (Go.Operand.const (Go.Value.int Go.IntKind.i64 0)) 3)) hF hS (by kernel_rfl) (fun W hW => x_lss (b := false) (decide_eq_false (by omega)) rfl rfl) (by kernel_rfl) (by decide) fun a hF => ?_
      refine d_val 4 31 (op := (Go.Op.move (Go.Operand.tmp 30))) hF hS (by kernel_rfl) (fun W hW => x_move rfl) (by kernel_rfl) (by decide) fun a hF => ?_
      refine d_valg 5 32 31 (j := 4) (want := false) (op := (Go.Op.fieldAddr 24 (Go.Operand.tmp 4) 2)) hF hS (by kernel_rfl) (by kernel_rfl) rfl (fun W hW => x_fa0 fa24_2 rfl) (by kernel_rfl) (by decide) fun a hF => ?_
      refine d_valg 6 33 31 (j := 4) (want := false) (op := (Go.Op.load 22 (Go.Operand.tmp 32))) hF hS (by kernel_rfl) (by kernel_rfl) rfl (fun W hW => x_load rfl (m_load flat22 ((m4_d.k2 hW (by omega)).cell (j := 2) rfl))) (by kernel_rfl) (by decide) fun a hF => ?_
      refine d_valg 7 34 31 (j := 4) (want := false) (op := (Go.Op.call (Go.Call.mk (Go.Callee.builtin Go.Builtin.len) #[(Go.Operand.tmp 33)] #[22]))) hF hS (by kernel_rfl) (by kernel_rfl) rfl (fun W hW => x_len Try.underlying22 rfl) (by kernel_rfl) (by decide) fun a hF => ?_
      refine d_valg 8 35 31 (j := 4) (want := false) (op := (Go.Op.fieldAddr 24 (Go.Operand.tmp 4) 0)) hF hS (by kernel_rfl) (by kernel_rfl) rfl (fun W hW => x_fa0 fa24_0 rfl) (by kernel_rfl) (by decide) fun a hF => ?_
      refine d_valg 9 36 31 (j := 4) (want := false) (op := (Go.Op.load 3 (Go.Operand.tmp 35))) hF hS (by kernel_rfl) (by kernel_rfl) rfl (fun W hW => x_load rfl (m_load flat3 ((m4_d.k2 hW (by omega)).cell (j := 0) rfl))) (by kernel_rfl) (by decide) fun a hF => ?_
      refine d_oneg 10 31 (some 37) (Go.Op.call (Go.Call.mk (Go.Callee.value (Go.Operand.func 119)) #[(Go.Operand.tmp 36)] #[3])) (j := 4) (want := false) hF (by kernel_rfl) (by kernel_rfl) (by kernel_rfl) rfl fun ty pos af => ?_
      refine s_callS [.int .i64 k] hF (enters_of Try.func119 (by kernel_rfl) rfl) rfl (by decide) (arity58 k _) fun a hF => ?_
      refine s_end ⟨hS, ?_⟩
      refine d_valg 11 38 31 (j := 4) (want := false) (op := (Go.Op.binOp Go.BinOp.neq 3 (Go.Operand.tmp 34) (Go.Operand.tmp 37) 3)) hF hS (by kernel_rfl) (by kernel_rfl) rfl (fun W hW => x_neq (b := true) (decide_eq_true (by omega)) rfl rfl) (by kernel_rfl) (by decide) fun a hF => ?_
      refine d_val 12 39 (op := (Go.Op.pick (Go.Operand.tmp 31) (Go.Operand.const (Go.Value.bool true)) (Go.Operand.tmp 38))) hF hS (by kernel_rfl) (fun W hW => x_pick (b := false) rfl rfl) (by kernel_rfl) (by decide) fun a hF => ?_
      refine d_val 13 26 (op := (Go.Op.assign (Go.Operand.tmp 39))) hF hS (by kernel_rfl) (fun W hW => x_assign rfl) (by kernel_rfl) (by decide) fun a hF => ?_
      refine d_end (by kernel_rfl) (hK13 _ _ ?_)
      refine wp_if hF rfl ?_
      refine wp_rs fun K14 hK14 => ?_
      refine s_val hF (x_assign rfl) (by decide) fun a hF => ?_
      refine s_end (hK14 _ _ ?_)
      refine wp_ret (inb_ret (then_ret (res_slot hF rfl rfl ⟨_, rfl, ⟨int_of (chk_one (by omega) hq).symm, fun h => absurd ((chk_one (by omega) hq).symm.trans h) (by decide)⟩, hK⟩)))
    · have hkl : kidsB k ls.length = true := arI_kids.2 (by omega)
      refine dk2_seq (w4.heap.size) (w4.heap.size) (ops := regOps Try.f82 4) (N := 14) (by kernel_rfl) wide_orders (by kernel_rfl) fun w10 hw10 B11 hS K15 hK15 => ?_
      have zw10 : w10.heap.size = w4.heap.size := by rw [hw10]
      have sB11 := B11.size
      have hB := hB.trans (B11.mono hB.size)
      have hK := hK.below B11
      have mg := mg.old B11
      have m4 := m4.old B11
      have mg_d := mg
      have m4_d := m4
      have hB_d := hB
      have hK_d := hK
      refine d_val 0 27 (op := (Go.Op.fieldAddr 24 (Go.Operand.tmp 4) 0)) hF hS (by kernel_rfl) (fun W hW => x_fa0 fa24_0 rfl) (by kernel_rfl) (by decide) fun a hF => ?_
      refine d_val 1 28 (op := (Go.Op.load 3 (Go.Operand.tmp 27))) hF hS (by kernel_rfl) (fun W hW => x_load rfl (m_load flat3 ((m4_d.k2 hW (by omega)).cell (j := 0) rfl))) (by kernel_rfl) (by decide) fun a hF => ?_
      refine d_one 2 (some 29) (Go.Op.call (Go.Call.mk (Go.Callee.value (Go.Operand.func 119)) #[(Go.Operand.tmp 28)] #[3])) (by kernel_rfl) (by kernel_rfl) fun ty pos af => ?_
      refine s_callS [.int .i64 k] hF (enters_of Try.func119 (by kernel_rfl) rfl) rfl (by decide) (arity58 k _) fun a hF => ?_
      refine s_end ⟨hS, ?_⟩
      refine d_val 3 30 (op := (Go.Op.binOp Go.BinOp.lss 3 (Go.Operand.tmp 29) (Go.Operand.const (Go.Value.int Go.IntKind.i64 0)) 3)) hF hS (by kernel_rfl) (fun W hW => x_lss (b := false) (decide_eq_false (by omega)) rfl rfl) (by kernel_rfl) (by decide) fun a hF => ?_
      refine d_val 4 31 (op := (Go.Op.move (Go.Operand.tmp 30))) hF hS (by kernel_rfl) (fun W hW => x_move rfl) (by kernel_rfl) (by decide) fun a hF => ?_
      refine d_valg 5 32 31 (j := 4) (want := false) (op := (Go.Op.fieldAddr 24 (Go.Operand.tmp 4) 2)) hF hS (by kernel_rfl) (by kernel_rfl) rfl (fun W hW => x_fa0 fa24_2 rfl) (by kernel_rfl) (by decide) fun a hF => ?_
      refine d_valg 6 33 31 (j := 4) (want := false) (op := (Go.Op.load 22 (Go.Operand.tmp 32))) hF hS (by kernel_rfl) (by kernel_rfl) rfl (fun W hW => x_load rfl (m_load flat22 ((m4_d.k2 hW (by omega)).cell (j := 2) rfl))) (by kernel_rfl) (by decide) fun a hF => ?_
      refine d_valg 7 34 31 (j := 4) (want := false) (op := (Go.Op.call (Go.Call.mk (Go.Callee.builtin Go.Builtin.len) #[(Go.Operand.tmp 33)] #[22]))) hF hS (by kernel_rfl) (by kernel_rfl) rfl (fun W hW => x_len Try.underlying22 rfl) (by kernel_rfl) (by decide) fun a hF => ?_
      refine d_valg 8 35 31 (j := 4) (want := false) (op := (Go.Op.fieldAddr 24 (Go.Operand.tmp 4) 0)) hF hS (by kernel_rfl) (by kernel_rfl) rfl (fun W hW => x_fa0 fa24_0 rfl) (by kernel_rfl) (by decide) fun a hF => ?_
      refine d_valg 9 36 31 (j := 4) (want := false) (op := (Go.Op.load 3 (Go.Operand.tmp 35))) hF hS (by kernel_rfl) (by kernel_rfl) rfl (fun W hW => x_load rfl (m_load flat3 ((m4_d.k2 hW (by omega)).cell (j := 0) rfl))) (by kernel_rfl) (by decide) fun a hF => ?_
      refine d_oneg 10 31 (some 37) (Go.Op.call (Go.Call.mk (Go.Callee.value (Go.Operand.func 119)) #[(Go.Operand.tmp 36)] #[3])) (j := 4) (want := false) hF (by kernel_rfl) (by kernel_rfl) (by kernel_rfl) rfl fun ty pos af => ?_
      refine s_callS [.int .i64 k] hF (enters_of Try.func119 (by kernel_rfl) rfl) rfl (by decide) (arity58 k _) fun a hF => ?_
      refine s_end ⟨hS, ?_⟩
      refine d_valg 11 38 31 (j := 4) (want := false) (op := (Go.Op.binOp Go.BinOp.neq 3 (Go.Operand.tmp 34) (Go.Operand.tmp 37) 3)) hF hS (by kernel_rfl) (by kernel_rfl) rfl (fun W hW => x_neq (b := false) (decide_eq_false (by omega)) rfl rfl) (by kernel_rfl) (by decide) fun a hF => ?_
      refine d_val 12 39 (op := (Go.Op.pick (Go.Operand.tmp 31) (Go.Operand.const (Go.Value.bool true)) (Go.Operand.tmp 38))) hF hS (by kernel_rfl) (fun W hW => x_pick (b := false) rfl rfl) (by kernel_rfl) (by decide) fun a hF => ?_
      refine d_val 13 26 (op := (Go.Op.assign (Go.Operand.tmp 39))) hF hS (by kernel_rfl) (fun W hW => x_assign rfl) (by kernel_rfl) (by decide) fun a hF => ?_
      refine d_end (by kernel_rfl) (hK15 _ _ ?_)
      refine wp_if hF rfl ?_
      rcases (show (k = 1 ∧ n < 0) ∨ (k = 1 ∧ 0 ≤ n ∧ 1048576 < n) ∨ (k = 1 ∧ 0 ≤ n ∧ n ≤ 1048576) ∨ (k = 3 ∧ n < 1) ∨ (k = 3 ∧ 1 ≤ n ∧ 1048576 < n) ∨ (k = 3 ∧ 1 ≤ n ∧ n ≤ 1048576) ∨ (k = 2 ∧ n < 0) ∨ (k = 2 ∧ 0 ≤ n ∧ vars ≤ n) ∨ (k = 2 ∧ 0 ≤ n ∧ n < vars) ∨ (k ≠ 1 ∧ k ≠ 2 ∧ k ≠ 3) by omega) with hv | hv | hv | hv | hv | hv | hv | hv | hv | hv
      · have hq : kidsB k ls.length = false ∨ numB 1048576 k n = false := .inr (numB_no (by omega))
        refine wp_rs fun K17 hK17 => ?_
        refine s_val hF (x_fa0 fa24_0 rfl) (by decide) fun a hF => ?_
        refine s_val hF (x_load rfl (m_load flat3 (m4.cell (j := 0) rfl))) (by decide) fun a hF => ?_
        refine s_val hF (x_eql (b := true) (decide_eq_true (by omega)) rfl rfl) (by decide) fun a hF => ?_
        refine s_val hF (x_move rfl) (by decide) fun a hF => ?_
        refine s_grd 44 hF rfl rfl rfl ?_
        refine s_val hF (x_fa0 fa24_1 rfl) (by decide) fun a hF => ?_
        refine s_grd 44 hF rfl rfl rfl ?_
        refine s_val hF (x_load rfl (m_load flat3 (m4.cell (j := 1) rfl))) (by decide) fun a hF => ?_
        refine s_grd 44 hF rfl rfl rfl ?_
        refine s_val hF (x_lss (b := true) (decide_eq_true (by omega)) rfl rfl) (by decide) fun a hF => ?_
        refine s_grd 44 hF rfl rfl rfl ?_
        refine s_val hF (x_move rfl) (by decide) fun a hF => ?_
        refine s_grdn 48 hF rfl rfl (by decide) fun a hF => ?_
        refine s_grdn 48 hF rfl rfl (by decide) fun a hF => ?_
        refine s_grdn 48 hF rfl rfl (by decide) fun a hF => ?_
        refine s_grd 44 hF rfl rfl rfl ?_
        refine s_val hF (x_pick (b := true) rfl rfl) (by decide) fun a hF => ?_
        refine s_val hF (x_pick (b := true) rfl rfl) (by decide) fun a hF => ?_
        refine s_val hF (x_move rfl) (by decide) fun a hF => ?_
        refine s_grdn 54 hF rfl rfl (by decide) fun a hF => ?_
        refine s_grdn 54 hF rfl rfl (by decide) fun a hF => ?_
        refine s_grdn 54 hF rfl rfl (by decide) fun a hF => ?_
        refine s_grdn 54 hF rfl rfl (by decide) fun a hF => ?_
        refine s_grdu 58 hF rfl rfl (by decide) fun a hF => ?_
        refine s_grdu 58 hF rfl rfl (by decide) fun a hF => ?_
        refine s_grdu 58 hF rfl rfl (by decide) fun a hF => ?_
        refine s_grdu 58 hF rfl rfl (by decide) fun a hF => ?_
        refine s_grdu 62 hF rfl rfl (by decide) fun a hF => ?_
        refine s_grdu 62 hF rfl rfl (by decide) fun a hF => ?_
        refine s_grdu 62 hF rfl rfl (by decide) fun a hF => ?_
        refine s_grdu 58 hF rfl rfl (by decide) fun a hF => ?_
        refine s_grdn 54 hF rfl rfl (by decide) fun a hF => ?_
        refine s_val hF (x_pick (b := true) rfl rfl) (by decide) fun a hF => ?_
        refine s_val hF (x_assign rfl) (by decide) fun a hF => ?_
        refine s_end (hK17 _ _ ?_)
        refine wp_if hF rfl ?_
        refine wp_rs fun K18 hK18 => ?_
        refine s_val hF (x_assign rfl) (by decide) fun a hF => ?_
        refine s_end (hK18 _ _ ?_)
        refine wp_ret (inb_ret (then_ret (res_slot hF rfl rfl ⟨_, rfl, ⟨int_of (chk_one (by omega) hq).symm, fun h => absurd ((chk_one (by omega) hq).symm.trans h) (by decide)⟩, hK⟩)))
      · have hq : kidsB k ls.length = false ∨ numB 1048576 k n = false := .inr (numB_no (by omega))
        refine wp_rs fun K19 hK19 => ?_
        refine s_val hF (x_fa0 fa24_0 rfl) (by decide) fun a hF => ?_
        refine s_val hF (x_load rfl (m_load flat3 (m4.cell (j := 0) rfl))) (by decide) fun a hF => ?_
        refine s_val hF (x_eql (b := true) (decide_eq_true (by omega)) rfl rfl) (by decide) fun a hF => ?_
        refine s_val hF (x_move rfl) (by decide) fun a hF => ?_
        refine s_grd 44 hF rfl rfl rfl ?_
        refine s_val hF (x_fa0 fa24_1 rfl) (by decide) fun a hF => ?_
        refine s_grd 44 hF rfl rfl rfl ?_
        refine s_val hF (x_load rfl (m_load flat3 (m4.cell (j := 1) rfl))) (by decide) fun a hF => ?_
        refine s_grd 44 hF rfl rfl rfl ?_
        refine s_val hF (x_lss (b := false) (decide_eq_false (by omega)) rfl rfl) (by decide) fun a hF => ?_
        refine s_grd 44 hF rfl rfl rfl ?_
        refine s_val hF (x_move rfl) (by decide) fun a hF => ?_
        refine s_grd 48 hF rfl rfl rfl ?_
        refine s_val hF (x_fa0 fa24_1 rfl) (by decide) fun a hF => ?_
        refine s_grd 48 hF rfl rfl rfl ?_
        refine s_val hF (x_load rfl (m_load flat3 (m4.cell (j := 1) rfl))) (by decide) fun a hF => ?_
        refine s_grd 48 hF rfl rfl rfl ?_
        refine s_val hF (x_gtr (b := true) (decide_eq_true (by omega)) rfl rfl) (by decide) fun a hF => ?_
        refine s_grd 44 hF rfl rfl rfl ?_
        refine s_val hF (x_pick (b := false) rfl rfl) (by decide) fun a hF => ?_
        refine s_val hF (x_pick (b := true) rfl rfl) (by decide) fun a hF => ?_
        refine s_val hF (x_move rfl) (by decide) fun a hF => ?_
        refine s_grdn 54 hF rfl rfl (by decide) fun a hF => ?_
        refine s_grdn 54 hF rfl rfl (by decide) fun a hF => ?_
        refine s_grdn 54 hF rfl rfl (by decide) fun a hF => ?_
        refine s_grdn 54 hF rfl rfl (by decide) fun a hF => ?_
        refine s_grdu 58 hF rfl rfl (by decide) fun a hF => ?_
        refine s_grdu 58 hF rfl rfl (by decide) fun a hF => ?_
        refine s_grdu 58 hF rfl rfl (by decide) fun a hF => ?_
        refine s_grdu 58 hF rfl rfl (by decide) fun a hF => ?_
        refine s_grdu 62 hF rfl rfl (by decide) fun a hF => ?_
        refine s_grdu 62 hF rfl rfl (by decide) fun a hF => ?_
        refine s_grdu 62 hF rfl rfl (by decide) fun a hF => ?_
        refine s_grdu 58 hF rfl rfl (by decide) fun a hF => ?_
        refine s_grdn 54 hF rfl rfl (by decide) fun a hF => ?_
        refine s_val hF (x_pick (b := true) rfl rfl) (by decide) fun a hF => ?_
        refine s_val hF (x_assign rfl) (by decide) fun a hF => ?_
        refine s_end (hK19 _ _ ?_)
        refine wp_if hF rfl ?_
        refine wp_rs fun K20 hK20 => ?_
        refine s_val hF (x_assign rfl) (by decide) fun a hF => ?_
        refine s_end (hK20 _ _ ?_)
        refine wp_ret (inb_ret (then_ret (res_slot hF rfl rfl ⟨_, rfl, ⟨int_of (chk_one (by omega) hq).symm, fun h => absurd ((chk_one (by omega) hq).symm.trans h) (by decide)⟩, hK⟩)))
      · have hnb : numB 1048576 k n = true := numB_iff.2 (by omega)
        have hnd := nodeE_iff.2 ⟨hp.1, hp.2, hkl, hnb, (by omega : ¬ (k = 2 ∧ (n < 0 ∨ vars ≤ n)))⟩
        refine wp_rs fun K21 hK21 => ?_
        refine s_val hF (x_fa0 fa24_0 rfl) (by decide) fun a hF => ?_
        refine s_val hF (x_load rfl (m_load flat3 (m4.cell (j := 0) rfl))) (by decide) fun a hF => ?_
        refine s_val hF (x_eql (b := true) (decide_eq_true (by omega)) rfl rfl) (by decide) fun a hF => ?_
        refine s_val hF (x_move rfl) (by decide) fun a hF => ?_
        refine s_grd 44 hF rfl rfl rfl ?_
        refine s_val hF (x_fa0 fa24_1 rfl) (by decide) fun a hF => ?_
        refine s_grd 44 hF rfl rfl rfl ?_
        refine s_val hF (x_load rfl (m_load flat3 (m4.cell (j := 1) rfl))) (by decide) fun a hF => ?_
        refine s_grd 44 hF rfl rfl rfl ?_
        refine s_val hF (x_lss (b := false) (decide_eq_false (by omega)) rfl rfl) (by decide) fun a hF => ?_
        refine s_grd 44 hF rfl rfl rfl ?_
        refine s_val hF (x_move rfl) (by decide) fun a hF => ?_
        refine s_grd 48 hF rfl rfl rfl ?_
        refine s_val hF (x_fa0 fa24_1 rfl) (by decide) fun a hF => ?_
        refine s_grd 48 hF rfl rfl rfl ?_
        refine s_val hF (x_load rfl (m_load flat3 (m4.cell (j := 1) rfl))) (by decide) fun a hF => ?_
        refine s_grd 48 hF rfl rfl rfl ?_
        refine s_val hF (x_gtr (b := false) (decide_eq_false (by omega)) rfl rfl) (by decide) fun a hF => ?_
        refine s_grd 44 hF rfl rfl rfl ?_
        refine s_val hF (x_pick (b := false) rfl rfl) (by decide) fun a hF => ?_
        refine s_val hF (x_pick (b := true) rfl rfl) (by decide) fun a hF => ?_
        refine s_val hF (x_move rfl) (by decide) fun a hF => ?_
        refine s_grd 54 hF rfl rfl rfl ?_
        refine s_val hF (x_fa0 fa24_0 rfl) (by decide) fun a hF => ?_
        refine s_grd 54 hF rfl rfl rfl ?_
        refine s_val hF (x_load rfl (m_load flat3 (m4.cell (j := 0) rfl))) (by decide) fun a hF => ?_
        refine s_grd 54 hF rfl rfl rfl ?_
        refine s_val hF (x_eql (b := false) (decide_eq_false (by omega)) rfl rfl) (by decide) fun a hF => ?_
        refine s_grd 54 hF rfl rfl rfl ?_
        refine s_val hF (x_move rfl) (by decide) fun a hF => ?_
        refine s_grdn 58 hF rfl rfl (by decide) fun a hF => ?_
        refine s_grdn 58 hF rfl rfl (by decide) fun a hF => ?_
        refine s_grdn 58 hF rfl rfl (by decide) fun a hF => ?_
        refine s_grdn 58 hF rfl rfl (by decide) fun a hF => ?_
        refine s_grdu 62 hF rfl rfl (by decide) fun a hF => ?_
        refine s_grdu 62 hF rfl rfl (by decide) fun a hF => ?_
        refine s_grdu 62 hF rfl rfl (by decide) fun a hF => ?_
        refine s_grdn 58 hF rfl rfl (by decide) fun a hF => ?_
        refine s_grd 54 hF rfl rfl rfl ?_
        refine s_val hF (x_pick (b := false) rfl rfl) (by decide) fun a hF => ?_
        refine s_val hF (x_pick (b := false) rfl rfl) (by decide) fun a hF => ?_
        refine s_val hF (x_assign rfl) (by decide) fun a hF => ?_
        refine s_end (hK21 _ _ ?_)
        refine wp_if hF rfl ?_
        refine wp_rs fun K22 hK22 => ?_
        refine s_val hF (x_fa0 fa24_0 rfl) (by decide) fun a hF => ?_
        refine s_val hF (x_load rfl (m_load flat3 (m4.cell (j := 0) rfl))) (by decide) fun a hF => ?_
        refine s_val hF (x_eql (b := false) (decide_eq_false (by omega)) rfl rfl) (by decide) fun a hF => ?_
        refine s_val hF (x_move rfl) (by decide) fun a hF => ?_
        refine s_grdn 73 hF rfl rfl (by decide) fun a hF => ?_
        refine s_grdn 73 hF rfl rfl (by decide) fun a hF => ?_
        refine s_grdn 73 hF rfl rfl (by decide) fun a hF => ?_
        refine s_grdn 73 hF rfl rfl (by decide) fun a hF => ?_
        refine s_grdu 77 hF rfl rfl (by decide) fun a hF => ?_
        refine s_grdu 77 hF rfl rfl (by decide) fun a hF => ?_
        refine s_grdu 77 hF rfl rfl (by decide) fun a hF => ?_
        refine s_grdu 77 hF rfl rfl (by decide) fun a hF => ?_
        refine s_grdn 73 hF rfl rfl (by decide) fun a hF => ?_
        refine s_val hF (x_pick (b := false) rfl rfl) (by decide) fun a hF => ?_
        refine s_val hF (x_assign rfl) (by decide) fun a hF => ?_
        refine s_end (hK22 _ _ ?_)
        refine wp_if hF rfl ?_
        refine wp_skip (hK3 _ _ ?_)
        refine wp_seq_k fun K23 hK23 => ?_
        refine wp_rs fun K24 hK24 => ?_
        refine s_val hF (x_fa0 fa24_2 rfl) (by decide) fun a hF => ?_
        refine s_val hF (x_load rfl (m_load flat22 (m4.cell (j := 2) rfl))) (by decide) fun a hF => ?_
        refine s_val hF (x_len Try.underlying22 rfl) (by decide) fun a hF => ?_
        refine s_val hF (x_move rfl) (by decide) fun a hF => ?_
        refine s_end (hK24 _ _ ?_)
        refine wp_block ?_
        have mg : Blk w10 g 3 [.int .i64 (100 - ((r - 1 : Nat) : Int))] := by rw [show (100 : Int) - ((r - 1 : Nat) : Int) = 100 - (r : Int) + 1 by omega]; exact mg
        refine wp_up xs.length (fun i a w => ∃ ri : Nat, ri ≤ 100 ∧ chks 32 1048576 vars (d + 1) (r - 1) ls = chks 32 1048576 vars (d + 1) ri (ls.drop i) ∧ Blk w g 3 [.int .i64 (100 - (ri : Int))] ∧ Below w0.heap.size w0 w ∧ Ktw g g w1 w ∧ Fs 101 a [(87, .int .i64 (i : Int)), (86, .int .i64 (xs.length : Int)), (85, .slice av xs.length cv), (1, .int .i64 vars), (2, .int .i64 d), (3, .pointer (some ⟨g, 0, none⟩))]) ⟨r - 1, by omega, rfl, mg, hB, hK, hF.sub _ rfl⟩ ?_
        clear hF hB hK mg
        rintro i a w hi ⟨ri, hri, hck, mg, hB, hK, hF⟩ K' hK'
        have sB := hB.size
        have hgl := mg.lt
        have sK := hK.size
        have hle := kids_le hkl
        refine wp_rs fun K25 hK25 => ?_
        refine s_val hF (x_lss rfl rfl rfl) (by decide) fun a hF => ?_
        refine s_end (hK25 _ _ ?_)
        refine wp_seq_k fun K26 hK26 => ?_
        refine wp_iff hF rfl (fun hc88 => ?_) (fun hc88 => ?_)
        · obtain ⟨b, off, c, y, hve, hy, hrow⟩ := rd_row3 hR (i := i) (by omega)
          cases hve
          obtain ⟨l, hlk⟩ : ∃ l, ls[i]? = some l := ⟨_, List.getElem?_eq_getElem (by omega)⟩
          have ihy := ih i y l hy hlk
          have h1y := (hk i y l hy hlk).one1
          rw [drop_at hlk] at hck
          refine wp_skip (hK26 _ _ ?_)
          refine wp_seq_k fun K27 hK27 => ?_
          refine wp_block ?_
          refine wp_rs fun K28 hK28 => ?_
          refine s_val hF (x_ixa rfl rfl (m_ixsK i Try.underlying22 el22.size rfl (by omega))) (by decide) fun a hF => ?_
          refine s_val hF (x_ldA wide24 (hrow _ hB) rfl rfl) (by decide) fun a hF => ?_
          refine s_alloc hF (by decide) zero24 fun w12 b10 a eb10 m10 B13 zb10 hF => ?_
          have sB13 := B13.size
          have hB := hB.trans (B13.mono hB.size)
          have hK := hK.below B13
          have mg := mg.old B13
          refine s_putW hF rfl rfl (size_wide wide24) m10 rfl (one_lc h1y) fun w14 m10 o15 => ?_
          have so15 := o15.size
          have hB := hB.trans (o15.below (by omega))
          have hK := hK.only o15 (by omega)
          have mg := mg.only o15 (by omega)
          refine s_end (hK28 _ _ ?_)
          refine wp_rs fun K29 hK29 => ?_
          refine s_val hF (x_ldW wide24 m10 rfl rfl) (by decide) fun a hF => ?_
          refine s_val hF (x_move rfl) (by decide) fun a hF => ?_
          refine s_val hF (x_move rfl) (by decide) fun a hF => ?_
          refine s_val hF (x_add (by omega) (by omega) rfl rfl) (by decide) fun a hF => ?_
          refine s_val hF (x_move rfl) (by decide) fun a hF => ?_
          refine s_call (R := fun u w' => (u = .int .i64 (chk 32 1048576 vars (d + 1) ri l).1 ∧ ((chk 32 1048576 vars (d + 1) ri l).1 = 0 → Blk w' g 3 [.int .i64 (100 - ((chk 32 1048576 vars (d + 1) ri l).2 : Int))])) ∧ Ktw g g w14 w') hF [_, _, _, _] (enters_of Try.func82 (by kernel_rfl) rfl) rfl (by decide) (ihy (d + 1) ri w14 (by omega) (by omega) hri hB mg) ?_
          rintro _ w16 a ⟨⟨rfl, hmg⟩, k17⟩ hF
          have sk17 := k17.size
          have hB := k17.under hB (by omega)
          have hK := hK.trans k17 (by omega)
          have m10 := m10.k2 k17 (by omega)
          refine s_val hF (x_assign rfl) (by decide) fun a hF => ?_
          refine s_end (hK29 _ _ ?_)
          refine wp_rs fun K30 hK30 => ?_
          refine s_val hF (x_move rfl) (by decide) fun a hF => ?_
          refine s_val hF (x_neq rfl rfl rfl) (by decide) fun a hF => ?_
          refine s_end (hK30 _ _ ?_)
          refine wp_iff hF rfl (fun hc98 => ?_) (fun hc98 => ?_)
          · refine wp_rs fun K31 hK31 => ?_
            refine s_val hF (x_move rfl) (by decide) fun a hF => ?_
            refine s_val hF (x_assign rfl) (by decide) fun a hF => ?_
            refine s_end (hK31 _ _ ?_)
            refine wp_ret (inb_ret (then_ret (then_ret (inb_ret (then_ret (res_slot hF rfl rfl ⟨_, rfl, ⟨int_of (by rw [chk_in hnd, hck, chks_out hc98]), fun h => absurd (by rw [chk_in hnd, hck, chks_out hc98] at h; exact h) hc98⟩, hK⟩))))))
          · have hc0 : (chk 32 1048576 vars (d + 1) ri l).1 = 0 := by omega
            have mg := hmg hc0
            refine wp_skip (hK27 _ _ ?_)
            refine wp_region_lit ?_
            refine s_val hF (x_addn (i + 1) (by omega) (by omega) rfl rfl) (by decide) fun a hF => ?_
            refine s_val hF (x_move rfl) (by decide) fun a hF => ?_
            refine s_end (hK' _ _ (by omega) ⟨(chk 32 1048576 vars (d + 1) ri l).2, Nat.le_trans (chk_le _ _ _ _ _ _) hri, by rw [hck, chks_in hc0], mg, hB, hK, hF.sub _ rfl⟩)
        · refine wp_exit (hK23 _ _ ?_)
          refine wp_rs fun K32 hK32 => ?_
          refine s_val hF (x_assign rfl) (by decide) fun a hF => ?_
          refine s_end (hK32 _ _ ?_)
          have hnil : ls.drop i = [] := List.drop_of_length_le (by omega)
          rw [hnil] at hck
          refine wp_ret (res_slot hF rfl rfl ⟨_, rfl, ⟨int_of (by rw [chk_in hnd, hck]; rfl), fun _ => by rw [chk_in hnd, hck]; exact mg⟩, hK⟩)
      · have hq : kidsB k ls.length = false ∨ numB 1048576 k n = false := .inr (numB_no (by omega))
        refine wp_rs fun K33 hK33 => ?_
        refine s_val hF (x_fa0 fa24_0 rfl) (by decide) fun a hF => ?_
        refine s_val hF (x_load rfl (m_load flat3 (m4.cell (j := 0) rfl))) (by decide) fun a hF => ?_
        refine s_val hF (x_eql (b := false) (decide_eq_false (by omega)) rfl rfl) (by decide) fun a hF => ?_
        refine s_val hF (x_move rfl) (by decide) fun a hF => ?_
        refine s_grdn 44 hF rfl rfl (by decide) fun a hF => ?_
        refine s_grdn 44 hF rfl rfl (by decide) fun a hF => ?_
        refine s_grdn 44 hF rfl rfl (by decide) fun a hF => ?_
        refine s_grdn 44 hF rfl rfl (by decide) fun a hF => ?_
        refine s_grdu 48 hF rfl rfl (by decide) fun a hF => ?_
        refine s_grdu 48 hF rfl rfl (by decide) fun a hF => ?_
        refine s_grdu 48 hF rfl rfl (by decide) fun a hF => ?_
        refine s_grdn 44 hF rfl rfl (by decide) fun a hF => ?_
        refine s_val hF (x_pick (b := false) rfl rfl) (by decide) fun a hF => ?_
        refine s_val hF (x_move rfl) (by decide) fun a hF => ?_
        refine s_grd 54 hF rfl rfl rfl ?_
        refine s_val hF (x_fa0 fa24_0 rfl) (by decide) fun a hF => ?_
        refine s_grd 54 hF rfl rfl rfl ?_
        refine s_val hF (x_load rfl (m_load flat3 (m4.cell (j := 0) rfl))) (by decide) fun a hF => ?_
        refine s_grd 54 hF rfl rfl rfl ?_
        refine s_val hF (x_eql (b := true) (decide_eq_true (by omega)) rfl rfl) (by decide) fun a hF => ?_
        refine s_grd 54 hF rfl rfl rfl ?_
        refine s_val hF (x_move rfl) (by decide) fun a hF => ?_
        refine s_grd 58 hF rfl rfl rfl ?_
        refine s_val hF (x_fa0 fa24_1 rfl) (by decide) fun a hF => ?_
        refine s_grd 58 hF rfl rfl rfl ?_
        refine s_val hF (x_load rfl (m_load flat3 (m4.cell (j := 1) rfl))) (by decide) fun a hF => ?_
        refine s_grd 58 hF rfl rfl rfl ?_
        refine s_val hF (x_lss (b := true) (decide_eq_true (by omega)) rfl rfl) (by decide) fun a hF => ?_
        refine s_grd 58 hF rfl rfl rfl ?_
        refine s_val hF (x_move rfl) (by decide) fun a hF => ?_
        refine s_grdn 62 hF rfl rfl (by decide) fun a hF => ?_
        refine s_grdn 62 hF rfl rfl (by decide) fun a hF => ?_
        refine s_grdn 62 hF rfl rfl (by decide) fun a hF => ?_
        refine s_grd 58 hF rfl rfl rfl ?_
        refine s_val hF (x_pick (b := true) rfl rfl) (by decide) fun a hF => ?_
        refine s_grd 54 hF rfl rfl rfl ?_
        refine s_val hF (x_pick (b := true) rfl rfl) (by decide) fun a hF => ?_
        refine s_val hF (x_pick (b := false) rfl rfl) (by decide) fun a hF => ?_
        refine s_val hF (x_assign rfl) (by decide) fun a hF => ?_
        refine s_end (hK33 _ _ ?_)
        refine wp_if hF rfl ?_
        refine wp_rs fun K34 hK34 => ?_
        refine s_val hF (x_assign rfl) (by decide) fun a hF => ?_
        refine s_end (hK34 _ _ ?_)
        refine wp_ret (inb_ret (then_ret (res_slot hF rfl rfl ⟨_, rfl, ⟨int_of (chk_one (by omega) hq).symm, fun h => absurd ((chk_one (by omega) hq).symm.trans h) (by decide)⟩, hK⟩)))
      · have hq : kidsB k ls.length = false ∨ numB 1048576 k n = false := .inr (numB_no (by omega))
        refine wp_rs fun K35 hK35 => ?_
        refine s_val hF (x_fa0 fa24_0 rfl) (by decide) fun a hF => ?_
        refine s_val hF (x_load rfl (m_load flat3 (m4.cell (j := 0) rfl))) (by decide) fun a hF => ?_
        refine s_val hF (x_eql (b := false) (decide_eq_false (by omega)) rfl rfl) (by decide) fun a hF => ?_
        refine s_val hF (x_move rfl) (by decide) fun a hF => ?_
        refine s_grdn 44 hF rfl rfl (by decide) fun a hF => ?_
        refine s_grdn 44 hF rfl rfl (by decide) fun a hF => ?_
        refine s_grdn 44 hF rfl rfl (by decide) fun a hF => ?_
        refine s_grdn 44 hF rfl rfl (by decide) fun a hF => ?_
        refine s_grdu 48 hF rfl rfl (by decide) fun a hF => ?_
        refine s_grdu 48 hF rfl rfl (by decide) fun a hF => ?_
        refine s_grdu 48 hF rfl rfl (by decide) fun a hF => ?_
        refine s_grdn 44 hF rfl rfl (by decide) fun a hF => ?_
        refine s_val hF (x_pick (b := false) rfl rfl) (by decide) fun a hF => ?_
        refine s_val hF (x_move rfl) (by decide) fun a hF => ?_
        refine s_grd 54 hF rfl rfl rfl ?_
        refine s_val hF (x_fa0 fa24_0 rfl) (by decide) fun a hF => ?_
        refine s_grd 54 hF rfl rfl rfl ?_
        refine s_val hF (x_load rfl (m_load flat3 (m4.cell (j := 0) rfl))) (by decide) fun a hF => ?_
        refine s_grd 54 hF rfl rfl rfl ?_
        refine s_val hF (x_eql (b := true) (decide_eq_true (by omega)) rfl rfl) (by decide) fun a hF => ?_
        refine s_grd 54 hF rfl rfl rfl ?_
        refine s_val hF (x_move rfl) (by decide) fun a hF => ?_
        refine s_grd 58 hF rfl rfl rfl ?_
        refine s_val hF (x_fa0 fa24_1 rfl) (by decide) fun a hF => ?_
        refine s_grd 58 hF rfl rfl rfl ?_
        refine s_val hF (x_load rfl (m_load flat3 (m4.cell (j := 1) rfl))) (by decide) fun a hF => ?_
        refine s_grd 58 hF rfl rfl rfl ?_
        refine s_val hF (x_lss (b := false) (decide_eq_false (by omega)) rfl rfl) (by decide) fun a hF => ?_
        refine s_grd 58 hF rfl rfl rfl ?_
        refine s_val hF (x_move rfl) (by decide) fun a hF => ?_
        refine s_grd 62 hF rfl rfl rfl ?_
        refine s_val hF (x_fa0 fa24_1 rfl) (by decide) fun a hF => ?_
        refine s_grd 62 hF rfl rfl rfl ?_
        refine s_val hF (x_load rfl (m_load flat3 (m4.cell (j := 1) rfl))) (by decide) fun a hF => ?_
        refine s_grd 62 hF rfl rfl rfl ?_
        refine s_val hF (x_gtr (b := true) (decide_eq_true (by omega)) rfl rfl) (by decide) fun a hF => ?_
        refine s_grd 58 hF rfl rfl rfl ?_
        refine s_val hF (x_pick (b := false) rfl rfl) (by decide) fun a hF => ?_
        refine s_grd 54 hF rfl rfl rfl ?_
        refine s_val hF (x_pick (b := true) rfl rfl) (by decide) fun a hF => ?_
        refine s_val hF (x_pick (b := false) rfl rfl) (by decide) fun a hF => ?_
        refine s_val hF (x_assign rfl) (by decide) fun a hF => ?_
        refine s_end (hK35 _ _ ?_)
        refine wp_if hF rfl ?_
        refine wp_rs fun K36 hK36 => ?_
        refine s_val hF (x_assign rfl) (by decide) fun a hF => ?_
        refine s_end (hK36 _ _ ?_)
        refine wp_ret (inb_ret (then_ret (res_slot hF rfl rfl ⟨_, rfl, ⟨int_of (chk_one (by omega) hq).symm, fun h => absurd ((chk_one (by omega) hq).symm.trans h) (by decide)⟩, hK⟩)))
      · have hnb : numB 1048576 k n = true := numB_iff.2 (by omega)
        have hnd := nodeE_iff.2 ⟨hp.1, hp.2, hkl, hnb, (by omega : ¬ (k = 2 ∧ (n < 0 ∨ vars ≤ n)))⟩
        refine wp_rs fun K37 hK37 => ?_
        refine s_val hF (x_fa0 fa24_0 rfl) (by decide) fun a hF => ?_
        refine s_val hF (x_load rfl (m_load flat3 (m4.cell (j := 0) rfl))) (by decide) fun a hF => ?_
        refine s_val hF (x_eql (b := false) (decide_eq_false (by omega)) rfl rfl) (by decide) fun a hF => ?_
        refine s_val hF (x_move rfl) (by decide) fun a hF => ?_
        refine s_grdn 44 hF rfl rfl (by decide) fun a hF => ?_
        refine s_grdn 44 hF rfl rfl (by decide) fun a hF => ?_
        refine s_grdn 44 hF rfl rfl (by decide) fun a hF => ?_
        refine s_grdn 44 hF rfl rfl (by decide) fun a hF => ?_
        refine s_grdu 48 hF rfl rfl (by decide) fun a hF => ?_
        refine s_grdu 48 hF rfl rfl (by decide) fun a hF => ?_
        refine s_grdu 48 hF rfl rfl (by decide) fun a hF => ?_
        refine s_grdn 44 hF rfl rfl (by decide) fun a hF => ?_
        refine s_val hF (x_pick (b := false) rfl rfl) (by decide) fun a hF => ?_
        refine s_val hF (x_move rfl) (by decide) fun a hF => ?_
        refine s_grd 54 hF rfl rfl rfl ?_
        refine s_val hF (x_fa0 fa24_0 rfl) (by decide) fun a hF => ?_
        refine s_grd 54 hF rfl rfl rfl ?_
        refine s_val hF (x_load rfl (m_load flat3 (m4.cell (j := 0) rfl))) (by decide) fun a hF => ?_
        refine s_grd 54 hF rfl rfl rfl ?_
        refine s_val hF (x_eql (b := true) (decide_eq_true (by omega)) rfl rfl) (by decide) fun a hF => ?_
        refine s_grd 54 hF rfl rfl rfl ?_
        refine s_val hF (x_move rfl) (by decide) fun a hF => ?_
        refine s_grd 58 hF rfl rfl rfl ?_
        refine s_val hF (x_fa0 fa24_1 rfl) (by decide) fun a hF => ?_
        refine s_grd 58 hF rfl rfl rfl ?_
        refine s_val hF (x_load rfl (m_load flat3 (m4.cell (j := 1) rfl))) (by decide) fun a hF => ?_
        refine s_grd 58 hF rfl rfl rfl ?_
        refine s_val hF (x_lss (b := false) (decide_eq_false (by omega)) rfl rfl) (by decide) fun a hF => ?_
        refine s_grd 58 hF rfl rfl rfl ?_
        refine s_val hF (x_move rfl) (by decide) fun a hF => ?_
        refine s_grd 62 hF rfl rfl rfl ?_
        refine s_val hF (x_fa0 fa24_1 rfl) (by decide) fun a hF => ?_
        refine s_grd 62 hF rfl rfl rfl ?_
        refine s_val hF (x_load rfl (m_load flat3 (m4.cell (j := 1) rfl))) (by decide) fun a hF => ?_
        refine s_grd 62 hF rfl rfl rfl ?_
        refine s_val hF (x_gtr (b := false) (decide_eq_false (by omega)) rfl rfl) (by decide) fun a hF => ?_
        refine s_grd 58 hF rfl rfl rfl ?_
        refine s_val hF (x_pick (b := false) rfl rfl) (by decide) fun a hF => ?_
        refine s_grd 54 hF rfl rfl rfl ?_
        refine s_val hF (x_pick (b := true) rfl rfl) (by decide) fun a hF => ?_
        refine s_val hF (x_pick (b := false) rfl rfl) (by decide) fun a hF => ?_
        refine s_val hF (x_assign rfl) (by decide) fun a hF => ?_
        refine s_end (hK37 _ _ ?_)
        refine wp_if hF rfl ?_
        refine wp_rs fun K38 hK38 => ?_
        refine s_val hF (x_fa0 fa24_0 rfl) (by decide) fun a hF => ?_
        refine s_val hF (x_load rfl (m_load flat3 (m4.cell (j := 0) rfl))) (by decide) fun a hF => ?_
        refine s_val hF (x_eql (b := false) (decide_eq_false (by omega)) rfl rfl) (by decide) fun a hF => ?_
        refine s_val hF (x_move rfl) (by decide) fun a hF => ?_
        refine s_grdn 73 hF rfl rfl (by decide) fun a hF => ?_
        refine s_grdn 73 hF rfl rfl (by decide) fun a hF => ?_
        refine s_grdn 73 hF rfl rfl (by decide) fun a hF => ?_
        refine s_grdn 73 hF rfl rfl (by decide) fun a hF => ?_
        refine s_grdu 77 hF rfl rfl (by decide) fun a hF => ?_
        refine s_grdu 77 hF rfl rfl (by decide) fun a hF => ?_
        refine s_grdu 77 hF rfl rfl (by decide) fun a hF => ?_
        refine s_grdu 77 hF rfl rfl (by decide) fun a hF => ?_
        refine s_grdn 73 hF rfl rfl (by decide) fun a hF => ?_
        refine s_val hF (x_pick (b := false) rfl rfl) (by decide) fun a hF => ?_
        refine s_val hF (x_assign rfl) (by decide) fun a hF => ?_
        refine s_end (hK38 _ _ ?_)
        refine wp_if hF rfl ?_
        refine wp_skip (hK3 _ _ ?_)
        refine wp_seq_k fun K39 hK39 => ?_
        refine wp_rs fun K40 hK40 => ?_
        refine s_val hF (x_fa0 fa24_2 rfl) (by decide) fun a hF => ?_
        refine s_val hF (x_load rfl (m_load flat22 (m4.cell (j := 2) rfl))) (by decide) fun a hF => ?_
        refine s_val hF (x_len Try.underlying22 rfl) (by decide) fun a hF => ?_
        refine s_val hF (x_move rfl) (by decide) fun a hF => ?_
        refine s_end (hK40 _ _ ?_)
        refine wp_block ?_
        have mg : Blk w10 g 3 [.int .i64 (100 - ((r - 1 : Nat) : Int))] := by rw [show (100 : Int) - ((r - 1 : Nat) : Int) = 100 - (r : Int) + 1 by omega]; exact mg
        refine wp_up xs.length (fun i a w => ∃ ri : Nat, ri ≤ 100 ∧ chks 32 1048576 vars (d + 1) (r - 1) ls = chks 32 1048576 vars (d + 1) ri (ls.drop i) ∧ Blk w g 3 [.int .i64 (100 - (ri : Int))] ∧ Below w0.heap.size w0 w ∧ Ktw g g w1 w ∧ Fs 101 a [(87, .int .i64 (i : Int)), (86, .int .i64 (xs.length : Int)), (85, .slice av xs.length cv), (1, .int .i64 vars), (2, .int .i64 d), (3, .pointer (some ⟨g, 0, none⟩))]) ⟨r - 1, by omega, rfl, mg, hB, hK, hF.sub _ rfl⟩ ?_
        clear hF hB hK mg
        rintro i a w hi ⟨ri, hri, hck, mg, hB, hK, hF⟩ K' hK'
        have sB := hB.size
        have hgl := mg.lt
        have sK := hK.size
        have hle := kids_le hkl
        refine wp_rs fun K41 hK41 => ?_
        refine s_val hF (x_lss rfl rfl rfl) (by decide) fun a hF => ?_
        refine s_end (hK41 _ _ ?_)
        refine wp_seq_k fun K42 hK42 => ?_
        refine wp_iff hF rfl (fun hc88 => ?_) (fun hc88 => ?_)
        · obtain ⟨b, off, c, y, hve, hy, hrow⟩ := rd_row3 hR (i := i) (by omega)
          cases hve
          obtain ⟨l, hlk⟩ : ∃ l, ls[i]? = some l := ⟨_, List.getElem?_eq_getElem (by omega)⟩
          have ihy := ih i y l hy hlk
          have h1y := (hk i y l hy hlk).one1
          rw [drop_at hlk] at hck
          refine wp_skip (hK42 _ _ ?_)
          refine wp_seq_k fun K43 hK43 => ?_
          refine wp_block ?_
          refine wp_rs fun K44 hK44 => ?_
          refine s_val hF (x_ixa rfl rfl (m_ixsK i Try.underlying22 el22.size rfl (by omega))) (by decide) fun a hF => ?_
          refine s_val hF (x_ldA wide24 (hrow _ hB) rfl rfl) (by decide) fun a hF => ?_
          refine s_alloc hF (by decide) zero24 fun w18 b10 a eb10 m10 B19 zb10 hF => ?_
          have sB19 := B19.size
          have hB := hB.trans (B19.mono hB.size)
          have hK := hK.below B19
          have mg := mg.old B19
          refine s_putW hF rfl rfl (size_wide wide24) m10 rfl (one_lc h1y) fun w20 m10 o21 => ?_
          have so21 := o21.size
          have hB := hB.trans (o21.below (by omega))
          have hK := hK.only o21 (by omega)
          have mg := mg.only o21 (by omega)
          refine s_end (hK44 _ _ ?_)
          refine wp_rs fun K45 hK45 => ?_
          refine s_val hF (x_ldW wide24 m10 rfl rfl) (by decide) fun a hF => ?_
          refine s_val hF (x_move rfl) (by decide) fun a hF => ?_
          refine s_val hF (x_move rfl) (by decide) fun a hF => ?_
          refine s_val hF (x_add (by omega) (by omega) rfl rfl) (by decide) fun a hF => ?_
          refine s_val hF (x_move rfl) (by decide) fun a hF => ?_
          refine s_call (R := fun u w' => (u = .int .i64 (chk 32 1048576 vars (d + 1) ri l).1 ∧ ((chk 32 1048576 vars (d + 1) ri l).1 = 0 → Blk w' g 3 [.int .i64 (100 - ((chk 32 1048576 vars (d + 1) ri l).2 : Int))])) ∧ Ktw g g w20 w') hF [_, _, _, _] (enters_of Try.func82 (by kernel_rfl) rfl) rfl (by decide) (ihy (d + 1) ri w20 (by omega) (by omega) hri hB mg) ?_
          rintro _ w22 a ⟨⟨rfl, hmg⟩, k23⟩ hF
          have sk23 := k23.size
          have hB := k23.under hB (by omega)
          have hK := hK.trans k23 (by omega)
          have m10 := m10.k2 k23 (by omega)
          refine s_val hF (x_assign rfl) (by decide) fun a hF => ?_
          refine s_end (hK45 _ _ ?_)
          refine wp_rs fun K46 hK46 => ?_
          refine s_val hF (x_move rfl) (by decide) fun a hF => ?_
          refine s_val hF (x_neq rfl rfl rfl) (by decide) fun a hF => ?_
          refine s_end (hK46 _ _ ?_)
          refine wp_iff hF rfl (fun hc98 => ?_) (fun hc98 => ?_)
          · refine wp_rs fun K47 hK47 => ?_
            refine s_val hF (x_move rfl) (by decide) fun a hF => ?_
            refine s_val hF (x_assign rfl) (by decide) fun a hF => ?_
            refine s_end (hK47 _ _ ?_)
            refine wp_ret (inb_ret (then_ret (then_ret (inb_ret (then_ret (res_slot hF rfl rfl ⟨_, rfl, ⟨int_of (by rw [chk_in hnd, hck, chks_out hc98]), fun h => absurd (by rw [chk_in hnd, hck, chks_out hc98] at h; exact h) hc98⟩, hK⟩))))))
          · have hc0 : (chk 32 1048576 vars (d + 1) ri l).1 = 0 := by omega
            have mg := hmg hc0
            refine wp_skip (hK43 _ _ ?_)
            refine wp_region_lit ?_
            refine s_val hF (x_addn (i + 1) (by omega) (by omega) rfl rfl) (by decide) fun a hF => ?_
            refine s_val hF (x_move rfl) (by decide) fun a hF => ?_
            refine s_end (hK' _ _ (by omega) ⟨(chk 32 1048576 vars (d + 1) ri l).2, Nat.le_trans (chk_le _ _ _ _ _ _) hri, by rw [hck, chks_in hc0], mg, hB, hK, hF.sub _ rfl⟩)
        · refine wp_exit (hK39 _ _ ?_)
          refine wp_rs fun K48 hK48 => ?_
          refine s_val hF (x_assign rfl) (by decide) fun a hF => ?_
          refine s_end (hK48 _ _ ?_)
          have hnil : ls.drop i = [] := List.drop_of_length_le (by omega)
          rw [hnil] at hck
          refine wp_ret (res_slot hF rfl rfl ⟨_, rfl, ⟨int_of (by rw [chk_in hnd, hck]; rfl), fun _ => by rw [chk_in hnd, hck]; exact mg⟩, hK⟩)
      · have hnb : numB 1048576 k n = true := numB_iff.2 (by omega)
        refine wp_rs fun K49 hK49 => ?_
        refine s_val hF (x_fa0 fa24_0 rfl) (by decide) fun a hF => ?_
        refine s_val hF (x_load rfl (m_load flat3 (m4.cell (j := 0) rfl))) (by decide) fun a hF => ?_
        refine s_val hF (x_eql (b := false) (decide_eq_false (by omega)) rfl rfl) (by decide) fun a hF => ?_
        refine s_val hF (x_move rfl) (by decide) fun a hF => ?_
        refine s_grdn 44 hF rfl rfl (by decide) fun a hF => ?_
        refine s_grdn 44 hF rfl rfl (by decide) fun a hF => ?_
        refine s_grdn 44 hF rfl rfl (by decide) fun a hF => ?_
        refine s_grdn 44 hF rfl rfl (by decide) fun a hF => ?_
        refine s_grdu 48 hF rfl rfl (by decide) fun a hF => ?_
        refine s_grdu 48 hF rfl rfl (by decide) fun a hF => ?_
        refine s_grdu 48 hF rfl rfl (by decide) fun a hF => ?_
        refine s_grdn 44 hF rfl rfl (by decide) fun a hF => ?_
        refine s_val hF (x_pick (b := false) rfl rfl) (by decide) fun a hF => ?_
        refine s_val hF (x_move rfl) (by decide) fun a hF => ?_
        refine s_grd 54 hF rfl rfl rfl ?_
        refine s_val hF (x_fa0 fa24_0 rfl) (by decide) fun a hF => ?_
        refine s_grd 54 hF rfl rfl rfl ?_
        refine s_val hF (x_load rfl (m_load flat3 (m4.cell (j := 0) rfl))) (by decide) fun a hF => ?_
        refine s_grd 54 hF rfl rfl rfl ?_
        refine s_val hF (x_eql (b := false) (decide_eq_false (by omega)) rfl rfl) (by decide) fun a hF => ?_
        refine s_grd 54 hF rfl rfl rfl ?_
        refine s_val hF (x_move rfl) (by decide) fun a hF => ?_
        refine s_grdn 58 hF rfl rfl (by decide) fun a hF => ?_
        refine s_grdn 58 hF rfl rfl (by decide) fun a hF => ?_
        refine s_grdn 58 hF rfl rfl (by decide) fun a hF => ?_
        refine s_grdn 58 hF rfl rfl (by decide) fun a hF => ?_
        refine s_grdu 62 hF rfl rfl (by decide) fun a hF => ?_
        refine s_grdu 62 hF rfl rfl (by decide) fun a hF => ?_
        refine s_grdu 62 hF rfl rfl (by decide) fun a hF => ?_
        refine s_grdn 58 hF rfl rfl (by decide) fun a hF => ?_
        refine s_grd 54 hF rfl rfl rfl ?_
        refine s_val hF (x_pick (b := false) rfl rfl) (by decide) fun a hF => ?_
        refine s_val hF (x_pick (b := false) rfl rfl) (by decide) fun a hF => ?_
        refine s_val hF (x_assign rfl) (by decide) fun a hF => ?_
        refine s_end (hK49 _ _ ?_)
        refine wp_if hF rfl ?_
        refine wp_rs fun K50 hK50 => ?_
        refine s_val hF (x_fa0 fa24_0 rfl) (by decide) fun a hF => ?_
        refine s_val hF (x_load rfl (m_load flat3 (m4.cell (j := 0) rfl))) (by decide) fun a hF => ?_
        refine s_val hF (x_eql (b := true) (decide_eq_true (by omega)) rfl rfl) (by decide) fun a hF => ?_
        refine s_val hF (x_move rfl) (by decide) fun a hF => ?_
        refine s_grd 73 hF rfl rfl rfl ?_
        refine s_val hF (x_fa0 fa24_1 rfl) (by decide) fun a hF => ?_
        refine s_grd 73 hF rfl rfl rfl ?_
        refine s_val hF (x_load rfl (m_load flat3 (m4.cell (j := 1) rfl))) (by decide) fun a hF => ?_
        refine s_grd 73 hF rfl rfl rfl ?_
        refine s_val hF (x_lss (b := true) (decide_eq_true (by omega)) rfl rfl) (by decide) fun a hF => ?_
        refine s_grd 73 hF rfl rfl rfl ?_
        refine s_val hF (x_move rfl) (by decide) fun a hF => ?_
        refine s_grdn 77 hF rfl rfl (by decide) fun a hF => ?_
        refine s_grdn 77 hF rfl rfl (by decide) fun a hF => ?_
        refine s_grdn 77 hF rfl rfl (by decide) fun a hF => ?_
        refine s_grdn 77 hF rfl rfl (by decide) fun a hF => ?_
        refine s_grd 73 hF rfl rfl rfl ?_
        refine s_val hF (x_pick (b := true) rfl rfl) (by decide) fun a hF => ?_
        refine s_val hF (x_pick (b := true) rfl rfl) (by decide) fun a hF => ?_
        refine s_val hF (x_assign rfl) (by decide) fun a hF => ?_
        refine s_end (hK50 _ _ ?_)
        refine wp_if hF rfl ?_
        refine wp_rs fun K51 hK51 => ?_
        refine s_val hF (x_assign rfl) (by decide) fun a hF => ?_
        refine s_end (hK51 _ _ ?_)
        refine wp_ret (inb_ret (then_ret (res_slot hF rfl rfl ⟨_, rfl, ⟨int_of (chk_ten (by omega) hkl hnb (by omega)).symm, fun h => absurd ((chk_ten (by omega) hkl hnb (by omega)).symm.trans h) (by decide)⟩, hK⟩)))
      · have hnb : numB 1048576 k n = true := numB_iff.2 (by omega)
        refine wp_rs fun K52 hK52 => ?_
        refine s_val hF (x_fa0 fa24_0 rfl) (by decide) fun a hF => ?_
        refine s_val hF (x_load rfl (m_load flat3 (m4.cell (j := 0) rfl))) (by decide) fun a hF => ?_
        refine s_val hF (x_eql (b := false) (decide_eq_false (by omega)) rfl rfl) (by decide) fun a hF => ?_
        refine s_val hF (x_move rfl) (by decide) fun a hF => ?_
        refine s_grdn 44 hF rfl rfl (by decide) fun a hF => ?_
        refine s_grdn 44 hF rfl rfl (by decide) fun a hF => ?_
        refine s_grdn 44 hF rfl rfl (by decide) fun a hF => ?_
        refine s_grdn 44 hF rfl rfl (by decide) fun a hF => ?_
        refine s_grdu 48 hF rfl rfl (by decide) fun a hF => ?_
        refine s_grdu 48 hF rfl rfl (by decide) fun a hF => ?_
        refine s_grdu 48 hF rfl rfl (by decide) fun a hF => ?_
        refine s_grdn 44 hF rfl rfl (by decide) fun a hF => ?_
        refine s_val hF (x_pick (b := false) rfl rfl) (by decide) fun a hF => ?_
        refine s_val hF (x_move rfl) (by decide) fun a hF => ?_
        refine s_grd 54 hF rfl rfl rfl ?_
        refine s_val hF (x_fa0 fa24_0 rfl) (by decide) fun a hF => ?_
        refine s_grd 54 hF rfl rfl rfl ?_
        refine s_val hF (x_load rfl (m_load flat3 (m4.cell (j := 0) rfl))) (by decide) fun a hF => ?_
        refine s_grd 54 hF rfl rfl rfl ?_
        refine s_val hF (x_eql (b := false) (decide_eq_false (by omega)) rfl rfl) (by decide) fun a hF => ?_
        refine s_grd 54 hF rfl rfl rfl ?_
        refine s_val hF (x_move rfl) (by decide) fun a hF => ?_
        refine s_grdn 58 hF rfl rfl (by decide) fun a hF => ?_
        refine s_grdn 58 hF rfl rfl (by decide) fun a hF => ?_
        refine s_grdn 58 hF rfl rfl (by decide) fun a hF => ?_
        refine s_grdn 58 hF rfl rfl (by decide) fun a hF => ?_
        refine s_grdu 62 hF rfl rfl (by decide) fun a hF => ?_
        refine s_grdu 62 hF rfl rfl (by decide) fun a hF => ?_
        refine s_grdu 62 hF rfl rfl (by decide) fun a hF => ?_
        refine s_grdn 58 hF rfl rfl (by decide) fun a hF => ?_
        refine s_grd 54 hF rfl rfl rfl ?_
        refine s_val hF (x_pick (b := false) rfl rfl) (by decide) fun a hF => ?_
        refine s_val hF (x_pick (b := false) rfl rfl) (by decide) fun a hF => ?_
        refine s_val hF (x_assign rfl) (by decide) fun a hF => ?_
        refine s_end (hK52 _ _ ?_)
        refine wp_if hF rfl ?_
        refine wp_rs fun K53 hK53 => ?_
        refine s_val hF (x_fa0 fa24_0 rfl) (by decide) fun a hF => ?_
        refine s_val hF (x_load rfl (m_load flat3 (m4.cell (j := 0) rfl))) (by decide) fun a hF => ?_
        refine s_val hF (x_eql (b := true) (decide_eq_true (by omega)) rfl rfl) (by decide) fun a hF => ?_
        refine s_val hF (x_move rfl) (by decide) fun a hF => ?_
        refine s_grd 73 hF rfl rfl rfl ?_
        refine s_val hF (x_fa0 fa24_1 rfl) (by decide) fun a hF => ?_
        refine s_grd 73 hF rfl rfl rfl ?_
        refine s_val hF (x_load rfl (m_load flat3 (m4.cell (j := 1) rfl))) (by decide) fun a hF => ?_
        refine s_grd 73 hF rfl rfl rfl ?_
        refine s_val hF (x_lss (b := false) (decide_eq_false (by omega)) rfl rfl) (by decide) fun a hF => ?_
        refine s_grd 73 hF rfl rfl rfl ?_
        refine s_val hF (x_move rfl) (by decide) fun a hF => ?_
        refine s_grd 77 hF rfl rfl rfl ?_
        refine s_val hF (x_fa0 fa24_1 rfl) (by decide) fun a hF => ?_
        refine s_grd 77 hF rfl rfl rfl ?_
        refine s_val hF (x_load rfl (m_load flat3 (m4.cell (j := 1) rfl))) (by decide) fun a hF => ?_
        refine s_grd 77 hF rfl rfl rfl ?_
        refine s_val hF (x_move rfl) (by decide) fun a hF => ?_
        refine s_grd 77 hF rfl rfl rfl ?_
        refine s_val hF (x_geq (b := true) (decide_eq_true (by omega)) rfl rfl) (by decide) fun a hF => ?_
        refine s_grd 73 hF rfl rfl rfl ?_
        refine s_val hF (x_pick (b := false) rfl rfl) (by decide) fun a hF => ?_
        refine s_val hF (x_pick (b := true) rfl rfl) (by decide) fun a hF => ?_
        refine s_val hF (x_assign rfl) (by decide) fun a hF => ?_
        refine s_end (hK53 _ _ ?_)
        refine wp_if hF rfl ?_
        refine wp_rs fun K54 hK54 => ?_
        refine s_val hF (x_assign rfl) (by decide) fun a hF => ?_
        refine s_end (hK54 _ _ ?_)
        refine wp_ret (inb_ret (then_ret (res_slot hF rfl rfl ⟨_, rfl, ⟨int_of (chk_ten (by omega) hkl hnb (by omega)).symm, fun h => absurd ((chk_ten (by omega) hkl hnb (by omega)).symm.trans h) (by decide)⟩, hK⟩)))
      · have hnb : numB 1048576 k n = true := numB_iff.2 (by omega)
        have hnd := nodeE_iff.2 ⟨hp.1, hp.2, hkl, hnb, (by omega : ¬ (k = 2 ∧ (n < 0 ∨ vars ≤ n)))⟩
        refine wp_rs fun K55 hK55 => ?_
        refine s_val hF (x_fa0 fa24_0 rfl) (by decide) fun a hF => ?_
        refine s_val hF (x_load rfl (m_load flat3 (m4.cell (j := 0) rfl))) (by decide) fun a hF => ?_
        refine s_val hF (x_eql (b := false) (decide_eq_false (by omega)) rfl rfl) (by decide) fun a hF => ?_
        refine s_val hF (x_move rfl) (by decide) fun a hF => ?_
        refine s_grdn 44 hF rfl rfl (by decide) fun a hF => ?_
        refine s_grdn 44 hF rfl rfl (by decide) fun a hF => ?_
        refine s_grdn 44 hF rfl rfl (by decide) fun a hF => ?_
        refine s_grdn 44 hF rfl rfl (by decide) fun a hF => ?_
        refine s_grdu 48 hF rfl rfl (by decide) fun a hF => ?_
        refine s_grdu 48 hF rfl rfl (by decide) fun a hF => ?_
        refine s_grdu 48 hF rfl rfl (by decide) fun a hF => ?_
        refine s_grdn 44 hF rfl rfl (by decide) fun a hF => ?_
        refine s_val hF (x_pick (b := false) rfl rfl) (by decide) fun a hF => ?_
        refine s_val hF (x_move rfl) (by decide) fun a hF => ?_
        refine s_grd 54 hF rfl rfl rfl ?_
        refine s_val hF (x_fa0 fa24_0 rfl) (by decide) fun a hF => ?_
        refine s_grd 54 hF rfl rfl rfl ?_
        refine s_val hF (x_load rfl (m_load flat3 (m4.cell (j := 0) rfl))) (by decide) fun a hF => ?_
        refine s_grd 54 hF rfl rfl rfl ?_
        refine s_val hF (x_eql (b := false) (decide_eq_false (by omega)) rfl rfl) (by decide) fun a hF => ?_
        refine s_grd 54 hF rfl rfl rfl ?_
        refine s_val hF (x_move rfl) (by decide) fun a hF => ?_
        refine s_grdn 58 hF rfl rfl (by decide) fun a hF => ?_
        refine s_grdn 58 hF rfl rfl (by decide) fun a hF => ?_
        refine s_grdn 58 hF rfl rfl (by decide) fun a hF => ?_
        refine s_grdn 58 hF rfl rfl (by decide) fun a hF => ?_
        refine s_grdu 62 hF rfl rfl (by decide) fun a hF => ?_
        refine s_grdu 62 hF rfl rfl (by decide) fun a hF => ?_
        refine s_grdu 62 hF rfl rfl (by decide) fun a hF => ?_
        refine s_grdn 58 hF rfl rfl (by decide) fun a hF => ?_
        refine s_grd 54 hF rfl rfl rfl ?_
        refine s_val hF (x_pick (b := false) rfl rfl) (by decide) fun a hF => ?_
        refine s_val hF (x_pick (b := false) rfl rfl) (by decide) fun a hF => ?_
        refine s_val hF (x_assign rfl) (by decide) fun a hF => ?_
        refine s_end (hK55 _ _ ?_)
        refine wp_if hF rfl ?_
        refine wp_rs fun K56 hK56 => ?_
        refine s_val hF (x_fa0 fa24_0 rfl) (by decide) fun a hF => ?_
        refine s_val hF (x_load rfl (m_load flat3 (m4.cell (j := 0) rfl))) (by decide) fun a hF => ?_
        refine s_val hF (x_eql (b := true) (decide_eq_true (by omega)) rfl rfl) (by decide) fun a hF => ?_
        refine s_val hF (x_move rfl) (by decide) fun a hF => ?_
        refine s_grd 73 hF rfl rfl rfl ?_
        refine s_val hF (x_fa0 fa24_1 rfl) (by decide) fun a hF => ?_
        refine s_grd 73 hF rfl rfl rfl ?_
        refine s_val hF (x_load rfl (m_load flat3 (m4.cell (j := 1) rfl))) (by decide) fun a hF => ?_
        refine s_grd 73 hF rfl rfl rfl ?_
        refine s_val hF (x_lss (b := false) (decide_eq_false (by omega)) rfl rfl) (by decide) fun a hF => ?_
        refine s_grd 73 hF rfl rfl rfl ?_
        refine s_val hF (x_move rfl) (by decide) fun a hF => ?_
        refine s_grd 77 hF rfl rfl rfl ?_
        refine s_val hF (x_fa0 fa24_1 rfl) (by decide) fun a hF => ?_
        refine s_grd 77 hF rfl rfl rfl ?_
        refine s_val hF (x_load rfl (m_load flat3 (m4.cell (j := 1) rfl))) (by decide) fun a hF => ?_
        refine s_grd 77 hF rfl rfl rfl ?_
        refine s_val hF (x_move rfl) (by decide) fun a hF => ?_
        refine s_grd 77 hF rfl rfl rfl ?_
        refine s_val hF (x_geq (b := false) (decide_eq_false (by omega)) rfl rfl) (by decide) fun a hF => ?_
        refine s_grd 73 hF rfl rfl rfl ?_
        refine s_val hF (x_pick (b := false) rfl rfl) (by decide) fun a hF => ?_
        refine s_val hF (x_pick (b := true) rfl rfl) (by decide) fun a hF => ?_
        refine s_val hF (x_assign rfl) (by decide) fun a hF => ?_
        refine s_end (hK56 _ _ ?_)
        refine wp_if hF rfl ?_
        refine wp_skip (hK3 _ _ ?_)
        refine wp_seq_k fun K57 hK57 => ?_
        refine wp_rs fun K58 hK58 => ?_
        refine s_val hF (x_fa0 fa24_2 rfl) (by decide) fun a hF => ?_
        refine s_val hF (x_load rfl (m_load flat22 (m4.cell (j := 2) rfl))) (by decide) fun a hF => ?_
        refine s_val hF (x_len Try.underlying22 rfl) (by decide) fun a hF => ?_
        refine s_val hF (x_move rfl) (by decide) fun a hF => ?_
        refine s_end (hK58 _ _ ?_)
        refine wp_block ?_
        have mg : Blk w10 g 3 [.int .i64 (100 - ((r - 1 : Nat) : Int))] := by rw [show (100 : Int) - ((r - 1 : Nat) : Int) = 100 - (r : Int) + 1 by omega]; exact mg
        refine wp_up xs.length (fun i a w => ∃ ri : Nat, ri ≤ 100 ∧ chks 32 1048576 vars (d + 1) (r - 1) ls = chks 32 1048576 vars (d + 1) ri (ls.drop i) ∧ Blk w g 3 [.int .i64 (100 - (ri : Int))] ∧ Below w0.heap.size w0 w ∧ Ktw g g w1 w ∧ Fs 101 a [(87, .int .i64 (i : Int)), (86, .int .i64 (xs.length : Int)), (85, .slice av xs.length cv), (1, .int .i64 vars), (2, .int .i64 d), (3, .pointer (some ⟨g, 0, none⟩))]) ⟨r - 1, by omega, rfl, mg, hB, hK, hF.sub _ rfl⟩ ?_
        clear hF hB hK mg
        rintro i a w hi ⟨ri, hri, hck, mg, hB, hK, hF⟩ K' hK'
        have sB := hB.size
        have hgl := mg.lt
        have sK := hK.size
        have hle := kids_le hkl
        refine wp_rs fun K59 hK59 => ?_
        refine s_val hF (x_lss rfl rfl rfl) (by decide) fun a hF => ?_
        refine s_end (hK59 _ _ ?_)
        refine wp_seq_k fun K60 hK60 => ?_
        refine wp_iff hF rfl (fun hc88 => ?_) (fun hc88 => ?_)
        · obtain ⟨b, off, c, y, hve, hy, hrow⟩ := rd_row3 hR (i := i) (by omega)
          cases hve
          obtain ⟨l, hlk⟩ : ∃ l, ls[i]? = some l := ⟨_, List.getElem?_eq_getElem (by omega)⟩
          have ihy := ih i y l hy hlk
          have h1y := (hk i y l hy hlk).one1
          rw [drop_at hlk] at hck
          refine wp_skip (hK60 _ _ ?_)
          refine wp_seq_k fun K61 hK61 => ?_
          refine wp_block ?_
          refine wp_rs fun K62 hK62 => ?_
          refine s_val hF (x_ixa rfl rfl (m_ixsK i Try.underlying22 el22.size rfl (by omega))) (by decide) fun a hF => ?_
          refine s_val hF (x_ldA wide24 (hrow _ hB) rfl rfl) (by decide) fun a hF => ?_
          refine s_alloc hF (by decide) zero24 fun w24 b10 a eb10 m10 B25 zb10 hF => ?_
          have sB25 := B25.size
          have hB := hB.trans (B25.mono hB.size)
          have hK := hK.below B25
          have mg := mg.old B25
          refine s_putW hF rfl rfl (size_wide wide24) m10 rfl (one_lc h1y) fun w26 m10 o27 => ?_
          have so27 := o27.size
          have hB := hB.trans (o27.below (by omega))
          have hK := hK.only o27 (by omega)
          have mg := mg.only o27 (by omega)
          refine s_end (hK62 _ _ ?_)
          refine wp_rs fun K63 hK63 => ?_
          refine s_val hF (x_ldW wide24 m10 rfl rfl) (by decide) fun a hF => ?_
          refine s_val hF (x_move rfl) (by decide) fun a hF => ?_
          refine s_val hF (x_move rfl) (by decide) fun a hF => ?_
          refine s_val hF (x_add (by omega) (by omega) rfl rfl) (by decide) fun a hF => ?_
          refine s_val hF (x_move rfl) (by decide) fun a hF => ?_
          refine s_call (R := fun u w' => (u = .int .i64 (chk 32 1048576 vars (d + 1) ri l).1 ∧ ((chk 32 1048576 vars (d + 1) ri l).1 = 0 → Blk w' g 3 [.int .i64 (100 - ((chk 32 1048576 vars (d + 1) ri l).2 : Int))])) ∧ Ktw g g w26 w') hF [_, _, _, _] (enters_of Try.func82 (by kernel_rfl) rfl) rfl (by decide) (ihy (d + 1) ri w26 (by omega) (by omega) hri hB mg) ?_
          rintro _ w28 a ⟨⟨rfl, hmg⟩, k29⟩ hF
          have sk29 := k29.size
          have hB := k29.under hB (by omega)
          have hK := hK.trans k29 (by omega)
          have m10 := m10.k2 k29 (by omega)
          refine s_val hF (x_assign rfl) (by decide) fun a hF => ?_
          refine s_end (hK63 _ _ ?_)
          refine wp_rs fun K64 hK64 => ?_
          refine s_val hF (x_move rfl) (by decide) fun a hF => ?_
          refine s_val hF (x_neq rfl rfl rfl) (by decide) fun a hF => ?_
          refine s_end (hK64 _ _ ?_)
          refine wp_iff hF rfl (fun hc98 => ?_) (fun hc98 => ?_)
          · refine wp_rs fun K65 hK65 => ?_
            refine s_val hF (x_move rfl) (by decide) fun a hF => ?_
            refine s_val hF (x_assign rfl) (by decide) fun a hF => ?_
            refine s_end (hK65 _ _ ?_)
            refine wp_ret (inb_ret (then_ret (then_ret (inb_ret (then_ret (res_slot hF rfl rfl ⟨_, rfl, ⟨int_of (by rw [chk_in hnd, hck, chks_out hc98]), fun h => absurd (by rw [chk_in hnd, hck, chks_out hc98] at h; exact h) hc98⟩, hK⟩))))))
          · have hc0 : (chk 32 1048576 vars (d + 1) ri l).1 = 0 := by omega
            have mg := hmg hc0
            refine wp_skip (hK61 _ _ ?_)
            refine wp_region_lit ?_
            refine s_val hF (x_addn (i + 1) (by omega) (by omega) rfl rfl) (by decide) fun a hF => ?_
            refine s_val hF (x_move rfl) (by decide) fun a hF => ?_
            refine s_end (hK' _ _ (by omega) ⟨(chk 32 1048576 vars (d + 1) ri l).2, Nat.le_trans (chk_le _ _ _ _ _ _) hri, by rw [hck, chks_in hc0], mg, hB, hK, hF.sub _ rfl⟩)
        · refine wp_exit (hK57 _ _ ?_)
          refine wp_rs fun K66 hK66 => ?_
          refine s_val hF (x_assign rfl) (by decide) fun a hF => ?_
          refine s_end (hK66 _ _ ?_)
          have hnil : ls.drop i = [] := List.drop_of_length_le (by omega)
          rw [hnil] at hck
          refine wp_ret (res_slot hF rfl rfl ⟨_, rfl, ⟨int_of (by rw [chk_in hnd, hck]; rfl), fun _ => by rw [chk_in hnd, hck]; exact mg⟩, hK⟩)
      · have hnb : numB 1048576 k n = true := numB_iff.2 (by omega)
        have hnd := nodeE_iff.2 ⟨hp.1, hp.2, hkl, hnb, (by omega : ¬ (k = 2 ∧ (n < 0 ∨ vars ≤ n)))⟩
        refine wp_rs fun K67 hK67 => ?_
        refine s_val hF (x_fa0 fa24_0 rfl) (by decide) fun a hF => ?_
        refine s_val hF (x_load rfl (m_load flat3 (m4.cell (j := 0) rfl))) (by decide) fun a hF => ?_
        refine s_val hF (x_eql (b := false) (decide_eq_false (by omega)) rfl rfl) (by decide) fun a hF => ?_
        refine s_val hF (x_move rfl) (by decide) fun a hF => ?_
        refine s_grdn 44 hF rfl rfl (by decide) fun a hF => ?_
        refine s_grdn 44 hF rfl rfl (by decide) fun a hF => ?_
        refine s_grdn 44 hF rfl rfl (by decide) fun a hF => ?_
        refine s_grdn 44 hF rfl rfl (by decide) fun a hF => ?_
        refine s_grdu 48 hF rfl rfl (by decide) fun a hF => ?_
        refine s_grdu 48 hF rfl rfl (by decide) fun a hF => ?_
        refine s_grdu 48 hF rfl rfl (by decide) fun a hF => ?_
        refine s_grdn 44 hF rfl rfl (by decide) fun a hF => ?_
        refine s_val hF (x_pick (b := false) rfl rfl) (by decide) fun a hF => ?_
        refine s_val hF (x_move rfl) (by decide) fun a hF => ?_
        refine s_grd 54 hF rfl rfl rfl ?_
        refine s_val hF (x_fa0 fa24_0 rfl) (by decide) fun a hF => ?_
        refine s_grd 54 hF rfl rfl rfl ?_
        refine s_val hF (x_load rfl (m_load flat3 (m4.cell (j := 0) rfl))) (by decide) fun a hF => ?_
        refine s_grd 54 hF rfl rfl rfl ?_
        refine s_val hF (x_eql (b := false) (decide_eq_false (by omega)) rfl rfl) (by decide) fun a hF => ?_
        refine s_grd 54 hF rfl rfl rfl ?_
        refine s_val hF (x_move rfl) (by decide) fun a hF => ?_
        refine s_grdn 58 hF rfl rfl (by decide) fun a hF => ?_
        refine s_grdn 58 hF rfl rfl (by decide) fun a hF => ?_
        refine s_grdn 58 hF rfl rfl (by decide) fun a hF => ?_
        refine s_grdn 58 hF rfl rfl (by decide) fun a hF => ?_
        refine s_grdu 62 hF rfl rfl (by decide) fun a hF => ?_
        refine s_grdu 62 hF rfl rfl (by decide) fun a hF => ?_
        refine s_grdu 62 hF rfl rfl (by decide) fun a hF => ?_
        refine s_grdn 58 hF rfl rfl (by decide) fun a hF => ?_
        refine s_grd 54 hF rfl rfl rfl ?_
        refine s_val hF (x_pick (b := false) rfl rfl) (by decide) fun a hF => ?_
        refine s_val hF (x_pick (b := false) rfl rfl) (by decide) fun a hF => ?_
        refine s_val hF (x_assign rfl) (by decide) fun a hF => ?_
        refine s_end (hK67 _ _ ?_)
        refine wp_if hF rfl ?_
        refine wp_rs fun K68 hK68 => ?_
        refine s_val hF (x_fa0 fa24_0 rfl) (by decide) fun a hF => ?_
        refine s_val hF (x_load rfl (m_load flat3 (m4.cell (j := 0) rfl))) (by decide) fun a hF => ?_
        refine s_val hF (x_eql (b := false) (decide_eq_false (by omega)) rfl rfl) (by decide) fun a hF => ?_
        refine s_val hF (x_move rfl) (by decide) fun a hF => ?_
        refine s_grdn 73 hF rfl rfl (by decide) fun a hF => ?_
        refine s_grdn 73 hF rfl rfl (by decide) fun a hF => ?_
        refine s_grdn 73 hF rfl rfl (by decide) fun a hF => ?_
        refine s_grdn 73 hF rfl rfl (by decide) fun a hF => ?_
        refine s_grdu 77 hF rfl rfl (by decide) fun a hF => ?_
        refine s_grdu 77 hF rfl rfl (by decide) fun a hF => ?_
        refine s_grdu 77 hF rfl rfl (by decide) fun a hF => ?_
        refine s_grdu 77 hF rfl rfl (by decide) fun a hF => ?_
        refine s_grdn 73 hF rfl rfl (by decide) fun a hF => ?_
        refine s_val hF (x_pick (b := false) rfl rfl) (by decide) fun a hF => ?_
        refine s_val hF (x_assign rfl) (by decide) fun a hF => ?_
        refine s_end (hK68 _ _ ?_)
        refine wp_if hF rfl ?_
        refine wp_skip (hK3 _ _ ?_)
        refine wp_seq_k fun K69 hK69 => ?_
        refine wp_rs fun K70 hK70 => ?_
        refine s_val hF (x_fa0 fa24_2 rfl) (by decide) fun a hF => ?_
        refine s_val hF (x_load rfl (m_load flat22 (m4.cell (j := 2) rfl))) (by decide) fun a hF => ?_
        refine s_val hF (x_len Try.underlying22 rfl) (by decide) fun a hF => ?_
        refine s_val hF (x_move rfl) (by decide) fun a hF => ?_
        refine s_end (hK70 _ _ ?_)
        refine wp_block ?_
        have mg : Blk w10 g 3 [.int .i64 (100 - ((r - 1 : Nat) : Int))] := by rw [show (100 : Int) - ((r - 1 : Nat) : Int) = 100 - (r : Int) + 1 by omega]; exact mg
        refine wp_up xs.length (fun i a w => ∃ ri : Nat, ri ≤ 100 ∧ chks 32 1048576 vars (d + 1) (r - 1) ls = chks 32 1048576 vars (d + 1) ri (ls.drop i) ∧ Blk w g 3 [.int .i64 (100 - (ri : Int))] ∧ Below w0.heap.size w0 w ∧ Ktw g g w1 w ∧ Fs 101 a [(87, .int .i64 (i : Int)), (86, .int .i64 (xs.length : Int)), (85, .slice av xs.length cv), (1, .int .i64 vars), (2, .int .i64 d), (3, .pointer (some ⟨g, 0, none⟩))]) ⟨r - 1, by omega, rfl, mg, hB, hK, hF.sub _ rfl⟩ ?_
        clear hF hB hK mg
        rintro i a w hi ⟨ri, hri, hck, mg, hB, hK, hF⟩ K' hK'
        have sB := hB.size
        have hgl := mg.lt
        have sK := hK.size
        have hle := kids_le hkl
        refine wp_rs fun K71 hK71 => ?_
        refine s_val hF (x_lss rfl rfl rfl) (by decide) fun a hF => ?_
        refine s_end (hK71 _ _ ?_)
        refine wp_seq_k fun K72 hK72 => ?_
        refine wp_iff hF rfl (fun hc88 => ?_) (fun hc88 => ?_)
        · obtain ⟨b, off, c, y, hve, hy, hrow⟩ := rd_row3 hR (i := i) (by omega)
          cases hve
          obtain ⟨l, hlk⟩ : ∃ l, ls[i]? = some l := ⟨_, List.getElem?_eq_getElem (by omega)⟩
          have ihy := ih i y l hy hlk
          have h1y := (hk i y l hy hlk).one1
          rw [drop_at hlk] at hck
          refine wp_skip (hK72 _ _ ?_)
          refine wp_seq_k fun K73 hK73 => ?_
          refine wp_block ?_
          refine wp_rs fun K74 hK74 => ?_
          refine s_val hF (x_ixa rfl rfl (m_ixsK i Try.underlying22 el22.size rfl (by omega))) (by decide) fun a hF => ?_
          refine s_val hF (x_ldA wide24 (hrow _ hB) rfl rfl) (by decide) fun a hF => ?_
          refine s_alloc hF (by decide) zero24 fun w30 b10 a eb10 m10 B31 zb10 hF => ?_
          have sB31 := B31.size
          have hB := hB.trans (B31.mono hB.size)
          have hK := hK.below B31
          have mg := mg.old B31
          refine s_putW hF rfl rfl (size_wide wide24) m10 rfl (one_lc h1y) fun w32 m10 o33 => ?_
          have so33 := o33.size
          have hB := hB.trans (o33.below (by omega))
          have hK := hK.only o33 (by omega)
          have mg := mg.only o33 (by omega)
          refine s_end (hK74 _ _ ?_)
          refine wp_rs fun K75 hK75 => ?_
          refine s_val hF (x_ldW wide24 m10 rfl rfl) (by decide) fun a hF => ?_
          refine s_val hF (x_move rfl) (by decide) fun a hF => ?_
          refine s_val hF (x_move rfl) (by decide) fun a hF => ?_
          refine s_val hF (x_add (by omega) (by omega) rfl rfl) (by decide) fun a hF => ?_
          refine s_val hF (x_move rfl) (by decide) fun a hF => ?_
          refine s_call (R := fun u w' => (u = .int .i64 (chk 32 1048576 vars (d + 1) ri l).1 ∧ ((chk 32 1048576 vars (d + 1) ri l).1 = 0 → Blk w' g 3 [.int .i64 (100 - ((chk 32 1048576 vars (d + 1) ri l).2 : Int))])) ∧ Ktw g g w32 w') hF [_, _, _, _] (enters_of Try.func82 (by kernel_rfl) rfl) rfl (by decide) (ihy (d + 1) ri w32 (by omega) (by omega) hri hB mg) ?_
          rintro _ w34 a ⟨⟨rfl, hmg⟩, k35⟩ hF
          have sk35 := k35.size
          have hB := k35.under hB (by omega)
          have hK := hK.trans k35 (by omega)
          have m10 := m10.k2 k35 (by omega)
          refine s_val hF (x_assign rfl) (by decide) fun a hF => ?_
          refine s_end (hK75 _ _ ?_)
          refine wp_rs fun K76 hK76 => ?_
          refine s_val hF (x_move rfl) (by decide) fun a hF => ?_
          refine s_val hF (x_neq rfl rfl rfl) (by decide) fun a hF => ?_
          refine s_end (hK76 _ _ ?_)
          refine wp_iff hF rfl (fun hc98 => ?_) (fun hc98 => ?_)
          · refine wp_rs fun K77 hK77 => ?_
            refine s_val hF (x_move rfl) (by decide) fun a hF => ?_
            refine s_val hF (x_assign rfl) (by decide) fun a hF => ?_
            refine s_end (hK77 _ _ ?_)
            refine wp_ret (inb_ret (then_ret (then_ret (inb_ret (then_ret (res_slot hF rfl rfl ⟨_, rfl, ⟨int_of (by rw [chk_in hnd, hck, chks_out hc98]), fun h => absurd (by rw [chk_in hnd, hck, chks_out hc98] at h; exact h) hc98⟩, hK⟩))))))
          · have hc0 : (chk 32 1048576 vars (d + 1) ri l).1 = 0 := by omega
            have mg := hmg hc0
            refine wp_skip (hK73 _ _ ?_)
            refine wp_region_lit ?_
            refine s_val hF (x_addn (i + 1) (by omega) (by omega) rfl rfl) (by decide) fun a hF => ?_
            refine s_val hF (x_move rfl) (by decide) fun a hF => ?_
            refine s_end (hK' _ _ (by omega) ⟨(chk 32 1048576 vars (d + 1) ri l).2, Nat.le_trans (chk_le _ _ _ _ _ _) hri, by rw [hck, chks_in hc0], mg, hB, hK, hF.sub _ rfl⟩)
        · refine wp_exit (hK69 _ _ ?_)
          refine wp_rs fun K78 hK78 => ?_
          refine s_val hF (x_assign rfl) (by decide) fun a hF => ?_
          refine s_end (hK78 _ _ ?_)
          have hnil : ls.drop i = [] := List.drop_of_length_le (by omega)
          rw [hnil] at hck
          refine wp_ret (res_slot hF rfl rfl ⟨_, rfl, ⟨int_of (by rw [chk_in hnd, hck]; rfl), fun _ => by rw [chk_in hnd, hck]; exact mg⟩, hK⟩)

set_option maxRecDepth 100000 in
set_option maxHeartbeats 1600000 in
theorem rmay14 (x : C3) (l : Lv) (vars : Int) (w0 : World) (hL : RL w0 x l) : Calls Try.prog 42 #[lv x, .int .i64 vars] w0 fun e w' => e = .returned (.int .i64 (chk 32 1048576 vars 1 100 l).1) ∧ Below w0.heap.size w0 w' := by
  have hB := Below.refl w0.heap.size w0
  have sB := hB.size
  refine calls_fs 9 [(0, lv x), (1, .int .i64 vars)] Try.func42 rfl rfl rfl rfl rfl fun a hF => ?_
  refine wp_rs fun K1 hK1 => ?_
  refine s_box (lc x) hF (by decide) rfl rfl fun w2 b2 a eb2 m2 B3 zb2 hF => ?_
  have sB3 := B3.size
  have hB := hB.trans (B3.mono hB.size)
  refine s_val hF (x_assign rfl) (by decide) fun a hF => ?_
  refine s_end (hK1 _ _ ?_)
  refine wp_rs fun K2 hK2 => ?_
  refine s_alloc1 hF (by decide) zero3 rfl fun w4 b5 a eb5 m5 B5 zb5 hF => ?_
  have sB5 := B5.size
  have hB := hB.trans (B5.mono hB.size)
  have m2 := m2.old B5
  refine s_put hF rfl rfl flat3 m5 (by simp) rfl fun w6 m5 o7 => ?_
  have so7 := o7.size
  have hB := hB.trans (o7.below (by omega))
  have m2 := m2.only o7 (by omega)
  refine s_end (hK2 _ _ ?_)
  refine wp_rs fun K3 hK3 => ?_
  refine s_val hF (x_ldW wide24 m2 rfl rfl) (by decide) fun a hF => ?_
  refine s_val hF (x_move rfl) (by decide) fun a hF => ?_
  refine s_call (R := fun u w' => (u = .int .i64 (chk 32 1048576 vars 1 100 l).1 ∧ ((chk 32 1048576 vars 1 100 l).1 = 0 → Blk w' b5 3 [.int .i64 (100 - ((chk 32 1048576 vars 1 100 l).2 : Int))])) ∧ Ktw b5 b5 w6 w') hF [_, _, _, _] (enters_of Try.func82 (by kernel_rfl) rfl) rfl (by decide) (rmay35 vars w0 b5 (by omega) x l hL 1 100 w6 (by decide) (by decide) (by decide) hB m5) ?_
  rintro _ w8 a ⟨⟨rfl, _⟩, k9⟩ hF
  have sk9 := k9.size
  have hB := k9.under hB (by omega)
  have m2 := m2.k2 k9 (by omega)
  refine s_val hF (x_assign rfl) (by decide) fun a hF => ?_
  refine s_end (hK3 _ _ ?_)
  refine wp_ret (res_slot hF rfl rfl ⟨rfl, hB⟩)
end Go.Proofs.Ytaclncmkdpjnlaa
